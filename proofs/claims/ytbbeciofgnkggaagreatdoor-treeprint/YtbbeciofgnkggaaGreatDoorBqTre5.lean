import Derived.Test.YtbbeciofgnkggaaGreatDoorBqTre4
import Derived.Test.YtbbeciofgnkggaaGreatDoorBqNod1
import Derived.Test.YtbbeciofgnkggaaGreatDoorBqTre3
set_option linter.unusedSimpArgs false
set_option linter.unusedVariables false
set_option maxRecDepth 10000
set_option maxHeartbeats 2000000
namespace Go.Proofs.YtbbeciofgnkggaaGreatDoor.tre
open Go.RowKit nod
open rng(R RV ret_int ret_bool below_drewN info_parts own_below')
open tok(PEnv TX printL)
theorem sides_t{w0 W:World}{base g:Nat}{s:Wr}(c:Cx w0 W base g s)(k m a b:Int)(ng:Bool)(n:ByteArray)(sa:Option Addr)(sl sc:Nat)(kb ko cap:Nat)(hcap:2≤cap)(lk lm la lb rk rm ra rb:Int)(lg rg:Bool)(ln rn:ByteArray)(lsa lao rsa rao:Option Addr)(lsl lsc lnk lcap rsl rsc rnk rcap:Nat)(HA:Hid (At8 w0 kb ko (.agg (n8 lk lm la lb lg ln lsa lsl lsc lao lnk lcap))))(HA2:Hid (At8 w0 kb (ko+8) (.agg (n8 rk 0 ra rb rg rn rsa rsl rsc rao rnk rcap))))(hkb:kb<base)(O:ByteArray)(hO:O.size=2)(HOP:Hid (Cw w0 W base g (n8 k m a b ng n sa sl sc (some ⟨kb,ko,none⟩) 2 cap) (n8 lk lm la lb lg ln lsa lsl lsc lao lnk lcap) (n8 rk 0 ra rb rg rn rsa rsl rsc rao rnk rcap) s s 97 #[.int .i64 m] (.string O)))(HSL:Hid (Cw w0 W base g (n8 k m a b ng n sa sl sc (some ⟨kb,ko,none⟩) 2 cap) (n8 lk lm la lb lg ln lsa lsl lsc lao lnk lcap) (n8 rk 0 ra rb rg rn rsa rsl rsc rao rnk rcap) s s 98 #[.agg (n8 lk lm la lb lg ln lsa lsl lsc lao lnk lcap)] (.bool true)))(HSR:Hid (Cw w0 W base g (n8 k m a b ng n sa sl sc (some ⟨kb,ko,none⟩) 2 cap) (n8 lk lm la lb lg ln lsa lsl lsc lao lnk lcap) (n8 rk 0 ra rb rg rn rsa rsl rsc rao rnk rcap) s s 98 #[.agg (n8 rk 0 ra rb rg rn rsa rsl rsc rao rnk rcap)] (.bool true)))(HTK:Hid (∀p q W',SW w0 W base g W.heap.size (n8 k m a b ng n sa sl sc (some ⟨kb,ko,none⟩) 2 cap) p (n8 lk lm la lb lg ln lsa lsl lsc lao lnk lcap) q (n8 rk 0 ra rb rg rn rsa rsl rsc rao rnk rcap) s W'→Calls Tryz.prog 48 #[.pointer (some ⟨g,0,none⟩),.int .i64 2] W' fun e w'=>e=.returned (.bool false)∧Kt base W w')):Met 79 #[.pointer (some ⟨g,0,none⟩),.agg (n8 k m a b ng n sa sl sc (some ⟨kb,ko,none⟩) 2 cap)] w0 W base g (none):=by
 have HS:=Sn.st c (n8 k m a b ng n sa sl sc (some ⟨kb,ko,none⟩) 2 cap)
 have hgb:=c.c.size
 obtain⟨k0,k1,k2,k3,k4,k5,k6,k7⟩:=HS.out.kid HA.out hkb
 obtain⟨j0,j1,j2,j3,j4,j5,j6,j7⟩:=HS.out.kid HA2.out hkb
 have hl1:=HS.out.bk.lt
 unfold Met
 clear c
 go_enter Tryz.func79,Tryz.ntmps79
 go_wp2
 go_region_held3(fun w'=>w'.cell? ⟨W.heap.size,7,none⟩=some (.slice (some ⟨kb,ko,none⟩) 2 cap)∧w'.cell? ⟨kb,ko,none⟩=some (.int .i64 lk)∧w'.cell? ⟨kb,ko+1,none⟩=some (.int .i64 lm)∧w'.cell? ⟨kb,ko+2,none⟩=some (.int .i64 la)∧w'.cell? ⟨kb,ko+3,none⟩=some (.int .i64 lb)∧w'.cell? ⟨kb,ko+4,none⟩=some (.bool lg)∧w'.cell? ⟨kb,ko+5,none⟩=some (.string ln)∧w'.cell? ⟨kb,ko+6,none⟩=some (.slice lsa lsl lsc)∧w'.cell? ⟨kb,ko+7,none⟩=some (.slice lao lnk lcap)∧w'.cell? ⟨kb,ko+8,none⟩=some (.int .i64 rk)∧w'.cell? ⟨kb,ko+8+1,none⟩=some (.int .i64 0)∧w'.cell? ⟨kb,ko+8+2,none⟩=some (.int .i64 ra)∧w'.cell? ⟨kb,ko+8+3,none⟩=some (.int .i64 rb)∧w'.cell? ⟨kb,ko+8+4,none⟩=some (.bool rg)∧w'.cell? ⟨kb,ko+8+5,none⟩=some (.string rn)∧w'.cell? ⟨kb,ko+8+6,none⟩=some (.slice rsa rsl rsc)∧w'.cell? ⟨kb,ko+8+7,none⟩=some (.slice rao rnk rcap))(go_keep)(fail)
 ·clear k0 k1 k2 k3 k4 k5 k6 k7 j0 j1 j2 j3 j4 j5 j6 j7
  have HT0:=SW.sA (n8 lk lm la lb lg ln lsa lsl lsc lao lnk lcap) (n8 rk 0 ra rb rg rn rsa rsl rsc rao rnk rcap) HS.out
  go_wp2_with(first
   |(go_at_call 97;refine(HOP.out _ _ _ HT0.out).mono ?_;rintro e w1⟨rfl,d⟩;have HT3:Hid (SW w0 W base g W.heap.size (n8 k m a b ng n sa sl sc (some ⟨kb,ko,none⟩) 2 cap) (W.heap.size+1) (n8 lk lm la lb lg ln lsa lsl lsc lao lnk lcap) (W.heap.size+1+1) (n8 rk 0 ra rb rg rn rsa rsl rsc rao rnk rcap) s w1):=d;obtain⟨xl0,xl1,xl2,xl3,xl4,xl5,xl6,xl7⟩:=Bk.c8 d.bl;obtain⟨xr0,xr1,xr2,xr3,xr4,xr5,xr6,xr7⟩:=Bk.c8 d.br;clear d)
   |(go_at_call_of 98(Value.string ln);refine(HSL.out _ _ _ HT3.out).mono ?_;rintro e w2⟨rfl,d⟩;have HT4:Hid (SW w0 W base g W.heap.size (n8 k m a b ng n sa sl sc (some ⟨kb,ko,none⟩) 2 cap) (W.heap.size+1) (n8 lk lm la lb lg ln lsa lsl lsc lao lnk lcap) (W.heap.size+1+1) (n8 rk 0 ra rb rg rn rsa rsl rsc rao rnk rcap) s w2):=d;obtain⟨xl0,xl1,xl2,xl3,xl4,xl5,xl6,xl7⟩:=Bk.c8 d.bl;obtain⟨xr0,xr1,xr2,xr3,xr4,xr5,xr6,xr7⟩:=Bk.c8 d.br;clear d)
   |(go_at_call_of 98(Value.string rn);refine(HSR.out _ _ _ HT4.out).mono ?_;rintro e w3⟨rfl,d⟩;have HT5:Hid (SW w0 W base g W.heap.size (n8 k m a b ng n sa sl sc (some ⟨kb,ko,none⟩) 2 cap) (W.heap.size+1) (n8 lk lm la lb lg ln lsa lsl lsc lao lnk lcap) (W.heap.size+1+1) (n8 rk 0 ra rb rg rn rsa rsl rsc rao rnk rcap) s w3):=d;obtain⟨xl0,xl1,xl2,xl3,xl4,xl5,xl6,xl7⟩:=Bk.c8 d.bl;obtain⟨xr0,xr1,xr2,xr3,xr4,xr5,xr6,xr7⟩:=Bk.c8 d.br;clear d)
   |(go_at_call 48;refine(HTK.out _ _ _ HT5.out).mono ?_;rintro e w4⟨rfl,d⟩;have HZ:Hid (Kt base W w4):=d;clear d))
  go_ret
  exact met_no rfl HZ.out
 ·clear k0 k1 k2 k3 k4 k5 k6 k7 j0 j1 j2 j3 j4 j5 j6 j7
  have HT0:=SW.sB (n8 lk lm la lb lg ln lsa lsl lsc lao lnk lcap) (n8 rk 0 ra rb rg rn rsa rsl rsc rao rnk rcap) HS.out
  go_wp2_with(first
   |(go_at_call 97;refine(HOP.out _ _ _ HT0.out).mono ?_;rintro e w1⟨rfl,d⟩;have HT3:Hid (SW w0 W base g W.heap.size (n8 k m a b ng n sa sl sc (some ⟨kb,ko,none⟩) 2 cap) (W.heap.size+1+1) (n8 lk lm la lb lg ln lsa lsl lsc lao lnk lcap) (W.heap.size+1) (n8 rk 0 ra rb rg rn rsa rsl rsc rao rnk rcap) s w1):=d;obtain⟨xl0,xl1,xl2,xl3,xl4,xl5,xl6,xl7⟩:=Bk.c8 d.bl;obtain⟨xr0,xr1,xr2,xr3,xr4,xr5,xr6,xr7⟩:=Bk.c8 d.br;clear d)
   |(go_at_call_of 98(Value.string ln);refine(HSL.out _ _ _ HT3.out).mono ?_;rintro e w2⟨rfl,d⟩;have HT4:Hid (SW w0 W base g W.heap.size (n8 k m a b ng n sa sl sc (some ⟨kb,ko,none⟩) 2 cap) (W.heap.size+1+1) (n8 lk lm la lb lg ln lsa lsl lsc lao lnk lcap) (W.heap.size+1) (n8 rk 0 ra rb rg rn rsa rsl rsc rao rnk rcap) s w2):=d;obtain⟨xl0,xl1,xl2,xl3,xl4,xl5,xl6,xl7⟩:=Bk.c8 d.bl;obtain⟨xr0,xr1,xr2,xr3,xr4,xr5,xr6,xr7⟩:=Bk.c8 d.br;clear d)
   |(go_at_call_of 98(Value.string rn);refine(HSR.out _ _ _ HT4.out).mono ?_;rintro e w3⟨rfl,d⟩;have HT5:Hid (SW w0 W base g W.heap.size (n8 k m a b ng n sa sl sc (some ⟨kb,ko,none⟩) 2 cap) (W.heap.size+1+1) (n8 lk lm la lb lg ln lsa lsl lsc lao lnk lcap) (W.heap.size+1) (n8 rk 0 ra rb rg rn rsa rsl rsc rao rnk rcap) s w3):=d;obtain⟨xl0,xl1,xl2,xl3,xl4,xl5,xl6,xl7⟩:=Bk.c8 d.bl;obtain⟨xr0,xr1,xr2,xr3,xr4,xr5,xr6,xr7⟩:=Bk.c8 d.br;clear d)
   |(go_at_call 48;refine(HTK.out _ _ _ HT5.out).mono ?_;rintro e w4⟨rfl,d⟩;have HZ:Hid (Kt base W w4):=d;clear d))
  go_ret
  exact met_no rfl HZ.out
theorem sides_i{w0 W:World}{base g:Nat}{s:Wr}(c:Cx w0 W base g s)(k m a b:Int)(ng:Bool)(n:ByteArray)(sa:Option Addr)(sl sc:Nat)(kb ko cap:Nat)(hcap:2≤cap)(lk lm la lb rk rm ra rb:Int)(lg rg:Bool)(ln rn:ByteArray)(lsa lao rsa rao:Option Addr)(lsl lsc lnk lcap rsl rsc rnk rcap:Nat)(HA:Hid (At8 w0 kb ko (.agg (n8 lk lm la lb lg ln lsa lsl lsc lao lnk lcap))))(HA2:Hid (At8 w0 kb (ko+8) (.agg (n8 rk 0 ra rb rg rn rsa rsl rsc rao rnk rcap))))(hkb:kb<base)(O:ByteArray)(hO:O.size=2)(HOP:Hid (Cw w0 W base g (n8 k m a b ng n sa sl sc (some ⟨kb,ko,none⟩) 2 cap) (n8 lk lm la lb lg ln lsa lsl lsc lao lnk lcap) (n8 rk 0 ra rb rg rn rsa rsl rsc rao rnk rcap) s s 97 #[.int .i64 m] (.string O)))(HSL:Hid (Cw w0 W base g (n8 k m a b ng n sa sl sc (some ⟨kb,ko,none⟩) 2 cap) (n8 lk lm la lb lg ln lsa lsl lsc lao lnk lcap) (n8 rk 0 ra rb rg rn rsa rsl rsc rao rnk rcap) s s 98 #[.agg (n8 lk lm la lb lg ln lsa lsl lsc lao lnk lcap)] (.bool true)))(HSR:Hid (Cw w0 W base g (n8 k m a b ng n sa sl sc (some ⟨kb,ko,none⟩) 2 cap) (n8 lk lm la lb lg ln lsa lsl lsc lao lnk lcap) (n8 rk 0 ra rb rg rn rsa rsl rsc rao rnk rcap) s s 98 #[.agg (n8 rk 0 ra rb rg rn rsa rsl rsc rao rnk rcap)] (.bool true)))(HTK:Hid (Cw w0 W base g (n8 k m a b ng n sa sl sc (some ⟨kb,ko,none⟩) 2 cap) (n8 lk lm la lb lg ln lsa lsl lsc lao lnk lcap) (n8 rk 0 ra rb rg rn rsa rsl rsc rao rnk rcap) s (s.less 2) 48 #[.pointer (some ⟨g,0,none⟩),.int .i64 2] (.bool true)))(HIL:Hid (∀p q W',SW w0 W base g W.heap.size (n8 k m a b ng n sa sl sc (some ⟨kb,ko,none⟩) 2 cap) p (n8 lk lm la lb lg ln lsa lsl lsc lao lnk lcap) q (n8 rk 0 ra rb rg rn rsa rsl rsc rao rnk rcap) (s.less 2) W'→Calls Tryz.prog 58 #[.pointer (some ⟨g,0,none⟩),.agg (n8 lk lm la lb lg ln lsa lsl lsc lao lnk lcap)] W' fun e w'=>e=.returned (.bool false)∧Kt base W w')):Met 79 #[.pointer (some ⟨g,0,none⟩),.agg (n8 k m a b ng n sa sl sc (some ⟨kb,ko,none⟩) 2 cap)] w0 W base g (none):=by
 have HS:=Sn.st c (n8 k m a b ng n sa sl sc (some ⟨kb,ko,none⟩) 2 cap)
 have hgb:=c.c.size
 obtain⟨k0,k1,k2,k3,k4,k5,k6,k7⟩:=HS.out.kid HA.out hkb
 obtain⟨j0,j1,j2,j3,j4,j5,j6,j7⟩:=HS.out.kid HA2.out hkb
 have hl1:=HS.out.bk.lt
 unfold Met
 clear c
 go_enter Tryz.func79,Tryz.ntmps79
 go_wp2
 go_region_held3(fun w'=>w'.cell? ⟨W.heap.size,7,none⟩=some (.slice (some ⟨kb,ko,none⟩) 2 cap)∧w'.cell? ⟨kb,ko,none⟩=some (.int .i64 lk)∧w'.cell? ⟨kb,ko+1,none⟩=some (.int .i64 lm)∧w'.cell? ⟨kb,ko+2,none⟩=some (.int .i64 la)∧w'.cell? ⟨kb,ko+3,none⟩=some (.int .i64 lb)∧w'.cell? ⟨kb,ko+4,none⟩=some (.bool lg)∧w'.cell? ⟨kb,ko+5,none⟩=some (.string ln)∧w'.cell? ⟨kb,ko+6,none⟩=some (.slice lsa lsl lsc)∧w'.cell? ⟨kb,ko+7,none⟩=some (.slice lao lnk lcap)∧w'.cell? ⟨kb,ko+8,none⟩=some (.int .i64 rk)∧w'.cell? ⟨kb,ko+8+1,none⟩=some (.int .i64 0)∧w'.cell? ⟨kb,ko+8+2,none⟩=some (.int .i64 ra)∧w'.cell? ⟨kb,ko+8+3,none⟩=some (.int .i64 rb)∧w'.cell? ⟨kb,ko+8+4,none⟩=some (.bool rg)∧w'.cell? ⟨kb,ko+8+5,none⟩=some (.string rn)∧w'.cell? ⟨kb,ko+8+6,none⟩=some (.slice rsa rsl rsc)∧w'.cell? ⟨kb,ko+8+7,none⟩=some (.slice rao rnk rcap))(go_keep)(fail)
 ·clear k0 k1 k2 k3 k4 k5 k6 k7 j0 j1 j2 j3 j4 j5 j6 j7
  have HT0:=SW.sA (n8 lk lm la lb lg ln lsa lsl lsc lao lnk lcap) (n8 rk 0 ra rb rg rn rsa rsl rsc rao rnk rcap) HS.out
  go_wp2_with(first
   |(go_at_call 97;refine(HOP.out _ _ _ HT0.out).mono ?_;rintro e w1⟨rfl,d⟩;have HT3:Hid (SW w0 W base g W.heap.size (n8 k m a b ng n sa sl sc (some ⟨kb,ko,none⟩) 2 cap) (W.heap.size+1) (n8 lk lm la lb lg ln lsa lsl lsc lao lnk lcap) (W.heap.size+1+1) (n8 rk 0 ra rb rg rn rsa rsl rsc rao rnk rcap) s w1):=d;obtain⟨xl0,xl1,xl2,xl3,xl4,xl5,xl6,xl7⟩:=Bk.c8 d.bl;obtain⟨xr0,xr1,xr2,xr3,xr4,xr5,xr6,xr7⟩:=Bk.c8 d.br;clear d)
   |(go_at_call_of 98(Value.string ln);refine(HSL.out _ _ _ HT3.out).mono ?_;rintro e w2⟨rfl,d⟩;have HT4:Hid (SW w0 W base g W.heap.size (n8 k m a b ng n sa sl sc (some ⟨kb,ko,none⟩) 2 cap) (W.heap.size+1) (n8 lk lm la lb lg ln lsa lsl lsc lao lnk lcap) (W.heap.size+1+1) (n8 rk 0 ra rb rg rn rsa rsl rsc rao rnk rcap) s w2):=d;obtain⟨xl0,xl1,xl2,xl3,xl4,xl5,xl6,xl7⟩:=Bk.c8 d.bl;obtain⟨xr0,xr1,xr2,xr3,xr4,xr5,xr6,xr7⟩:=Bk.c8 d.br;clear d)
   |(go_at_call_of 98(Value.string rn);refine(HSR.out _ _ _ HT4.out).mono ?_;rintro e w3⟨rfl,d⟩;have HT5:Hid (SW w0 W base g W.heap.size (n8 k m a b ng n sa sl sc (some ⟨kb,ko,none⟩) 2 cap) (W.heap.size+1) (n8 lk lm la lb lg ln lsa lsl lsc lao lnk lcap) (W.heap.size+1+1) (n8 rk 0 ra rb rg rn rsa rsl rsc rao rnk rcap) s w3):=d;obtain⟨xl0,xl1,xl2,xl3,xl4,xl5,xl6,xl7⟩:=Bk.c8 d.bl;obtain⟨xr0,xr1,xr2,xr3,xr4,xr5,xr6,xr7⟩:=Bk.c8 d.br;clear d)
   |(go_at_call 48;refine(HTK.out _ _ _ HT5.out).mono ?_;rintro e w4⟨rfl,d⟩;have HT6:Hid (SW w0 W base g W.heap.size (n8 k m a b ng n sa sl sc (some ⟨kb,ko,none⟩) 2 cap) (W.heap.size+1) (n8 lk lm la lb lg ln lsa lsl lsc lao lnk lcap) (W.heap.size+1+1) (n8 rk 0 ra rb rg rn rsa rsl rsc rao rnk rcap) (s.less 2) w4):=d;obtain⟨xl0,xl1,xl2,xl3,xl4,xl5,xl6,xl7⟩:=Bk.c8 d.bl;obtain⟨xr0,xr1,xr2,xr3,xr4,xr5,xr6,xr7⟩:=Bk.c8 d.br;clear d)
   |(go_at_call 58;refine(HIL.out _ _ _ HT6.out).mono ?_;rintro e w5⟨rfl,d⟩;have HZ:Hid (Kt base W w5):=d;clear d))
  go_ret
  exact met_no rfl HZ.out
 ·clear k0 k1 k2 k3 k4 k5 k6 k7 j0 j1 j2 j3 j4 j5 j6 j7
  have HT0:=SW.sB (n8 lk lm la lb lg ln lsa lsl lsc lao lnk lcap) (n8 rk 0 ra rb rg rn rsa rsl rsc rao rnk rcap) HS.out
  go_wp2_with(first
   |(go_at_call 97;refine(HOP.out _ _ _ HT0.out).mono ?_;rintro e w1⟨rfl,d⟩;have HT3:Hid (SW w0 W base g W.heap.size (n8 k m a b ng n sa sl sc (some ⟨kb,ko,none⟩) 2 cap) (W.heap.size+1+1) (n8 lk lm la lb lg ln lsa lsl lsc lao lnk lcap) (W.heap.size+1) (n8 rk 0 ra rb rg rn rsa rsl rsc rao rnk rcap) s w1):=d;obtain⟨xl0,xl1,xl2,xl3,xl4,xl5,xl6,xl7⟩:=Bk.c8 d.bl;obtain⟨xr0,xr1,xr2,xr3,xr4,xr5,xr6,xr7⟩:=Bk.c8 d.br;clear d)
   |(go_at_call_of 98(Value.string ln);refine(HSL.out _ _ _ HT3.out).mono ?_;rintro e w2⟨rfl,d⟩;have HT4:Hid (SW w0 W base g W.heap.size (n8 k m a b ng n sa sl sc (some ⟨kb,ko,none⟩) 2 cap) (W.heap.size+1+1) (n8 lk lm la lb lg ln lsa lsl lsc lao lnk lcap) (W.heap.size+1) (n8 rk 0 ra rb rg rn rsa rsl rsc rao rnk rcap) s w2):=d;obtain⟨xl0,xl1,xl2,xl3,xl4,xl5,xl6,xl7⟩:=Bk.c8 d.bl;obtain⟨xr0,xr1,xr2,xr3,xr4,xr5,xr6,xr7⟩:=Bk.c8 d.br;clear d)
   |(go_at_call_of 98(Value.string rn);refine(HSR.out _ _ _ HT4.out).mono ?_;rintro e w3⟨rfl,d⟩;have HT5:Hid (SW w0 W base g W.heap.size (n8 k m a b ng n sa sl sc (some ⟨kb,ko,none⟩) 2 cap) (W.heap.size+1+1) (n8 lk lm la lb lg ln lsa lsl lsc lao lnk lcap) (W.heap.size+1) (n8 rk 0 ra rb rg rn rsa rsl rsc rao rnk rcap) s w3):=d;obtain⟨xl0,xl1,xl2,xl3,xl4,xl5,xl6,xl7⟩:=Bk.c8 d.bl;obtain⟨xr0,xr1,xr2,xr3,xr4,xr5,xr6,xr7⟩:=Bk.c8 d.br;clear d)
   |(go_at_call 48;refine(HTK.out _ _ _ HT5.out).mono ?_;rintro e w4⟨rfl,d⟩;have HT6:Hid (SW w0 W base g W.heap.size (n8 k m a b ng n sa sl sc (some ⟨kb,ko,none⟩) 2 cap) (W.heap.size+1+1) (n8 lk lm la lb lg ln lsa lsl lsc lao lnk lcap) (W.heap.size+1) (n8 rk 0 ra rb rg rn rsa rsl rsc rao rnk rcap) (s.less 2) w4):=d;obtain⟨xl0,xl1,xl2,xl3,xl4,xl5,xl6,xl7⟩:=Bk.c8 d.bl;obtain⟨xr0,xr1,xr2,xr3,xr4,xr5,xr6,xr7⟩:=Bk.c8 d.br;clear d)
   |(go_at_call 58;refine(HIL.out _ _ _ HT6.out).mono ?_;rintro e w5⟨rfl,d⟩;have HZ:Hid (Kt base W w5):=d;clear d))
  go_ret
  exact met_no rfl HZ.out
end Go.Proofs.YtbbeciofgnkggaaGreatDoor.tre
namespace Go.Proofs.YtbbeciofgnkggaaGreatDoor.tre
open Go.RowKit nod
open rng(R RV ret_int ret_bool below_drewN info_parts own_below')
open tok(PEnv TX printL)
theorem sides_w{w0 W:World}{base g:Nat}{s:Wr}(c:Cx w0 W base g s)(k m a b:Int)(ng:Bool)(n:ByteArray)(sa:Option Addr)(sl sc:Nat)(kb ko cap:Nat)(hcap:2≤cap)(lk lm la lb rk rm ra rb:Int)(lg rg:Bool)(ln rn:ByteArray)(lsa lao rsa rao:Option Addr)(lsl lsc lnk lcap rsl rsc rnk rcap:Nat)(HA:Hid (At8 w0 kb ko (.agg (n8 lk lm la lb lg ln lsa lsl lsc lao lnk lcap))))(HA2:Hid (At8 w0 kb (ko+8) (.agg (n8 rk 0 ra rb rg rn rsa rsl rsc rao rnk rcap))))(hkb:kb<base)(O:ByteArray)(hO:O.size=2)(s1:Wr)(P:Option Wr)(HOP:Hid (Cw w0 W base g (n8 k m a b ng n sa sl sc (some ⟨kb,ko,none⟩) 2 cap) (n8 lk lm la lb lg ln lsa lsl lsc lao lnk lcap) (n8 rk 0 ra rb rg rn rsa rsl rsc rao rnk rcap) s s 97 #[.int .i64 m] (.string O)))(HSL:Hid (Cw w0 W base g (n8 k m a b ng n sa sl sc (some ⟨kb,ko,none⟩) 2 cap) (n8 lk lm la lb lg ln lsa lsl lsc lao lnk lcap) (n8 rk 0 ra rb rg rn rsa rsl rsc rao rnk rcap) s s 98 #[.agg (n8 lk lm la lb lg ln lsa lsl lsc lao lnk lcap)] (.bool true)))(HSR:Hid (Cw w0 W base g (n8 k m a b ng n sa sl sc (some ⟨kb,ko,none⟩) 2 cap) (n8 lk lm la lb lg ln lsa lsl lsc lao lnk lcap) (n8 rk 0 ra rb rg rn rsa rsl rsc rao rnk rcap) s s 98 #[.agg (n8 rk 0 ra rb rg rn rsa rsl rsc rao rnk rcap)] (.bool true)))(HTK:Hid (Cw w0 W base g (n8 k m a b ng n sa sl sc (some ⟨kb,ko,none⟩) 2 cap) (n8 lk lm la lb lg ln lsa lsl lsc lao lnk lcap) (n8 rk 0 ra rb rg rn rsa rsl rsc rao rnk rcap) s (s.less 2) 48 #[.pointer (some ⟨g,0,none⟩),.int .i64 2] (.bool true)))(HIL:Hid (Cw w0 W base g (n8 k m a b ng n sa sl sc (some ⟨kb,ko,none⟩) 2 cap) (n8 lk lm la lb lg ln lsa lsl lsc lao lnk lcap) (n8 rk 0 ra rb rg rn rsa rsl rsc rao rnk rcap) (s.less 2) s1 58 #[.pointer (some ⟨g,0,none⟩),.agg (n8 lk lm la lb lg ln lsa lsl lsc lao lnk lcap)] (.bool true)))(HWS:Hid (Cw w0 W base g (n8 k m a b ng n sa sl sc (some ⟨kb,ko,none⟩) 2 cap) (n8 lk lm la lb lg ln lsa lsl lsc lao lnk lcap) (n8 rk 0 ra rb rg rn rsa rsl rsc rao rnk rcap) s1 (s1.add O) 49 #[.pointer (some ⟨g,0,none⟩),.string O] (.tuple #[.int .i64 O.size,.nilIface])))(HIR:Hid (∀p q W',SW w0 W base g W.heap.size (n8 k m a b ng n sa sl sc (some ⟨kb,ko,none⟩) 2 cap) p (n8 lk lm la lb lg ln lsa lsl lsc lao lnk lcap) q (n8 rk 0 ra rb rg rn rsa rsl rsc rao rnk rcap) (s1.add O) W'→Calls Tryz.prog 58 #[.pointer (some ⟨g,0,none⟩),.agg (n8 rk 0 ra rb rg rn rsa rsl rsc rao rnk rcap)] W' fun e w'=>e=.returned (.bool (P).isSome)∧(∀s',P=some s'→Cx w0 w' base g s')∧Kt base W w')):Met 79 #[.pointer (some ⟨g,0,none⟩),.agg (n8 k m a b ng n sa sl sc (some ⟨kb,ko,none⟩) 2 cap)] w0 W base g (P):=by
 have HS:=Sn.st c (n8 k m a b ng n sa sl sc (some ⟨kb,ko,none⟩) 2 cap)
 have hgb:=c.c.size
 obtain⟨k0,k1,k2,k3,k4,k5,k6,k7⟩:=HS.out.kid HA.out hkb
 obtain⟨j0,j1,j2,j3,j4,j5,j6,j7⟩:=HS.out.kid HA2.out hkb
 have hl1:=HS.out.bk.lt
 unfold Met
 clear c
 go_enter Tryz.func79,Tryz.ntmps79
 go_wp2
 go_region_held3(fun w'=>w'.cell? ⟨W.heap.size,7,none⟩=some (.slice (some ⟨kb,ko,none⟩) 2 cap)∧w'.cell? ⟨kb,ko,none⟩=some (.int .i64 lk)∧w'.cell? ⟨kb,ko+1,none⟩=some (.int .i64 lm)∧w'.cell? ⟨kb,ko+2,none⟩=some (.int .i64 la)∧w'.cell? ⟨kb,ko+3,none⟩=some (.int .i64 lb)∧w'.cell? ⟨kb,ko+4,none⟩=some (.bool lg)∧w'.cell? ⟨kb,ko+5,none⟩=some (.string ln)∧w'.cell? ⟨kb,ko+6,none⟩=some (.slice lsa lsl lsc)∧w'.cell? ⟨kb,ko+7,none⟩=some (.slice lao lnk lcap)∧w'.cell? ⟨kb,ko+8,none⟩=some (.int .i64 rk)∧w'.cell? ⟨kb,ko+8+1,none⟩=some (.int .i64 0)∧w'.cell? ⟨kb,ko+8+2,none⟩=some (.int .i64 ra)∧w'.cell? ⟨kb,ko+8+3,none⟩=some (.int .i64 rb)∧w'.cell? ⟨kb,ko+8+4,none⟩=some (.bool rg)∧w'.cell? ⟨kb,ko+8+5,none⟩=some (.string rn)∧w'.cell? ⟨kb,ko+8+6,none⟩=some (.slice rsa rsl rsc)∧w'.cell? ⟨kb,ko+8+7,none⟩=some (.slice rao rnk rcap))(go_keep)(fail)
 ·clear k0 k1 k2 k3 k4 k5 k6 k7 j0 j1 j2 j3 j4 j5 j6 j7
  have HT0:=SW.sA (n8 lk lm la lb lg ln lsa lsl lsc lao lnk lcap) (n8 rk 0 ra rb rg rn rsa rsl rsc rao rnk rcap) HS.out
  go_wp2_with(first
   |(go_at_call 97;refine(HOP.out _ _ _ HT0.out).mono ?_;rintro e w1⟨rfl,d⟩;have HT3:Hid (SW w0 W base g W.heap.size (n8 k m a b ng n sa sl sc (some ⟨kb,ko,none⟩) 2 cap) (W.heap.size+1) (n8 lk lm la lb lg ln lsa lsl lsc lao lnk lcap) (W.heap.size+1+1) (n8 rk 0 ra rb rg rn rsa rsl rsc rao rnk rcap) s w1):=d;obtain⟨xl0,xl1,xl2,xl3,xl4,xl5,xl6,xl7⟩:=Bk.c8 d.bl;obtain⟨xr0,xr1,xr2,xr3,xr4,xr5,xr6,xr7⟩:=Bk.c8 d.br;clear d)
   |(go_at_call_of 98(Value.string ln);refine(HSL.out _ _ _ HT3.out).mono ?_;rintro e w2⟨rfl,d⟩;have HT4:Hid (SW w0 W base g W.heap.size (n8 k m a b ng n sa sl sc (some ⟨kb,ko,none⟩) 2 cap) (W.heap.size+1) (n8 lk lm la lb lg ln lsa lsl lsc lao lnk lcap) (W.heap.size+1+1) (n8 rk 0 ra rb rg rn rsa rsl rsc rao rnk rcap) s w2):=d;obtain⟨xl0,xl1,xl2,xl3,xl4,xl5,xl6,xl7⟩:=Bk.c8 d.bl;obtain⟨xr0,xr1,xr2,xr3,xr4,xr5,xr6,xr7⟩:=Bk.c8 d.br;clear d)
   |(go_at_call_of 98(Value.string rn);refine(HSR.out _ _ _ HT4.out).mono ?_;rintro e w3⟨rfl,d⟩;have HT5:Hid (SW w0 W base g W.heap.size (n8 k m a b ng n sa sl sc (some ⟨kb,ko,none⟩) 2 cap) (W.heap.size+1) (n8 lk lm la lb lg ln lsa lsl lsc lao lnk lcap) (W.heap.size+1+1) (n8 rk 0 ra rb rg rn rsa rsl rsc rao rnk rcap) s w3):=d;obtain⟨xl0,xl1,xl2,xl3,xl4,xl5,xl6,xl7⟩:=Bk.c8 d.bl;obtain⟨xr0,xr1,xr2,xr3,xr4,xr5,xr6,xr7⟩:=Bk.c8 d.br;clear d)
   |(go_at_call 48;refine(HTK.out _ _ _ HT5.out).mono ?_;rintro e w4⟨rfl,d⟩;have HT6:Hid (SW w0 W base g W.heap.size (n8 k m a b ng n sa sl sc (some ⟨kb,ko,none⟩) 2 cap) (W.heap.size+1) (n8 lk lm la lb lg ln lsa lsl lsc lao lnk lcap) (W.heap.size+1+1) (n8 rk 0 ra rb rg rn rsa rsl rsc rao rnk rcap) (s.less 2) w4):=d;obtain⟨xl0,xl1,xl2,xl3,xl4,xl5,xl6,xl7⟩:=Bk.c8 d.bl;obtain⟨xr0,xr1,xr2,xr3,xr4,xr5,xr6,xr7⟩:=Bk.c8 d.br;clear d)
   |(go_at_call_of 58(Value.string ln);refine(HIL.out _ _ _ HT6.out).mono ?_;rintro e w5⟨rfl,d⟩;have HT7:Hid (SW w0 W base g W.heap.size (n8 k m a b ng n sa sl sc (some ⟨kb,ko,none⟩) 2 cap) (W.heap.size+1) (n8 lk lm la lb lg ln lsa lsl lsc lao lnk lcap) (W.heap.size+1+1) (n8 rk 0 ra rb rg rn rsa rsl rsc rao rnk rcap) s1 w5):=d;obtain⟨xl0,xl1,xl2,xl3,xl4,xl5,xl6,xl7⟩:=Bk.c8 d.bl;obtain⟨xr0,xr1,xr2,xr3,xr4,xr5,xr6,xr7⟩:=Bk.c8 d.br;clear d)
   |(go_at_call 49;refine(HWS.out _ _ _ HT7.out).mono ?_;rintro e w6⟨rfl,d⟩;have HT8:Hid (SW w0 W base g W.heap.size (n8 k m a b ng n sa sl sc (some ⟨kb,ko,none⟩) 2 cap) (W.heap.size+1) (n8 lk lm la lb lg ln lsa lsl lsc lao lnk lcap) (W.heap.size+1+1) (n8 rk 0 ra rb rg rn rsa rsl rsc rao rnk rcap) (s1.add O) w6):=d;obtain⟨xl0,xl1,xl2,xl3,xl4,xl5,xl6,xl7⟩:=Bk.c8 d.bl;obtain⟨xr0,xr1,xr2,xr3,xr4,xr5,xr6,xr7⟩:=Bk.c8 d.br;clear d)
   |(go_at_call_of 58(Value.string rn);refine(HIR.out _ _ _ HT8.out).mono ?_;rintro e w9⟨rfl,d1,d2⟩;have HT1:Hid (∀s',_=some s'→Cx w0 w9 base g s'):=d1;have HT2:Hid (Kt base W w9):=d2;clear d1 d2))
  go_ret
  exact⟨ret_bool (by first|rfl|simp),HT1.out,HT2.out⟩
 ·clear k0 k1 k2 k3 k4 k5 k6 k7 j0 j1 j2 j3 j4 j5 j6 j7
  have HT0:=SW.sB (n8 lk lm la lb lg ln lsa lsl lsc lao lnk lcap) (n8 rk 0 ra rb rg rn rsa rsl rsc rao rnk rcap) HS.out
  go_wp2_with(first
   |(go_at_call 97;refine(HOP.out _ _ _ HT0.out).mono ?_;rintro e w1⟨rfl,d⟩;have HT3:Hid (SW w0 W base g W.heap.size (n8 k m a b ng n sa sl sc (some ⟨kb,ko,none⟩) 2 cap) (W.heap.size+1+1) (n8 lk lm la lb lg ln lsa lsl lsc lao lnk lcap) (W.heap.size+1) (n8 rk 0 ra rb rg rn rsa rsl rsc rao rnk rcap) s w1):=d;obtain⟨xl0,xl1,xl2,xl3,xl4,xl5,xl6,xl7⟩:=Bk.c8 d.bl;obtain⟨xr0,xr1,xr2,xr3,xr4,xr5,xr6,xr7⟩:=Bk.c8 d.br;clear d)
   |(go_at_call_of 98(Value.string ln);refine(HSL.out _ _ _ HT3.out).mono ?_;rintro e w2⟨rfl,d⟩;have HT4:Hid (SW w0 W base g W.heap.size (n8 k m a b ng n sa sl sc (some ⟨kb,ko,none⟩) 2 cap) (W.heap.size+1+1) (n8 lk lm la lb lg ln lsa lsl lsc lao lnk lcap) (W.heap.size+1) (n8 rk 0 ra rb rg rn rsa rsl rsc rao rnk rcap) s w2):=d;obtain⟨xl0,xl1,xl2,xl3,xl4,xl5,xl6,xl7⟩:=Bk.c8 d.bl;obtain⟨xr0,xr1,xr2,xr3,xr4,xr5,xr6,xr7⟩:=Bk.c8 d.br;clear d)
   |(go_at_call_of 98(Value.string rn);refine(HSR.out _ _ _ HT4.out).mono ?_;rintro e w3⟨rfl,d⟩;have HT5:Hid (SW w0 W base g W.heap.size (n8 k m a b ng n sa sl sc (some ⟨kb,ko,none⟩) 2 cap) (W.heap.size+1+1) (n8 lk lm la lb lg ln lsa lsl lsc lao lnk lcap) (W.heap.size+1) (n8 rk 0 ra rb rg rn rsa rsl rsc rao rnk rcap) s w3):=d;obtain⟨xl0,xl1,xl2,xl3,xl4,xl5,xl6,xl7⟩:=Bk.c8 d.bl;obtain⟨xr0,xr1,xr2,xr3,xr4,xr5,xr6,xr7⟩:=Bk.c8 d.br;clear d)
   |(go_at_call 48;refine(HTK.out _ _ _ HT5.out).mono ?_;rintro e w4⟨rfl,d⟩;have HT6:Hid (SW w0 W base g W.heap.size (n8 k m a b ng n sa sl sc (some ⟨kb,ko,none⟩) 2 cap) (W.heap.size+1+1) (n8 lk lm la lb lg ln lsa lsl lsc lao lnk lcap) (W.heap.size+1) (n8 rk 0 ra rb rg rn rsa rsl rsc rao rnk rcap) (s.less 2) w4):=d;obtain⟨xl0,xl1,xl2,xl3,xl4,xl5,xl6,xl7⟩:=Bk.c8 d.bl;obtain⟨xr0,xr1,xr2,xr3,xr4,xr5,xr6,xr7⟩:=Bk.c8 d.br;clear d)
   |(go_at_call_of 58(Value.string ln);refine(HIL.out _ _ _ HT6.out).mono ?_;rintro e w5⟨rfl,d⟩;have HT7:Hid (SW w0 W base g W.heap.size (n8 k m a b ng n sa sl sc (some ⟨kb,ko,none⟩) 2 cap) (W.heap.size+1+1) (n8 lk lm la lb lg ln lsa lsl lsc lao lnk lcap) (W.heap.size+1) (n8 rk 0 ra rb rg rn rsa rsl rsc rao rnk rcap) s1 w5):=d;obtain⟨xl0,xl1,xl2,xl3,xl4,xl5,xl6,xl7⟩:=Bk.c8 d.bl;obtain⟨xr0,xr1,xr2,xr3,xr4,xr5,xr6,xr7⟩:=Bk.c8 d.br;clear d)
   |(go_at_call 49;refine(HWS.out _ _ _ HT7.out).mono ?_;rintro e w6⟨rfl,d⟩;have HT8:Hid (SW w0 W base g W.heap.size (n8 k m a b ng n sa sl sc (some ⟨kb,ko,none⟩) 2 cap) (W.heap.size+1+1) (n8 lk lm la lb lg ln lsa lsl lsc lao lnk lcap) (W.heap.size+1) (n8 rk 0 ra rb rg rn rsa rsl rsc rao rnk rcap) (s1.add O) w6):=d;obtain⟨xl0,xl1,xl2,xl3,xl4,xl5,xl6,xl7⟩:=Bk.c8 d.bl;obtain⟨xr0,xr1,xr2,xr3,xr4,xr5,xr6,xr7⟩:=Bk.c8 d.br;clear d)
   |(go_at_call_of 58(Value.string rn);refine(HIR.out _ _ _ HT8.out).mono ?_;rintro e w9⟨rfl,d1,d2⟩;have HT1:Hid (∀s',_=some s'→Cx w0 w9 base g s'):=d1;have HT2:Hid (Kt base W w9):=d2;clear d1 d2))
  go_ret
  exact⟨ret_bool (by first|rfl|simp),HT1.out,HT2.out⟩
end Go.Proofs.YtbbeciofgnkggaaGreatDoor.tre
section
namespace Go.Proofs.YtbbeciofgnkggaaGreatDoor.tre
open Go.RowKit nod
open rng(R RV)
open tok(PEnv TX printL)
theorem print_size(r:Int)(c:Bool):(TX (printL r c)).size≤9223372036854775807:=by
 have he:(utf.enc r).length≤4:=by unfold utf.enc;(repeat' split)<;>simp
 have hh:(tok.hexU r).length≤2:=by unfold tok.hexU;split<;>simp
 rw[tok.TX_size]
 unfold tok.printL
 (repeat' split)<;>simp<;>omega
theorem kb_lt{B:Nat}{w:World}{ao:Option Addr}{ks:List Nd}(h:KV B w ao ks)(h0:0<ks.length):∃kb ko,ao=some ⟨kb,ko,none⟩∧kb<B∧KAt B w kb ko ks:=by
 obtain⟨b,o,e,hk⟩:=h.some h0
 exact⟨b,o,e,hk.1,hk⟩
/-! What the plain functions are, kind by kind. -/
section
variable{ins:Wr→Nd→Option Wr}{s:Wr}{t:Nd}
theorem member_e0(ho:othersZ t=false):memberO ins s t=none:=by unfold memberO;rw[if_pos ho]
theorem member_e1(ho:othersZ t=true)(hk:t.kind=1):memberO ins s t=putO s (TX (printL t.a true)):=by unfold memberO;rw[if_neg (by simp[ho]),if_pos hk]
theorem member_e4(ho:othersZ t=true)(hk:t.kind=4):memberO ins s t=rangeO s t.a t.b:=by unfold memberO;rw[if_neg (by simp[ho]),if_neg (by omega),if_pos hk]
theorem member_e5(ho:othersZ t=true)(hk:t.kind=5):memberO ins s t=propO s t.name t.neg:=by unfold memberO;rw[if_neg (by simp[ho]),if_neg (by omega),if_neg (by omega),if_pos hk]
theorem member_e3(ho:othersZ t=true)(hk:t.kind=3):memberO ins s t=classO ins s t:=by unfold memberO;rw[if_neg (by simp[ho]),if_neg (by omega),if_neg (by omega),if_neg (by omega),if_pos hk]
theorem member_ex(ho:othersZ t=true)(h1:¬t.kind=1)(h4:¬t.kind=4)(h5:¬t.kind=5)(h3:¬t.kind=3):memberO ins s t=none:=by unfold memberO;rw[if_neg (by simp[ho]),if_neg h1,if_neg h4,if_neg h5,if_neg h3]
theorem inside_e0{N:Nat}(hm:t.mode=0):insideO (N+1) s t=if t.kids.length=0 then none else loopO (memberO (insideO N)) t.kids s:=by rw[insideO,if_pos hm]
theorem inside_e1{N:Nat}(h0:¬t.mode=0)(hm:t.mode=1∨t.mode=2∨t.mode=3):insideO (N+1) s t=sidesO (insideO N) s t.mode t.kids:=by rw[insideO,if_neg h0,if_pos hm]
theorem inside_ex{N:Nat}(h0:¬t.mode=0)(hm:¬(t.mode=1∨t.mode=2∨t.mode=3)):insideO (N+1) s t=none:=by rw[insideO,if_neg h0,if_neg hm]
end
theorem con_class{ins:Wr→Nd→Option Wr}(hr:InsRun ins){t:Nd}(hI:Con 58 ins t):Con 41 (classO ins) t:=by
 intro w0 W base g s v c hv
 obtain⟨k,m,a,b,ng,n,st,ks,sa,sc,ao,cap,rfl,rfl,_⟩:=hv.open
 cases ng
 ·exact class_false c k m a b n sa _ sc ao _ cap (fun s'=>ins s' _) (fun W' s' c'=>hI w0 W' base g s' _ c' hv) (fun s1 s2 h g=>(hr _ s1 s2 h g).dep)
 ·exact class_true c k m a b n sa _ sc ao _ cap (fun s'=>ins s' _) (fun W' s' c'=>hI w0 W' base g s' _ c' hv) (fun s1 s2 h g=>(hr _ s1 s2 h g).dep)
theorem con_member{ins:Wr→Nd→Option Wr}(hr:InsRun ins){t:Nd}(hs:shortN t)(hI:Con 58 ins t):Con 96 (memberO ins) t:=by
 intro w0 W base g s v c hv
 have hC:=con_class hr hI w0
 obtain⟨k,m,a,b,ng,n,st,ks,sa,sc,ao,cap,rfl,rfl,_,_⟩:=hv.open
 rw[shortN]at hs
 cases ho:othersZ (.mk k m a b ng n st ks)with
 |false=>
  rw[member_e0 ho]
  exact member_no c k m a b ng n sa _ sc ao _ cap st ks rfl rfl ho none rfl
 |true=>
  by_cases c1:k=1
  ·subst c1;rw[member_e1 ho rfl]
   exact memberW_1 c m a b ng n sa _ sc ao _ cap st ks rfl rfl ho (print_size _ _)
  by_cases c4:k=4
  ·subst c4;rw[member_e4 ho rfl]
   exact memberW_4 c m a b ng n sa _ sc ao _ cap st ks rfl rfl ho (print_size _ _) (print_size _ _)
  by_cases c5:k=5
  ·subst c5;rw[member_e5 ho rfl]
   exact memberW_5 c m a b ng n sa _ sc ao _ cap st ks rfl rfl ho hs.1
  by_cases c3:k=3
  ·subst c3;rw[member_e3 ho rfl]
   exact memberW_3 c m a b ng n sa _ sc ao _ cap st ks rfl rfl ho _ (fun W' c'=>hC W' base g s _ c' hv)
  rw[member_ex ho c1 c4 c5 c3]
  exact member_other c k m a b ng n sa _ sc ao _ cap st ks rfl rfl ho none rfl (by simpa using c1) (by simpa using c4) (by simpa using c5) (by simpa using c3)
theorem two_list{α:Type}(l:List α)(h:l.length=2):∃x y,l=[x,y]:=by
 match l,h with
 |[x,y],_=>exact⟨x,y,rfl⟩
theorem one_list{α:Type}(l:List α)(h:l.length=1):∃x,l=[x]:=by
 match l,h with
 |[x],_=>exact⟨x,rfl⟩
/--A kid of a row: its block's cells. -/
theorem kid_at{B:Nat}{w:World}{b off i:Nat}{ks:List Nd}{t:Nd}(h:KAt B w b off ks)(hi:ks[i]?=some t):∃k m a b' g n s kk sa sc ao cap,t=.mk k m a b' g n s kk∧
  At8 w b (off+i*8) (.agg (n8 k m a b' g n sa s.length sc ao kk.length cap))∧NV B w t (.agg (n8 k m a b' g n sa s.length sc ao kk.length cap)):=by
 obtain⟨v,h1,h2⟩:=h.2 i t hi
 obtain⟨k,m,a,b',g,n,s,kk,sa,sc,ao,cap,rfl,rfl,_⟩:=h2.open
 exact⟨k,m,a,b',g,n,s,kk,sa,sc,ao,cap,rfl,h1,h2⟩
theorem con_sides{ins:Wr→Nd→Option Wr}(hr:InsRun ins){k m a b:Int}{ng:Bool}{n:ByteArray}{st:List R}{ks:List Nd}(hm:m=1∨m=2∨m=3)(hI:∀x∈ks,Con 58 ins x){w0 W:World}{base g:Nat}{s:Wr}{v:Value}(c:Cx w0 W base g s)(hv:NV base w0 (.mk k m a b ng n st ks) v):
  Met 79 #[.pointer (some ⟨g,0,none⟩),v] w0 W base g (sidesO ins s m ks):=by
 obtain⟨k,m,a,b,ng,n,st,ks,sa,sc,ao,cap,e,rfl,_,_,_,hk1,hk2,_,hkv⟩:=hv.open
 cases e
 by_cases hl:ks.length=2
 ·obtain⟨x,y,rfl⟩:=two_list ks hl
  obtain⟨kb,ko,rfl,hkb,hka⟩:=kb_lt hkv (by simp)
  obtain⟨lk,lm,la,lb,lg,ln,ls,lkk,lsa,lsc,lao,lcap,rfl,al,nl⟩:=kid_at hka (i:=0) rfl
  obtain⟨rk,rm,ra,rb,rg,rn,rs,rkk,rsa,rsc,rao,rcap,rfl,ar,nr⟩:=kid_at hka (i:=1) rfl
  have al':At8 w0 kb ko (.agg (n8 lk lm la lb lg ln lsa ls.length lsc lao lkk.length lcap)):=by simpa using al
  have ar':At8 w0 kb (ko+8) (.agg (n8 rk rm ra rb rg rn rsa rs.length rsc rao rkk.length rcap)):=by simpa using ar
  have hcap:2≤cap:=by simpa using hk1
  have IL:=hI (.mk lk lm la lb lg ln ls lkk) (by simp) w0
  have IR:=hI (.mk rk rm ra rb rg rn rs rkk) (by simp) w0
  have hO:=opSize hm
  simp only[sidesO,List.length_cons,List.length_nil,Nat.zero_add,Nat.reduceAdd]
  cases hl1:sideB (.mk lk lm la lb lg ln ls lkk)with
  |false=>
   rw[if_neg (by simp)]
   exact sides_l c k m a b ng n sa _ sc kb ko cap hcap lk lm la lb rk rm ra rb lg rg ln rn lsa lao rsa rao _ lsc _ lcap _ rsc _ rcap al' ar' hkb (textP m opTexts) hO
    (fun p q W' S=>quiet2 S (operator_any m W')) (fun p q W' S=>hl1▸quiet2 S (isSide_any lk lm la lb lg ln ls lkk lsa _ lsc lao _ lcap W' rfl rfl))
  |true=>
  cases hr1:sideB (.mk rk rm ra rb rg rn rs rkk)with
  |false=>
   rw[if_neg (by simp)]
   exact sides_r c k m a b ng n sa _ sc kb ko cap hcap lk lm la lb rk rm ra rb lg rg ln rn lsa lao rsa rao _ lsc _ lcap _ rsc _ rcap al' ar' hkb (textP m opTexts) hO
    (fun p q W' S=>quiet2 S (operator_any m W')) (fun p q W' S=>hl1▸quiet2 S (isSide_any lk lm la lb lg ln ls lkk lsa _ lsc lao _ lcap W' rfl rfl)) (fun p q W' S=>hr1▸quiet2 S (isSide_any rk rm ra rb rg rn rs rkk rsa _ rsc rao _ rcap W' rfl rfl))
  |true=>
  by_cases hrm:rm=0
  ·subst hrm
   by_cases hrm2:0≤s.room-2
   ·rw[if_pos ⟨rfl,rfl,rfl,hrm2⟩]
    have gl:=less_gd c.gd hrm2
    cases h1:ins (s.less 2) (.mk lk lm la lb lg ln ls lkk)with
    |none=>
     exact sides_i c k m a b ng n sa _ sc kb ko cap hcap lk lm la lb rk 0 ra rb lg rg ln rn lsa lao rsa rao _ lsc _ lcap _ rsc _ rcap al' ar' hkb (textP m opTexts) hO
      (fun p q W' S=>quiet2 S (operator_any m W')) (fun p q W' S=>hl1▸quiet2 S (isSide_any lk lm la lb lg ln ls lkk lsa _ lsc lao _ lcap W' rfl rfl)) (fun p q W' S=>hr1▸quiet2 S (isSide_any rk 0 ra rb rg rn rs rkk rsa _ rsc rao _ rcap W' rfl rfl))
      (fun p q W' S=>take_s2 S hrm2) (fun p q W' S=>Met.s2_no (IL W' base g _ _ S.sn.cx nl) h1 S)
    |some s1=>
     have q1:=hr _ _ _ h1 gl
     have es:(s1.text.length:Int)+s1.room=s.text.length+(s.room-2):=q1.sum
     have r1:=c.gd.g.r1
     obtain⟨⟨a0,a1,a2,a3,a4,a5,a6⟩,a7⟩:=q1.gd
     have al:=add_len s1 (textP m opTexts)
     have er:(s1.add (textP m opTexts)).room=s1.room:=rfl
     have gr:Gd (s1.add (textP m opTexts)):=⟨⟨a0,by rw[al,er];omega,a2,a3,a4,a5,a6⟩,a7⟩
     exact sides_w c k m a b ng n sa _ sc kb ko cap hcap lk lm la lb rk 0 ra rb lg rg ln rn lsa lao rsa rao _ lsc _ lcap _ rsc _ rcap al' ar' hkb (textP m opTexts) hO s1 _
      (fun p q W' S=>quiet2 S (operator_any m W')) (fun p q W' S=>hl1▸quiet2 S (isSide_any lk lm la lb lg ln ls lkk lsa _ lsc lao _ lcap W' rfl rfl)) (fun p q W' S=>hr1▸quiet2 S (isSide_any rk 0 ra rb rg rn rs rkk rsa _ rsc rao _ rcap W' rfl rfl))
      (fun p q W' S=>take_s2 S hrm2) (fun p q W' S=>Met.s2_ok (IL W' base g _ _ S.sn.cx nl) h1 S) (fun p q W' S=>write_s2 S _ hO gr) (fun p q W' S=>Met.s2 (IR W' base g _ _ S.sn.cx nr) S)
   ·rw[if_neg (fun h=>hrm2 h.2.2.2)]
    exact sides_t c k m a b ng n sa _ sc kb ko cap hcap lk lm la lb rk 0 ra rb lg rg ln rn lsa lao rsa rao _ lsc _ lcap _ rsc _ rcap al' ar' hkb (textP m opTexts) hO
     (fun p q W' S=>quiet2 S (operator_any m W')) (fun p q W' S=>hl1▸quiet2 S (isSide_any lk lm la lb lg ln ls lkk lsa _ lsc lao _ lcap W' rfl rfl)) (fun p q W' S=>hr1▸quiet2 S (isSide_any rk 0 ra rb rg rn rs rkk rsa _ rsc rao _ rcap W' rfl rfl))
     (fun p q W' S=>take_no2 S hrm2)
  ·rw[if_neg (fun h=>hrm h.2.2.1)]
   exact sides_m c k m a b ng n sa _ sc kb ko cap hcap lk lm la lb rk rm ra rb lg rg ln rn lsa lao rsa rao _ lsc _ lcap _ rsc _ rcap al' ar' hkb (textP m opTexts) hO
    (fun p q W' S=>quiet2 S (operator_any m W')) (fun p q W' S=>hl1▸quiet2 S (isSide_any lk lm la lb lg ln ls lkk lsa _ lsc lao _ lcap W' rfl rfl)) (fun p q W' S=>hr1▸quiet2 S (isSide_any rk rm ra rb rg rn rs rkk rsa _ rsc rao _ rcap W' rfl rfl)) hrm
 ·have e:sidesO ins s m ks=none:=by
   match ks,hl with
   |[],_=>rfl
   |[x],_=>rfl
   |[x,y],h=>exact absurd rfl h
   |x::y::z::r,_=>rfl
  rw[e]
  exact sides_few c k m a b ng n sa _ sc ao _ cap (by omega) hl
theorem con_inside:∀(N:Nat)(t:Nd),t.sz≤N+1→shortN t→Con 58 (insideO N) t:=by
 intro N
 induction N with
 |zero=>
  intro t hz hs w0 W base g s v c hv
  obtain⟨k,m,a,b,ng,n,st,ks,sa,sc,ao,cap,rfl,rfl,_,_,_,hk1,hk2,_,hkv⟩:=hv.open
  rw[Nd.sz]at hz
  have hl:=len_szL ks
  have h0:ks=[]:=List.eq_nil_of_length_eq_zero (by omega)
  subst h0
  rw[insideO]
  by_cases m0:m=0
  ·subst m0
   exact inside_0 c k a b ng n sa _ sc ao _ cap none (fun W' c'=>by
    have:=members_w c' ao 0 cap [] rfl (Nat.zero_le _) (by unfold maxLen at hk2;omega) hkv (fun s' t=>none) (fun t ht=>by cases ht)
    rw[if_pos rfl]at this
    exact this)
  by_cases m1:m=1
  ·subst m1;exact inside_1 c k a b ng n sa _ sc ao _ cap none (fun W' c'=>sides_few c' k 1 a b ng n sa _ sc ao _ cap (by simp) (by simp))
  by_cases m2:m=2
  ·subst m2;exact inside_2 c k a b ng n sa _ sc ao _ cap none (fun W' c'=>sides_few c' k 2 a b ng n sa _ sc ao _ cap (by simp) (by simp))
  by_cases m3:m=3
  ·subst m3;exact inside_3 c k a b ng n sa _ sc ao _ cap none (fun W' c'=>sides_few c' k 3 a b ng n sa _ sc ao _ cap (by simp) (by simp))
  exact inside_no c k m a b ng n sa _ sc ao _ cap (by simpa using m0) (by simpa using m1) (by simpa using m2) (by simpa using m3)
 |succ N ih=>
  intro t hz hs w0 W base g s v c hv
  have hv0:=hv
  obtain⟨k,m,a,b,ng,n,st,ks,sa,sc,ao,cap,rfl,rfl,_,_,_,hk1,hk2,_,hkv⟩:=hv.open
  rw[Nd.sz]at hz
  rw[shortN]at hs
  have hI:∀x∈ks,Con 58 (insideO N) x:=fun x hx=>ih x (by have:=szL_mem hx;omega) (short_mem hs.2 hx)
  by_cases m0:m=0
  ·subst m0
   rw[inside_e0 rfl]
   exact inside_0 c k a b ng n sa _ sc ao _ cap _ (fun W' c'=>members_w c' ao ks.length cap ks rfl hk1 (by unfold maxLen at hk2;omega) hkv (memberO (insideO N)) (fun t ht W'' s' v c'' hv'=>con_member (inside_run N) (short_mem hs.2 ht) (hI t ht) w0 W'' base g s' v c'' hv'))
  by_cases m1:m=1
  ·subst m1;rw[inside_e1 (t:=.mk k 1 a b ng n st ks) m0 (.inl rfl)];exact inside_1 c k a b ng n sa _ sc ao _ cap _ (fun W' c'=>con_sides (inside_run N) (.inl rfl) hI c' hv0)
  by_cases m2:m=2
  ·subst m2;rw[inside_e1 (t:=.mk k 2 a b ng n st ks) m0 (.inr (.inl rfl))];exact inside_2 c k a b ng n sa _ sc ao _ cap _ (fun W' c'=>con_sides (inside_run N) (.inr (.inl rfl)) hI c' hv0)
  by_cases m3:m=3
  ·subst m3;rw[inside_e1 (t:=.mk k 3 a b ng n st ks) m0 (.inr (.inr rfl))];exact inside_3 c k a b ng n sa _ sc ao _ cap _ (fun W' c'=>con_sides (inside_run N) (.inr (.inr rfl)) hI c' hv0)
  rw[inside_ex (t:=.mk k m a b ng n st ks) m0 (by show¬(m=1∨m=2∨m=3);omega)]
  exact inside_no c k m a b ng n sa _ sc ao _ cap (by simpa using m0) (by simpa using m1) (by simpa using m2) (by simpa using m3)
end Go.Proofs.YtbbeciofgnkggaaGreatDoor.tre
end
