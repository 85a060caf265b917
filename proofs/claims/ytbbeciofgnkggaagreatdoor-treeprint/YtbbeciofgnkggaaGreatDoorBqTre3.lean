import Derived.Test.YtbbeciofgnkggaaGreatDoorBqTre2
import Derived.Test.YtbbeciofgnkggaaGreatDoorBqNod1
set_option linter.unusedSimpArgs false
set_option linter.unusedVariables false
set_option maxRecDepth 10000
set_option maxHeartbeats 2000000
namespace Go.Proofs.YtbbeciofgnkggaaGreatDoor.tre
open Go.RowKit nod
open rng(R RV ret_int ret_bool below_drewN info_parts own_below')
open tok(PEnv TX printL)
theorem property_w{w0 W:World}{base g:Nat}{s:Wr}(c:Cx w0 W base g s)(k m a b:Int)(ng:Bool)(n:ByteArray)(sa:Option Addr)(sl sc:Nat)(ao:Option Addr)(nk cap:Nat)(hn:n.size≤140737488355327):Met 42 #[.pointer (some ⟨g,0,none⟩),.agg (n8 k m a b ng n sa sl sc ao nk cap)] w0 W base g (propO s n ng):=by
 have HS:=Sn.st c (n8 k m a b ng n sa sl sc ao nk cap)
 have hT:=propTW_size n ng hn
 have HN0:Hid (Cs w0 W base g (n8 k m a b ng n sa sl sc ao nk cap) s s 60 #[.string n,.bool ng] (.string (propT n ng))):=fun W' S=>quiet_of S (ptext_any n ng hn W')
 have HN:Hid (Cs w0 W base g (n8 k m a b ng n sa sl sc ao nk cap) s s 61 #[.string (propT n ng),.string n] (.bool (namedB (propT n ng) n))):=fun W' S=>quiet_of S (named_any _ n (by omega) W' S.cx.c.penv.mks)
 have HP:Hid (Cp w0 W base g (n8 k m a b ng n sa sl sc ao nk cap) s 32 #[.pointer (some ⟨g,0,none⟩),.string (propT n ng)] (putO s (propT n ng))):=fun W' S=>Met.sn (put_met S.cx _ (by omega)) S
 unfold Met propO
 generalize propT n ng=T at*
 cases hq:namedB T n with
 |false=>
  rw[hq]at HN
  rw[if_neg (by simp)]
  clear c HP hq
  go_enter Tryz.func42,Tryz.ntmps42
  go_wp2_with(first
   |(go_at_call 60;refine(HN0.out _ HS.out).mono ?_;rintro e w1⟨rfl,d⟩;have HS1:Hid (Sn w0 W base g W.heap.size (n8 k m a b ng n sa sl sc ao nk cap) s w1):=d;obtain⟨x0,x1,x2,x3,x4,x5,x6,x7⟩:=Bk.c8 d.bk;clear d)
   |(go_at_call 61;refine(HN.out _ HS1.out).mono ?_;rintro e w2⟨rfl,d⟩;have HS2:Hid (Sn w0 W base g W.heap.size (n8 k m a b ng n sa sl sc ao nk cap) s w2):=d;clear d))
  go_ret
  exact met_no (rfl) HS2.out.kt
 |true=>
  rw[hq]at HN
  rw[if_pos rfl]
  clear c hq
  generalize putO s T=P at*
  go_enter Tryz.func42,Tryz.ntmps42
  go_wp2_with(first
   |(go_at_call 60;refine(HN0.out _ HS.out).mono ?_;rintro e w1⟨rfl,d⟩;have HS1:Hid (Sn w0 W base g W.heap.size (n8 k m a b ng n sa sl sc ao nk cap) s w1):=d;obtain⟨x0,x1,x2,x3,x4,x5,x6,x7⟩:=Bk.c8 d.bk;clear d)
   |(go_at_call 61;refine(HN.out _ HS1.out).mono ?_;rintro e w2⟨rfl,d⟩;have HS2:Hid (Sn w0 W base g W.heap.size (n8 k m a b ng n sa sl sc ao nk cap) s w2):=d;clear d)
   |(go_at_call 32;refine(HP.out _ HS2.out).mono ?_;rintro e w3⟨rfl,d1,d2⟩;have HT1:Hid (∀s',_=some s'→Cx w0 w3 base g s'):=d1;have HT2:Hid (Kt base W w3):=d2;clear d1 d2))
  go_ret
  exact⟨ret_bool (by first|rfl|simp),HT1.out,HT2.out⟩
theorem class_false{w0 W:World}{base g:Nat}{s:Wr}(c:Cx w0 W base g s)(k m a b:Int)(n:ByteArray)(sa:Option Addr)(sl sc:Nat)(ao:Option Addr)(nk cap:Nat)(Pi:Wr→Option Wr)(HI:Hid (∀W' s',Cx w0 W' base g s'→Met 58 #[.pointer (some ⟨g,0,none⟩),.agg (n8 k m a b false n sa sl sc ao nk cap)] w0 W' base g (Pi s')))(hd:∀s1 s2,Pi s1=some s2→Gd s1→s2.depth=s1.depth):Met 41 #[.pointer (some ⟨g,0,none⟩),.agg (n8 k m a b false n sa sl sc ao nk cap)] w0 W base g ((enterO s ⟨#[91]⟩).bind fun s1=>(Pi s1).bind fun s2=>leaveO s2 ⟨#[93]⟩):=by
 have HS:=Sn.st c (n8 k m a b false n sa sl sc ao nk cap)
 unfold Met
 cases h1:enterO s ⟨#[91]⟩with
 |none=>
  have HE:Hid (Cn w0 W base g (n8 k m a b false n sa sl sc ao nk cap) s 57 #[.pointer (some ⟨g,0,none⟩),.string ⟨#[91]⟩] (.bool false)):=fun W' S=>Met.sn_no (enter_met S.cx _ (by decide)) h1 S
  clear c h1
  go_enter Tryz.func41,Tryz.ntmps41
  go_wp2_with(first
   |(go_at_call 57;refine(HE.out _ HS.out).mono ?_;rintro e w1⟨rfl,d⟩;have HZ:Hid (Kt base W w1):=d;clear d))
  go_ret
  exact met_no (rfl) HZ.out
 |some s1=>
  have HE:Hid (Cs w0 W base g (n8 k m a b false n sa sl sc ao nk cap) s s1 57 #[.pointer (some ⟨g,0,none⟩),.string ⟨#[91]⟩] (.bool true)):=fun W' S=>Met.sn_ok (enter_met S.cx _ (by decide)) h1 S
  have hg:=enter_gd h1 c.gd
  simp only[Option.bind_some]
  cases h2:Pi s1 with
  |none=>
   have HJ:Hid (Cn w0 W base g (n8 k m a b false n sa sl sc ao nk cap) s1 58 #[.pointer (some ⟨g,0,none⟩),.agg (n8 k m a b false n sa sl sc ao nk cap)] (.bool false)):=fun W' S=>Met.sn_no (HI.out W' s1 S.cx) h2 S
   clear c h1 h2 HI hg
   go_enter Tryz.func41,Tryz.ntmps41
   go_wp2_with(first
    |(go_at_call 57;refine(HE.out _ HS.out).mono ?_;rintro e w1⟨rfl,d⟩;have HS1:Hid (Sn w0 W base g W.heap.size (n8 k m a b false n sa sl sc ao nk cap) s1 w1):=d;obtain⟨x0,x1,x2,x3,x4,x5,x6,x7⟩:=Bk.c8 d.bk;clear d)
    |(go_at_call 58;refine(HJ.out _ HS1.out).mono ?_;rintro e w2⟨rfl,d⟩;have HZ:Hid (Kt base W w2):=d;clear d))
   go_ret
   exact met_no (rfl) HZ.out
  |some s2=>
   have HJ:Hid (Cs w0 W base g (n8 k m a b false n sa sl sc ao nk cap) s1 s2 58 #[.pointer (some ⟨g,0,none⟩),.agg (n8 k m a b false n sa sl sc ao nk cap)] (.bool true)):=fun W' S=>Met.sn_ok (HI.out W' s1 S.cx) h2 S
   have hd2:=hd s1 s2 h2 hg.1
   have hl:1≤s2.depth:=by have:=hg.2;have:=c.gd.g.d0;omega
   simp only[Option.bind_some]
   have HL:Hid (Cp w0 W base g (n8 k m a b false n sa sl sc ao nk cap) s2 59 #[.pointer (some ⟨g,0,none⟩),.string ⟨#[93]⟩] (leaveO s2 ⟨#[93]⟩)):=fun W' S=>Met.sn (leave_met S.cx hl _ (by decide)) S
   generalize leaveO s2 ⟨#[93]⟩=P at*
   clear c h1 h2 HI hg hd2 hl
   go_enter Tryz.func41,Tryz.ntmps41
   go_wp2_with(first
    |(go_at_call 57;refine(HE.out _ HS.out).mono ?_;rintro e w1⟨rfl,d⟩;have HS1:Hid (Sn w0 W base g W.heap.size (n8 k m a b false n sa sl sc ao nk cap) s1 w1):=d;obtain⟨x0,x1,x2,x3,x4,x5,x6,x7⟩:=Bk.c8 d.bk;clear d)
    |(go_at_call 58;refine(HJ.out _ HS1.out).mono ?_;rintro e w2⟨rfl,d⟩;have HS2:Hid (Sn w0 W base g W.heap.size (n8 k m a b false n sa sl sc ao nk cap) s2 w2):=d;clear d)
    |(go_at_call 59;refine(HL.out _ HS2.out).mono ?_;rintro e w3⟨rfl,d1,d2⟩;have HT1:Hid (∀s',_=some s'→Cx w0 w3 base g s'):=d1;have HT2:Hid (Kt base W w3):=d2;clear d1 d2))
   go_ret
   exact⟨ret_bool (by first|rfl|simp),HT1.out,HT2.out⟩
theorem class_true{w0 W:World}{base g:Nat}{s:Wr}(c:Cx w0 W base g s)(k m a b:Int)(n:ByteArray)(sa:Option Addr)(sl sc:Nat)(ao:Option Addr)(nk cap:Nat)(Pi:Wr→Option Wr)(HI:Hid (∀W' s',Cx w0 W' base g s'→Met 58 #[.pointer (some ⟨g,0,none⟩),.agg (n8 k m a b true n sa sl sc ao nk cap)] w0 W' base g (Pi s')))(hd:∀s1 s2,Pi s1=some s2→Gd s1→s2.depth=s1.depth):Met 41 #[.pointer (some ⟨g,0,none⟩),.agg (n8 k m a b true n sa sl sc ao nk cap)] w0 W base g ((enterO s ⟨#[91,94]⟩).bind fun s1=>(Pi s1).bind fun s2=>leaveO s2 ⟨#[93]⟩):=by
 have HS:=Sn.st c (n8 k m a b true n sa sl sc ao nk cap)
 unfold Met
 cases h1:enterO s ⟨#[91,94]⟩with
 |none=>
  have HE:Hid (Cn w0 W base g (n8 k m a b true n sa sl sc ao nk cap) s 57 #[.pointer (some ⟨g,0,none⟩),.string ⟨#[91,94]⟩] (.bool false)):=fun W' S=>Met.sn_no (enter_met S.cx _ (by decide)) h1 S
  clear c h1
  go_enter Tryz.func41,Tryz.ntmps41
  go_wp2_with(first
   |(go_at_call 57;refine(HE.out _ HS.out).mono ?_;rintro e w1⟨rfl,d⟩;have HZ:Hid (Kt base W w1):=d;clear d))
  go_ret
  exact met_no (rfl) HZ.out
 |some s1=>
  have HE:Hid (Cs w0 W base g (n8 k m a b true n sa sl sc ao nk cap) s s1 57 #[.pointer (some ⟨g,0,none⟩),.string ⟨#[91,94]⟩] (.bool true)):=fun W' S=>Met.sn_ok (enter_met S.cx _ (by decide)) h1 S
  have hg:=enter_gd h1 c.gd
  simp only[Option.bind_some]
  cases h2:Pi s1 with
  |none=>
   have HJ:Hid (Cn w0 W base g (n8 k m a b true n sa sl sc ao nk cap) s1 58 #[.pointer (some ⟨g,0,none⟩),.agg (n8 k m a b true n sa sl sc ao nk cap)] (.bool false)):=fun W' S=>Met.sn_no (HI.out W' s1 S.cx) h2 S
   clear c h1 h2 HI hg
   go_enter Tryz.func41,Tryz.ntmps41
   go_wp2_with(first
    |(go_at_call 57;refine(HE.out _ HS.out).mono ?_;rintro e w1⟨rfl,d⟩;have HS1:Hid (Sn w0 W base g W.heap.size (n8 k m a b true n sa sl sc ao nk cap) s1 w1):=d;obtain⟨x0,x1,x2,x3,x4,x5,x6,x7⟩:=Bk.c8 d.bk;clear d)
    |(go_at_call 58;refine(HJ.out _ HS1.out).mono ?_;rintro e w2⟨rfl,d⟩;have HZ:Hid (Kt base W w2):=d;clear d))
   go_ret
   exact met_no (rfl) HZ.out
  |some s2=>
   have HJ:Hid (Cs w0 W base g (n8 k m a b true n sa sl sc ao nk cap) s1 s2 58 #[.pointer (some ⟨g,0,none⟩),.agg (n8 k m a b true n sa sl sc ao nk cap)] (.bool true)):=fun W' S=>Met.sn_ok (HI.out W' s1 S.cx) h2 S
   have hd2:=hd s1 s2 h2 hg.1
   have hl:1≤s2.depth:=by have:=hg.2;have:=c.gd.g.d0;omega
   simp only[Option.bind_some]
   have HL:Hid (Cp w0 W base g (n8 k m a b true n sa sl sc ao nk cap) s2 59 #[.pointer (some ⟨g,0,none⟩),.string ⟨#[93]⟩] (leaveO s2 ⟨#[93]⟩)):=fun W' S=>Met.sn (leave_met S.cx hl _ (by decide)) S
   generalize leaveO s2 ⟨#[93]⟩=P at*
   clear c h1 h2 HI hg hd2 hl
   go_enter Tryz.func41,Tryz.ntmps41
   go_wp2_with(first
    |(go_at_call 57;refine(HE.out _ HS.out).mono ?_;rintro e w1⟨rfl,d⟩;have HS1:Hid (Sn w0 W base g W.heap.size (n8 k m a b true n sa sl sc ao nk cap) s1 w1):=d;obtain⟨x0,x1,x2,x3,x4,x5,x6,x7⟩:=Bk.c8 d.bk;clear d)
    |(go_at_call 58;refine(HJ.out _ HS1.out).mono ?_;rintro e w2⟨rfl,d⟩;have HS2:Hid (Sn w0 W base g W.heap.size (n8 k m a b true n sa sl sc ao nk cap) s2 w2):=d;clear d)
    |(go_at_call 59;refine(HL.out _ HS2.out).mono ?_;rintro e w3⟨rfl,d1,d2⟩;have HT1:Hid (∀s',_=some s'→Cx w0 w3 base g s'):=d1;have HT2:Hid (Kt base W w3):=d2;clear d1 d2))
   go_ret
   exact⟨ret_bool (by first|rfl|simp),HT1.out,HT2.out⟩
end Go.Proofs.YtbbeciofgnkggaaGreatDoor.tre
namespace Go.Proofs.YtbbeciofgnkggaaGreatDoor.tre
open Go.RowKit nod
open rng(R RV ret_int ret_bool below_drewN info_parts own_below')
open tok(PEnv TX printL)
theorem isSide_any(k m a b:Int)(ng:Bool)(n:ByteArray)(st:List R)(ks:List Nd)(sa:Option Addr)(sl sc:Nat)(ao:Option Addr)(nk cap:Nat)(w:World)(hsl:st.length=sl)(hnk:ks.length=nk):
  Calls Tryz.prog 98 #[.agg (n8 k m a b ng n sa sl sc ao nk cap)] w fun e w'=>e=.returned (.bool (sideB (.mk k m a b ng n st ks)))∧Below w.heap.size w w':=by
 have HB:Hid (Below w.heap.size w (w.alloc (.cells (n8 k m a b ng n sa sl sc ao nk cap) 25))):=(Below.refl _ w).alloc (Nat.le_refl _) _
 have C:=oz_any k m a b ng n st ks sa sl sc ao nk cap (w.alloc (.cells (n8 k m a b ng n sa sl sc ao nk cap) 25)) hsl hnk
 rw[sideB]
 generalize othersZ (.mk k m a b ng n st ks)=q at*
 by_cases ck:k=3
 ·subst ck
  cases ng
  ·go_enter Tryz.func98,Tryz.ntmps98
   go_wp2_with(go_at_call 30;refine C.mono ?_;rintro e w1⟨rfl,d⟩;have HW:Hid (Below w.heap.size w w1):=HB.out.trans (below_less d (by simp));clear d)
   go_ret
   exact⟨ret_bool (by simp),HW.out⟩
  ·clear C
   go_enter Tryz.func98,Tryz.ntmps98
   go_wp2
   go_ret
   exact⟨ret_bool (by simp),HB.out⟩
 ·have f:(k==3)=false:=by simpa using ck
  clear C
  go_enter Tryz.func98,Tryz.ntmps98
  go_wp2
  go_ret
  exact⟨ret_bool (by simp[f]),HB.out⟩
theorem member_no{w0 W:World}{base g:Nat}{s:Wr}(c:Cx w0 W base g s)(k m a b:Int)(ng:Bool)(n:ByteArray)(sa:Option Addr)(sl sc:Nat)(ao:Option Addr)(nk cap:Nat)(st:List R)(ks:List Nd)(hsl:st.length=sl)(hnk:ks.length=nk)(ho:othersZ (.mk k m a b ng n st ks)=false)(P:Option Wr)(hP:P=none):Met 96 #[.pointer (some ⟨g,0,none⟩),.agg (n8 k m a b ng n sa sl sc ao nk cap)] w0 W base g (P):=by
 have HS:=Sn.st c (n8 k m a b ng n sa sl sc ao nk cap)
 have HO:Hid (Cs w0 W base g (n8 k m a b ng n sa sl sc ao nk cap) s s 30 #[.agg (n8 k m a b ng n sa sl sc ao nk cap)] (.bool false)):=fun W' S=>oz_sn S (k) (m) (a) (b) (ng) (n) st ks sa sl sc ao nk cap hsl hnk _ ho
 unfold Met
 clear c
 go_enter Tryz.func96,Tryz.ntmps96
 go_wp2_with(first
  |(go_at_call 30;refine(HO.out _ HS.out).mono ?_;rintro e w1⟨rfl,d⟩;have HS1:Hid (Sn w0 W base g W.heap.size (n8 k m a b ng n sa sl sc ao nk cap) s w1):=d;clear d))
 go_ret
 exact met_no (hP) HS1.out.kt
theorem member_other{w0 W:World}{base g:Nat}{s:Wr}(c:Cx w0 W base g s)(k m a b:Int)(ng:Bool)(n:ByteArray)(sa:Option Addr)(sl sc:Nat)(ao:Option Addr)(nk cap:Nat)(st:List R)(ks:List Nd)(hsl:st.length=sl)(hnk:ks.length=nk)(ho:othersZ (.mk k m a b ng n st ks)=true)(P:Option Wr)(hP:P=none)(k1:(k==1)=false)(k4:(k==4)=false)(k5:(k==5)=false)(k3:(k==3)=false):Met 96 #[.pointer (some ⟨g,0,none⟩),.agg (n8 k m a b ng n sa sl sc ao nk cap)] w0 W base g (P):=by
 have HS:=Sn.st c (n8 k m a b ng n sa sl sc ao nk cap)
 have HO:Hid (Cs w0 W base g (n8 k m a b ng n sa sl sc ao nk cap) s s 30 #[.agg (n8 k m a b ng n sa sl sc ao nk cap)] (.bool true)):=fun W' S=>oz_sn S (k) (m) (a) (b) (ng) (n) st ks sa sl sc ao nk cap hsl hnk _ ho
 unfold Met
 clear c
 go_enter Tryz.func96,Tryz.ntmps96
 go_wp2_with(first
  |(go_at_call 30;refine(HO.out _ HS.out).mono ?_;rintro e w1⟨rfl,d⟩;have HS1:Hid (Sn w0 W base g W.heap.size (n8 k m a b ng n sa sl sc ao nk cap) s w1):=d;obtain⟨x0,x1,x2,x3,x4,x5,x6,x7⟩:=Bk.c8 d.bk;clear d))
 go_ret
 exact met_no (hP) HS1.out.kt
theorem memberW_1{w0 W:World}{base g:Nat}{s:Wr}(c:Cx w0 W base g s)(m a b:Int)(ng:Bool)(n:ByteArray)(sa:Option Addr)(sl sc:Nat)(ao:Option Addr)(nk cap:Nat)(st:List R)(ks:List Nd)(hsl:st.length=sl)(hnk:ks.length=nk)(ho:othersZ (.mk 1 m a b ng n st ks)=true)(hsz:(TX (printL a true)).size≤9223372036854775807):Met 96 #[.pointer (some ⟨g,0,none⟩),.agg (n8 1 m a b ng n sa sl sc ao nk cap)] w0 W base g (putO s (TX (printL a true))):=by
 have HS:=Sn.st c (n8 1 m a b ng n sa sl sc ao nk cap)
 have HO:Hid (Cs w0 W base g (n8 1 m a b ng n sa sl sc ao nk cap) s s 30 #[.agg (n8 1 m a b ng n sa sl sc ao nk cap)] (.bool true)):=fun W' S=>oz_sn S (1) (m) (a) (b) (ng) (n) st ks sa sl sc ao nk cap hsl hnk _ ho
 have HQ:Hid (Cs w0 W base g (n8 1 m a b ng n sa sl sc ao nk cap) s s 40 #[.int .i64 a,.bool true] (.string (TX (printL a true)))):=fun W' S=>quiet_of S (tok.print_any a true W' S.cx.c.penv)
 have HP:Hid (Cp w0 W base g (n8 1 m a b ng n sa sl sc ao nk cap) s 32 #[.pointer (some ⟨g,0,none⟩),.string (TX (printL a true))] (putO s (TX (printL a true)))):=fun W' S=>Met.sn (put_met S.cx _ hsz) S
 unfold Met
 generalize putO s (TX (printL a true))=P at*
 generalize TX (printL a true)=T at*
 clear c
 go_enter Tryz.func96,Tryz.ntmps96
 go_wp2_with(first
  |(go_at_call 30;refine(HO.out _ HS.out).mono ?_;rintro e w1⟨rfl,d⟩;have HS1:Hid (Sn w0 W base g W.heap.size (n8 1 m a b ng n sa sl sc ao nk cap) s w1):=d;obtain⟨x0,x1,x2,x3,x4,x5,x6,x7⟩:=Bk.c8 d.bk;clear d)
  |(go_at_call 40;refine(HQ.out _ HS1.out).mono ?_;rintro e w2⟨rfl,d⟩;have HS2:Hid (Sn w0 W base g W.heap.size (n8 1 m a b ng n sa sl sc ao nk cap) s w2):=d;clear d)
  |(go_at_call 32;refine(HP.out _ HS2.out).mono ?_;rintro e w9⟨rfl,d1,d2⟩;have HT1:Hid (∀s',_=some s'→Cx w0 w9 base g s'):=d1;have HT2:Hid (Kt base W w9):=d2;clear d1 d2))
 go_ret
 exact⟨ret_bool (by first|rfl|simp),HT1.out,HT2.out⟩
theorem memberW_5{w0 W:World}{base g:Nat}{s:Wr}(c:Cx w0 W base g s)(m a b:Int)(ng:Bool)(n:ByteArray)(sa:Option Addr)(sl sc:Nat)(ao:Option Addr)(nk cap:Nat)(st:List R)(ks:List Nd)(hsl:st.length=sl)(hnk:ks.length=nk)(ho:othersZ (.mk 5 m a b ng n st ks)=true)(hn:n.size≤140737488355327):Met 96 #[.pointer (some ⟨g,0,none⟩),.agg (n8 5 m a b ng n sa sl sc ao nk cap)] w0 W base g (propO s n ng):=by
 have HS:=Sn.st c (n8 5 m a b ng n sa sl sc ao nk cap)
 have HO:Hid (Cs w0 W base g (n8 5 m a b ng n sa sl sc ao nk cap) s s 30 #[.agg (n8 5 m a b ng n sa sl sc ao nk cap)] (.bool true)):=fun W' S=>oz_sn S (5) (m) (a) (b) (ng) (n) st ks sa sl sc ao nk cap hsl hnk _ ho
 have HP:Hid (Cp w0 W base g (n8 5 m a b ng n sa sl sc ao nk cap) s 42 #[.pointer (some ⟨g,0,none⟩),.agg (n8 5 m a b ng n sa sl sc ao nk cap)] (propO s n ng)):=fun W' S=>Met.sn (property_w S.cx 5 m a b ng n sa sl sc ao nk cap hn) S
 unfold Met
 generalize propO s n ng=P at*
 clear c
 go_enter Tryz.func96,Tryz.ntmps96
 go_wp2_with(first
  |(go_at_call 30;refine(HO.out _ HS.out).mono ?_;rintro e w1⟨rfl,d⟩;have HS1:Hid (Sn w0 W base g W.heap.size (n8 5 m a b ng n sa sl sc ao nk cap) s w1):=d;obtain⟨x0,x1,x2,x3,x4,x5,x6,x7⟩:=Bk.c8 d.bk;clear d)
  |(go_at_call 42;refine(HP.out _ HS1.out).mono ?_;rintro e w9⟨rfl,d1,d2⟩;have HT1:Hid (∀s',_=some s'→Cx w0 w9 base g s'):=d1;have HT2:Hid (Kt base W w9):=d2;clear d1 d2))
 go_ret
 exact⟨ret_bool (by first|rfl|simp),HT1.out,HT2.out⟩
theorem memberW_3{w0 W:World}{base g:Nat}{s:Wr}(c:Cx w0 W base g s)(m a b:Int)(ng:Bool)(n:ByteArray)(sa:Option Addr)(sl sc:Nat)(ao:Option Addr)(nk cap:Nat)(st:List R)(ks:List Nd)(hsl:st.length=sl)(hnk:ks.length=nk)(ho:othersZ (.mk 3 m a b ng n st ks)=true)(Pc:Option Wr)(HC:∀W',Cx w0 W' base g s→Met 41 #[.pointer (some ⟨g,0,none⟩),.agg (n8 3 m a b ng n sa sl sc ao nk cap)] w0 W' base g (Pc)):Met 96 #[.pointer (some ⟨g,0,none⟩),.agg (n8 3 m a b ng n sa sl sc ao nk cap)] w0 W base g (Pc):=by
 have HS:=Sn.st c (n8 3 m a b ng n sa sl sc ao nk cap)
 have HO:Hid (Cs w0 W base g (n8 3 m a b ng n sa sl sc ao nk cap) s s 30 #[.agg (n8 3 m a b ng n sa sl sc ao nk cap)] (.bool true)):=fun W' S=>oz_sn S (3) (m) (a) (b) (ng) (n) st ks sa sl sc ao nk cap hsl hnk _ ho
 have HP:Hid (Cp w0 W base g (n8 3 m a b ng n sa sl sc ao nk cap) s 41 #[.pointer (some ⟨g,0,none⟩),.agg (n8 3 m a b ng n sa sl sc ao nk cap)] Pc):=fun W' S=>Met.sn (HC W' S.cx) S
 unfold Met
 generalize Pc=P at*
 clear c
 go_enter Tryz.func96,Tryz.ntmps96
 go_wp2_with(first
  |(go_at_call 30;refine(HO.out _ HS.out).mono ?_;rintro e w1⟨rfl,d⟩;have HS1:Hid (Sn w0 W base g W.heap.size (n8 3 m a b ng n sa sl sc ao nk cap) s w1):=d;obtain⟨x0,x1,x2,x3,x4,x5,x6,x7⟩:=Bk.c8 d.bk;clear d)
  |(go_at_call 41;refine(HP.out _ HS1.out).mono ?_;rintro e w9⟨rfl,d1,d2⟩;have HT1:Hid (∀s',_=some s'→Cx w0 w9 base g s'):=d1;have HT2:Hid (Kt base W w9):=d2;clear d1 d2))
 go_ret
 exact⟨ret_bool (by first|rfl|simp),HT1.out,HT2.out⟩
theorem memberW_4{w0 W:World}{base g:Nat}{s:Wr}(c:Cx w0 W base g s)(m a b:Int)(ng:Bool)(n:ByteArray)(sa:Option Addr)(sl sc:Nat)(ao:Option Addr)(nk cap:Nat)(st:List R)(ks:List Nd)(hsl:st.length=sl)(hnk:ks.length=nk)(ho:othersZ (.mk 4 m a b ng n st ks)=true)(hA:(TX (printL a true)).size≤9223372036854775807)(hB:(TX (printL b true)).size≤9223372036854775807):Met 96 #[.pointer (some ⟨g,0,none⟩),.agg (n8 4 m a b ng n sa sl sc ao nk cap)] w0 W base g (rangeO s a b):=by
 have HS:=Sn.st c (n8 4 m a b ng n sa sl sc ao nk cap)
 have HO:Hid (Cs w0 W base g (n8 4 m a b ng n sa sl sc ao nk cap) s s 30 #[.agg (n8 4 m a b ng n sa sl sc ao nk cap)] (.bool true)):=fun W' S=>oz_sn S (4) (m) (a) (b) (ng) (n) st ks sa sl sc ao nk cap hsl hnk _ ho
 unfold Met rangeO
 by_cases hab:a≤b
 ·rw[if_pos hab]
  have fab:decide (a≤b)=true:=decide_eq_true hab
  have HQ:Hid (Cs w0 W base g (n8 4 m a b ng n sa sl sc ao nk cap) s s 40 #[.int .i64 a,.bool true] (.string (TX (printL a true)))):=fun W' S=>quiet_of S (tok.print_any a true W' S.cx.c.penv)
  cases h1:putO s (TX (printL a true))with
  |none=>
   have HP:Hid (Cn w0 W base g (n8 4 m a b ng n sa sl sc ao nk cap) s 32 #[.pointer (some ⟨g,0,none⟩),.string (TX (printL a true))] (.bool false)):=fun W' S=>Met.sn_no (put_met S.cx _ hA) h1 S
   clear c h1 hab
   generalize TX (printL a true)=T at*
   go_enter Tryz.func96,Tryz.ntmps96
   go_wp2_with(first
    |(go_at_call 30;refine(HO.out _ HS.out).mono ?_;rintro e w1⟨rfl,d⟩;have HS1:Hid (Sn w0 W base g W.heap.size (n8 4 m a b ng n sa sl sc ao nk cap) s w1):=d;obtain⟨x0,x1,x2,x3,x4,x5,x6,x7⟩:=Bk.c8 d.bk;clear d)
    |(go_at_call_of 40(Value.int IntKind.i64 a);refine(HQ.out _ HS1.out).mono ?_;rintro e w2⟨rfl,d⟩;have HS2:Hid (Sn w0 W base g W.heap.size (n8 4 m a b ng n sa sl sc ao nk cap) s w2):=d;obtain⟨x0,x1,x2,x3,x4,x5,x6,x7⟩:=Bk.c8 d.bk;clear d)
    |(go_at_call 32;refine(HP.out _ HS2.out).mono ?_;rintro e w3⟨rfl,d⟩;have HZ:Hid (Kt base W w3):=d;clear d))
   go_ret
   exact met_no (rfl) HZ.out
  |some s1=>
   simp only[Option.bind_some]
   have HP:Hid (Cs w0 W base g (n8 4 m a b ng n sa sl sc ao nk cap) s s1 32 #[.pointer (some ⟨g,0,none⟩),.string (TX (printL a true))] (.bool true)):=fun W' S=>Met.sn_ok (put_met S.cx _ hA) h1 S
   cases h2:putO s1 ⟨#[45]⟩with
   |none=>
    have HP2:Hid (Cn w0 W base g (n8 4 m a b ng n sa sl sc ao nk cap) s1 32 #[.pointer (some ⟨g,0,none⟩),.string ⟨#[45]⟩] (.bool false)):=fun W' S=>Met.sn_no (put_met S.cx _ (by decide)) h2 S
    clear c h1 h2 hab
    generalize TX (printL a true)=T at*
    go_enter Tryz.func96,Tryz.ntmps96
    go_wp2_with(first
     |(go_at_call 30;refine(HO.out _ HS.out).mono ?_;rintro e w1⟨rfl,d⟩;have HS1:Hid (Sn w0 W base g W.heap.size (n8 4 m a b ng n sa sl sc ao nk cap) s w1):=d;obtain⟨x0,x1,x2,x3,x4,x5,x6,x7⟩:=Bk.c8 d.bk;clear d)
     |(go_at_call_of 40(Value.int IntKind.i64 a);refine(HQ.out _ HS1.out).mono ?_;rintro e w2⟨rfl,d⟩;have HS2:Hid (Sn w0 W base g W.heap.size (n8 4 m a b ng n sa sl sc ao nk cap) s w2):=d;obtain⟨x0,x1,x2,x3,x4,x5,x6,x7⟩:=Bk.c8 d.bk;clear d)
     |(go_at_call_of 32(Value.string T);refine(HP.out _ HS2.out).mono ?_;rintro e w3⟨rfl,d⟩;have HS3:Hid (Sn w0 W base g W.heap.size (n8 4 m a b ng n sa sl sc ao nk cap) s1 w3):=d;obtain⟨x0,x1,x2,x3,x4,x5,x6,x7⟩:=Bk.c8 d.bk;clear d)
     |(go_at_call 32;refine(HP2.out _ HS3.out).mono ?_;rintro e w4⟨rfl,d⟩;have HZ:Hid (Kt base W w4):=d;clear d))
    go_ret
    exact met_no (rfl) HZ.out
   |some s2=>
    simp only[Option.bind_some]
    have HP2:Hid (Cs w0 W base g (n8 4 m a b ng n sa sl sc ao nk cap) s1 s2 32 #[.pointer (some ⟨g,0,none⟩),.string ⟨#[45]⟩] (.bool true)):=fun W' S=>Met.sn_ok (put_met S.cx _ (by decide)) h2 S
    have HQ2:Hid (Cs w0 W base g (n8 4 m a b ng n sa sl sc ao nk cap) s2 s2 40 #[.int .i64 b,.bool true] (.string (TX (printL b true)))):=fun W' S=>quiet_of S (tok.print_any b true W' S.cx.c.penv)
    have HP3:Hid (Cp w0 W base g (n8 4 m a b ng n sa sl sc ao nk cap) s2 32 #[.pointer (some ⟨g,0,none⟩),.string (TX (printL b true))] (putO s2 (TX (printL b true)))):=fun W' S=>Met.sn (put_met S.cx _ hB) S
    generalize putO s2 (TX (printL b true))=P at*
    clear c h1 h2 hab
    generalize TX (printL a true)=T at*
    generalize TX (printL b true)=T2 at*
    go_enter Tryz.func96,Tryz.ntmps96
    go_wp2_with(first
     |(go_at_call 30;refine(HO.out _ HS.out).mono ?_;rintro e w1⟨rfl,d⟩;have HS1:Hid (Sn w0 W base g W.heap.size (n8 4 m a b ng n sa sl sc ao nk cap) s w1):=d;obtain⟨x0,x1,x2,x3,x4,x5,x6,x7⟩:=Bk.c8 d.bk;clear d)
     |(go_at_call_of 40(Value.int IntKind.i64 a);refine(HQ.out _ HS1.out).mono ?_;rintro e w2⟨rfl,d⟩;have HS2:Hid (Sn w0 W base g W.heap.size (n8 4 m a b ng n sa sl sc ao nk cap) s w2):=d;obtain⟨x0,x1,x2,x3,x4,x5,x6,x7⟩:=Bk.c8 d.bk;clear d)
     |(go_at_call_of 32(Value.string T);refine(HP.out _ HS2.out).mono ?_;rintro e w3⟨rfl,d⟩;have HS3:Hid (Sn w0 W base g W.heap.size (n8 4 m a b ng n sa sl sc ao nk cap) s1 w3):=d;obtain⟨x0,x1,x2,x3,x4,x5,x6,x7⟩:=Bk.c8 d.bk;clear d)
     |(go_at_call 40;refine(HQ2.out _ HS4.out).mono ?_;rintro e w5⟨rfl,d⟩;have HS5:Hid (Sn w0 W base g W.heap.size (n8 4 m a b ng n sa sl sc ao nk cap) s2 w5):=d;clear d)
     |(go_at_call_of 32(Value.string T2);refine(HP3.out _ HS5.out).mono ?_;rintro e w9⟨rfl,d1,d2⟩;have HT1:Hid (∀s',_=some s'→Cx w0 w9 base g s'):=d1;have HT2:Hid (Kt base W w9):=d2;clear d1 d2)
     |(go_at_call 32;refine(HP2.out _ HS3.out).mono ?_;rintro e w4⟨rfl,d⟩;have HS4:Hid (Sn w0 W base g W.heap.size (n8 4 m a b ng n sa sl sc ao nk cap) s2 w4):=d;obtain⟨x0,x1,x2,x3,x4,x5,x6,x7⟩:=Bk.c8 d.bk;clear d))
    go_ret
    exact⟨ret_bool (by first|rfl|simp),HT1.out,HT2.out⟩
 ·rw[if_neg hab]
  have fab:decide (a≤b)=false:=decide_eq_false hab
  clear c hab
  go_enter Tryz.func96,Tryz.ntmps96
  go_wp2_with(first
   |(go_at_call 30;refine(HO.out _ HS.out).mono ?_;rintro e w1⟨rfl,d⟩;have HS1:Hid (Sn w0 W base g W.heap.size (n8 4 m a b ng n sa sl sc ao nk cap) s w1):=d;obtain⟨x0,x1,x2,x3,x4,x5,x6,x7⟩:=Bk.c8 d.bk;clear d))
  go_ret
  exact met_no (rfl) HS1.out.kt
end Go.Proofs.YtbbeciofgnkggaaGreatDoor.tre
namespace Go.Proofs.YtbbeciofgnkggaaGreatDoor.tre
open Go.RowKit nod
open rng(R RV ret_int ret_bool below_drewN info_parts own_below')
open tok(PEnv TX printL)
theorem members_w{w0 W:World}{base g:Nat}{s:Wr}(c:Cx w0 W base g s)(ao:Option Addr)(nk cap:Nat)(ks:List Nd)(HL:Hid (ks.length=nk))(hcap:nk≤cap)(hbig:cap≤9223372036854775807)(HKV:Hid (KV base w0 ao ks))(fm:Wr→Nd→Option Wr)(HF:Hid (∀t∈ks,∀W' s' v,Cx w0 W' base g s'→NV base w0 t v→Met 96 #[.pointer (some ⟨g,0,none⟩),v] w0 W' base g (fm s' t))):Met 78 #[.pointer (some ⟨g,0,none⟩),.slice ao nk cap] w0 W base g (if nk=0 then none else loopO fm ks s):=by
 have HST:Hid (Cx w0 W base g s∧Kt base W W):=⟨c,Kt.refl _ _⟩
 have hgs:=c.c.wr.lt
 unfold Met
 obtain⟨P,hP⟩:∃P,(if nk=0 then none else loopO fm ks s)=P:=⟨_,rfl⟩
 rw[hP]
 have HNO:Hid (0<nk→loopO fm ks s=none→P=none):=fun h e=>by rw[←hP,if_neg (by omega),e]
 have HOK:Hid (∀s',0<nk→loopO fm ks s=some s'→P=some s'):=fun s' h e=>by rw[←hP,if_neg (by omega),e]
 have HZE:Hid (nk=0→P=none):=fun h=>by rw[←hP,if_pos h]
 clear c hP
 go_enter Tryz.func78,Tryz.ntmps78
 go_wp2
 go_loopw[9](fun i wr=>∃(j:Nat)(sj:Wr),j≤nk∧i=.int .i64 j∧Hid (loopO fm ks s=loopO fm (ks.drop j) sj)∧Hid (Cx w0 wr base g sj)∧Hid (Kt base W wr))(fun i _=>nk-(intOf i).toNat)
 case atStart=>exact⟨0,s,by omega,rfl,rfl,HST.out.1,HST.out.2⟩
 case round=>
  obtain⟨j,sj,hj,rfl,HJ,HCX,HKT⟩:=hrel
  clear HST
  by_cases hlt:j<nk
  ·obtain⟨t,ht⟩:=getX HL.out hlt
   obtain⟨bb,off,rfl,hka⟩:=HKV.out.some (by have:=HL.out;omega)
   obtain⟨k',m',a',b',g',n',s',kk,sa',sc',ao',cap',rfl,⟨e0,e1,e2,e3,e4,e5,e6,e7⟩,hv'⟩:=hka.kid ht
   have hbb:=hka.1
   have bl:=HCX.out.c.bel
   have d0:=(bl.cell (p:=⟨bb,off+j*8,none⟩) hbb).trans e0
   have d1:=(bl.cell (p:=⟨bb,off+j*8+1,none⟩) hbb).trans e1
   have d2:=(bl.cell (p:=⟨bb,off+j*8+2,none⟩) hbb).trans e2
   have d3:=(bl.cell (p:=⟨bb,off+j*8+3,none⟩) hbb).trans e3
   have d4:=(bl.cell (p:=⟨bb,off+j*8+4,none⟩) hbb).trans e4
   have d5:=(bl.cell (p:=⟨bb,off+j*8+5,none⟩) hbb).trans e5
   have d6:=(bl.cell (p:=⟨bb,off+j*8+6,none⟩) hbb).trans e6
   have d7:=(bl.cell (p:=⟨bb,off+j*8+7,none⟩) hbb).trans e7
   clear e0 e1 e2 e3 e4 e5 e6 e7
   have hmem:=List.mem_of_getElem? ht
   generalize s'.length=sl' at*
   generalize kk.length=nk' at*
   obtain⟨T,hTT⟩:∃T,Nd.mk k' m' a' b' g' n' s' kk=T:=⟨_,rfl⟩
   rw[hTT]at ht hmem hv'
   clear hTT
   have HW1:Hid (Cx w0 (wr.alloc (.cells (n8 k' m' a' b' g' n' sa' sl' sc' ao' nk' cap') 25)) base g sj):=HCX.out.on ((Below.refl _ wr).alloc (Nat.le_refl _) _)
   have HK1:Hid (Kt base W (wr.alloc (.cells (n8 k' m' a' b' g' n' sa' sl' sc' ao' nk' cap') 25))):=HKT.out.trans (HCX.out.kt ((Below.refl _ wr).alloc (Nat.le_refl _) _))
   have hsz:=HCX.out.c.size
   have CM:=HF.out T hmem _ sj _ HW1.out hv'
   have HDR:Hid (loopO fm ks s=(fm sj T).bind (loopO fm (ks.drop (j+1)))):=by unfold Hid;rw[HJ.out,dropX ht,loopO]
   cases hP:fm sj T with
   |none=>
    have C:=CM.no hP
    have HE:Hid (loopO fm ks s=none):=by unfold Hid;rw[HDR.out,hP];rfl
    clear HJ HCX HKT HKV HF hka hv' hmem ht bl CM HDR hP HW1
    go_wp2_with(go_at_call 96;refine C.mono ?_;rintro e w2⟨rfl,d⟩;have HZ:Hid (Kt base W w2):=HK1.out.trans d;clear d)
    go_ret
    exact met_no (HNO.out (by omega) HE.out) HZ.out
   |some s2=>
    have C:=CM.ok hP
    have HE:Hid (loopO fm ks s=loopO fm (ks.drop (j+1)) s2):=by unfold Hid;rw[HDR.out,hP];rfl
    clear HJ HCX HKT HKV HF hka hv' hmem ht bl CM HDR hP HW1
    go_wp2_with(go_at_call 96;refine C.mono ?_;rintro e w2⟨rfl,d,d'⟩;have HC2:Hid (Cx w0 w2 base g s2):=d;have HZ:Hid (Kt base W w2):=HK1.out.trans d';clear d d')
    go_roundw
    case rel=>exact⟨j+1,s2,by omega,by go_num,HE,HC2,HZ⟩
    case measure=>simp[intOf];omega
  ·have HE:Hid (loopO fm ks s=some sj):=by unfold Hid;rw[HJ.out,List.drop_of_length_le (by have:=HL.out;omega),loopO]
   clear HJ HKV HF
   by_cases z:nk=0
   ·subst z
    go_wp2
    go_ret
    exact met_no (HZE.out (by trivial)) HKT.out
   ·have z1:decide (0<(nk:Int))=true:=decide_eq_true (by omega)
    have z2:decide (0<nk)=true:=decide_eq_true (by omega)
    go_wp2
    go_ret
    exact met_ok (HOK.out sj (by omega) HE.out) HCX.out HKT.out
theorem sequence_kind{w0 W:World}{base g:Nat}{s:Wr}(c:Cx w0 W base g s)(k m a b:Int)(ng:Bool)(n:ByteArray)(sa:Option Addr)(sl sc:Nat)(ao:Option Addr)(nk cap:Nat)(hk:¬k=6):Met 25 #[.pointer (some ⟨g,0,none⟩),.agg (n8 k m a b ng n sa sl sc ao nk cap)] w0 W base g (none):=by
 have HS:=Sn.st c (n8 k m a b ng n sa sl sc ao nk cap)
 unfold Met
 clear c
 go_enter Tryz.func25,Tryz.ntmps25
 go_wp2
 go_ret
 exact met_no (rfl) HS.out.kt
theorem sequence_no{w0 W:World}{base g:Nat}{s:Wr}(c:Cx w0 W base g s)(m a b:Int)(ng:Bool)(n:ByteArray)(sa:Option Addr)(sl sc:Nat)(ao:Option Addr)(nk cap:Nat)(st:List R)(ks:List Nd)(hsl:st.length=sl)(hnk:ks.length=nk)(ho:othersZ (.mk 6 m a b ng n st ks)=false):Met 25 #[.pointer (some ⟨g,0,none⟩),.agg (n8 6 m a b ng n sa sl sc ao nk cap)] w0 W base g (none):=by
 have HS:=Sn.st c (n8 6 m a b ng n sa sl sc ao nk cap)
 have HO:Hid (Cs w0 W base g (n8 6 m a b ng n sa sl sc ao nk cap) s s 30 #[.agg (n8 6 m a b ng n sa sl sc ao nk cap)] (.bool false)):=fun W' S=>oz_sn S (6) (m) (a) (b) (ng) (n) st ks sa sl sc ao nk cap hsl hnk _ ho
 unfold Met
 clear c
 go_enter Tryz.func25,Tryz.ntmps25
 go_wp2_with(first
  |(go_at_call 30;refine(HO.out _ HS.out).mono ?_;rintro e w1⟨rfl,d⟩;have HS1:Hid (Sn w0 W base g W.heap.size (n8 6 m a b ng n sa sl sc ao nk cap) s w1):=d;clear d))
 go_ret
 exact met_no (rfl) HS1.out.kt
theorem sequence_w{w0 W:World}{base g:Nat}{s:Wr}(c:Cx w0 W base g s)(m a b:Int)(ng:Bool)(n:ByteArray)(sa:Option Addr)(sl sc:Nat)(ao:Option Addr)(nk cap:Nat)(st:List R)(ks:List Nd)(hsl:st.length=sl)(HL:Hid (ks.length=nk))(hcap:nk≤cap)(hbig:cap≤9223372036854775807)(HKV:Hid (KV base w0 ao ks))(ho:othersZ (.mk 6 m a b ng n st ks)=true)(fm:Wr→Nd→Option Wr)(HF:Hid (∀t∈ks,∀W' s' v,Cx w0 W' base g s'→NV base w0 t v→Met 31 #[.pointer (some ⟨g,0,none⟩),v] w0 W' base g (fm s' t))):Met 25 #[.pointer (some ⟨g,0,none⟩),.agg (n8 6 m a b ng n sa sl sc ao nk cap)] w0 W base g (loopO fm ks s):=by
 have HS:=Sn.st c (n8 6 m a b ng n sa sl sc ao nk cap)
 have hnk:=HL.out
 have HO:Hid (Cs w0 W base g (n8 6 m a b ng n sa sl sc ao nk cap) s s 30 #[.agg (n8 6 m a b ng n sa sl sc ao nk cap)] (.bool true)):=fun W' S=>oz_sn S (6) (m) (a) (b) (ng) (n) st ks sa sl sc ao nk cap hsl hnk _ ho
 unfold Met
 have HNO:Hid (0<nk→loopO fm ks s=none→loopO fm ks s=none):=fun _ e=>e
 clear c hnk
 go_enter Tryz.func25,Tryz.ntmps25
 go_wp2_with(first
  |(go_at_call 30;refine(HO.out _ HS.out).mono ?_;rintro e w1⟨rfl,d⟩;have HS1:Hid (Sn w0 W base g W.heap.size (n8 6 m a b ng n sa sl sc ao nk cap) s w1):=d;obtain⟨x0,x1,x2,x3,x4,x5,x6,x7⟩:=Bk.c8 d.bk;have HST:Hid (Cx w0 w1 base g s∧Kt base W w1):=⟨d.cx,d.kt⟩;clear d))
 go_loopw[18](fun i wr=>∃(j:Nat)(sj:Wr),j≤nk∧i=.int .i64 j∧Hid (loopO fm ks s=loopO fm (ks.drop j) sj)∧Hid (Cx w0 wr base g sj)∧Hid (Kt base W wr))(fun i _=>nk-(intOf i).toNat)
 case atStart=>exact⟨0,s,by omega,rfl,rfl,HST.out.1,HST.out.2⟩
 case round=>
  obtain⟨j,sj,hj,rfl,HJ,HCX,HKT⟩:=hrel
  clear HST
  by_cases hlt:j<nk
  ·obtain⟨t,ht⟩:=getX HL.out hlt
   obtain⟨bb,off,rfl,hka⟩:=HKV.out.some (by have:=HL.out;omega)
   obtain⟨k',m',a',b',g',n',s',kk,sa',sc',ao',cap',rfl,⟨e0,e1,e2,e3,e4,e5,e6,e7⟩,hv'⟩:=hka.kid ht
   have hbb:=hka.1
   have bl:=HCX.out.c.bel
   have d0:=(bl.cell (p:=⟨bb,off+j*8,none⟩) hbb).trans e0
   have d1:=(bl.cell (p:=⟨bb,off+j*8+1,none⟩) hbb).trans e1
   have d2:=(bl.cell (p:=⟨bb,off+j*8+2,none⟩) hbb).trans e2
   have d3:=(bl.cell (p:=⟨bb,off+j*8+3,none⟩) hbb).trans e3
   have d4:=(bl.cell (p:=⟨bb,off+j*8+4,none⟩) hbb).trans e4
   have d5:=(bl.cell (p:=⟨bb,off+j*8+5,none⟩) hbb).trans e5
   have d6:=(bl.cell (p:=⟨bb,off+j*8+6,none⟩) hbb).trans e6
   have d7:=(bl.cell (p:=⟨bb,off+j*8+7,none⟩) hbb).trans e7
   clear e0 e1 e2 e3 e4 e5 e6 e7
   have hmem:=List.mem_of_getElem? ht
   generalize s'.length=sl' at*
   generalize kk.length=nk' at*
   obtain⟨T,hTT⟩:∃T,Nd.mk k' m' a' b' g' n' s' kk=T:=⟨_,rfl⟩
   rw[hTT]at ht hmem hv'
   clear hTT
   have HW1:Hid (Cx w0 (wr.alloc (.cells (n8 k' m' a' b' g' n' sa' sl' sc' ao' nk' cap') 25)) base g sj):=HCX.out.on ((Below.refl _ wr).alloc (Nat.le_refl _) _)
   have HK1:Hid (Kt base W (wr.alloc (.cells (n8 k' m' a' b' g' n' sa' sl' sc' ao' nk' cap') 25))):=HKT.out.trans (HCX.out.kt ((Below.refl _ wr).alloc (Nat.le_refl _) _))
   have hsz:=HCX.out.c.size
   have CM:=HF.out T hmem _ sj _ HW1.out hv'
   have HDR:Hid (loopO fm ks s=(fm sj T).bind (loopO fm (ks.drop (j+1)))):=by unfold Hid;rw[HJ.out,dropX ht,loopO]
   cases hP:fm sj T with
   |none=>
    have C:=CM.no hP
    have HE:Hid (loopO fm ks s=none):=by unfold Hid;rw[HDR.out,hP];rfl
    clear HJ HCX HKT HKV HF hka hv' hmem ht bl CM HDR hP HW1
    go_wp2_with(go_at_call 31;refine C.mono ?_;rintro e w2⟨rfl,d⟩;have HZ:Hid (Kt base W w2):=HK1.out.trans d;clear d)
    go_ret
    exact met_no (HNO.out (by omega) HE.out) HZ.out
   |some s2=>
    have C:=CM.ok hP
    have HE:Hid (loopO fm ks s=loopO fm (ks.drop (j+1)) s2):=by unfold Hid;rw[HDR.out,hP];rfl
    clear HJ HCX HKT HKV HF hka hv' hmem ht bl CM HDR hP HW1
    go_wp2_with(go_at_call 31;refine C.mono ?_;rintro e w2⟨rfl,d,d'⟩;have HC2:Hid (Cx w0 w2 base g s2):=d;have HZ:Hid (Kt base W w2):=HK1.out.trans d';clear d d')
    go_roundw
    case rel=>exact⟨j+1,s2,by omega,by go_num,HE,HC2,HZ⟩
    case measure=>simp[intOf];omega
  ·have HE:Hid (loopO fm ks s=some sj):=by unfold Hid;rw[HJ.out,List.drop_of_length_le (by have:=HL.out;omega),loopO]
   clear HJ HKV HF
   go_wp2
   go_ret
   exact met_ok HE.out HCX.out HKT.out
end Go.Proofs.YtbbeciofgnkggaaGreatDoor.tre
