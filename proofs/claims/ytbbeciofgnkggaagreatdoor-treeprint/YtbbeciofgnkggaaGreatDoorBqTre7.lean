import Derived.Test.YtbbeciofgnkggaaGreatDoorBqTre3
import Derived.Test.YtbbeciofgnkggaaGreatDoorBqTre6
import Derived.Test.YtbbeciofgnkggaaGreatDoorBqNod1
set_option linter.unusedSimpArgs false
set_option linter.unusedVariables false
set_option maxRecDepth 10000
set_option maxHeartbeats 2000000
namespace Go.Proofs.YtbbeciofgnkggaaGreatDoor.tre
open Go.RowKit nod
open rng(R RV ret_int ret_bool below_drewN info_parts own_below')
open tok(PEnv TX printL)
theorem WrAt.grpCell{w:World}{base g:Nat}{s:Wr}(h:WrAt w base g s):w.cell? ⟨g,4,none⟩=some (.int .i64 s.groups):=by
 obtain⟨_,p,bv,nv,h1,_⟩:=h
 rw[Lib.cell_of_heap h1];rfl
theorem texts_any(m:Int)(l:List ByteArray)(N:Nat)(hN:l.length=N)(hl:N≤1000)(W:World)(z:Nat)(hz:W.heap.size=z):Calls Tryz.prog 46 #[.int .i64 m,.slice (some ⟨z,0,none⟩) N N] (W.alloc (.cells (l.map Value.string).toArray 9)) fun e w'=>e=.returned (.string (textP m l))∧(W.alloc (.cells (l.map Value.string).toArray 9))=w':=by
 subst hN hz
 exact(text_any m _ l.length l _ (tv_new W l) hl).mono fun e w'⟨h1,h2⟩=>⟨h1,h2.symm⟩
theorem texts_drew(m:Int)(l:List ByteArray)(N:Nat)(hN:l.length=N)(hl:N≤1000)(W:World)(z:Nat)(hz:W.heap.size=z):Calls Tryz.prog 46 #[.int .i64 m,.slice (some ⟨z,0,none⟩) N N] (W.alloc (.cells (l.map Value.string).toArray 9)).drew fun e w'=>e=.returned (.string (textP m l))∧(W.alloc (.cells (l.map Value.string).toArray 9)).drew=w':=by
 subst hN hz
 have hv:TV (W.alloc (.cells (l.map Value.string).toArray 9)).drew (some ⟨W.heap.size,0,none⟩) l:=tv_new W l
 exact(text_any m _ l.length l _ hv hl).mono fun e w'⟨h1,h2⟩=>⟨h1,h2.symm⟩
theorem below_ad(W:World)(o:Obj):Below W.heap.size W (W.alloc o).drew:=Below.drew ((Below.refl _ W).alloc (Nat.le_refl _) _)
theorem texts_size(m:Int)(l:List ByteArray)(B:Nat)(h:∀x∈l,x.size≤B):(textP m l).size≤B:=by
 unfold textP
 split
 ·simp
 ·cases hx:l[m.toNat]? with
  |none=>simp
  |some x=>exact h x (List.mem_of_getElem? hx)
theorem part_no{w0 W:World}{base g:Nat}{s:Wr}(c:Cx w0 W base g s)(k m a b:Int)(ng:Bool)(n:ByteArray)(sa:Option Addr)(sl sc:Nat)(ao:Option Addr)(nk cap:Nat)(st:List R)(ks:List Nd)(hsl:st.length=sl)(hnk:ks.length=nk)(ho:othersZ (.mk k m a b ng n st ks)=false)(P:Option Wr)(hP:P=none):Met 31 #[.pointer (some ⟨g,0,none⟩),.agg (n8 k m a b ng n sa sl sc ao nk cap)] w0 W base g (P):=by
 have HS:=Sn.st c (n8 k m a b ng n sa sl sc ao nk cap)
 have HO:Hid (Cs w0 W base g (n8 k m a b ng n sa sl sc ao nk cap) s s 30 #[.agg (n8 k m a b ng n sa sl sc ao nk cap)] (.bool false)):=fun W' S=>oz_sn S (k) (m) (a) (b) (ng) (n) st ks sa sl sc ao nk cap hsl hnk _ ho
 unfold Met
 clear c
 go_enter Tryz.func31,Tryz.ntmps31
 go_wp2_with(first
  |(go_at_call 30;refine(HO.out _ HS.out).mono ?_;rintro e w1⟨rfl,d⟩;have HS1:Hid (Sn w0 W base g W.heap.size (n8 k m a b ng n sa sl sc ao nk cap) s w1):=d;clear d))
 go_ret
 exact met_no (hP) HS1.out.kt
theorem part_other{w0 W:World}{base g:Nat}{s:Wr}(c:Cx w0 W base g s)(k m a b:Int)(ng:Bool)(n:ByteArray)(sa:Option Addr)(sl sc:Nat)(ao:Option Addr)(nk cap:Nat)(st:List R)(ks:List Nd)(hsl:st.length=sl)(hnk:ks.length=nk)(ho:othersZ (.mk k m a b ng n st ks)=true)(P:Option Wr)(hP:P=none)(k1:(k==1)=false)(k2:(k==2)=false)(k3:(k==3)=false)(k5:(k==5)=false)(k8:(k==8)=false)(k9:(k==9)=false)(k10:(k==10)=false)(k11:(k==11)=false)(k12:(k==12)=false)(k13:(k==13)=false)(k14:(k==14)=false):Met 31 #[.pointer (some ⟨g,0,none⟩),.agg (n8 k m a b ng n sa sl sc ao nk cap)] w0 W base g (P):=by
 have HS:=Sn.st c (n8 k m a b ng n sa sl sc ao nk cap)
 have HO:Hid (Cs w0 W base g (n8 k m a b ng n sa sl sc ao nk cap) s s 30 #[.agg (n8 k m a b ng n sa sl sc ao nk cap)] (.bool true)):=fun W' S=>oz_sn S (k) (m) (a) (b) (ng) (n) st ks sa sl sc ao nk cap hsl hnk _ ho
 unfold Met
 clear c
 go_enter Tryz.func31,Tryz.ntmps31
 go_wp2_with(first
  |(go_at_call 30;refine(HO.out _ HS.out).mono ?_;rintro e w1⟨rfl,d⟩;have HS1:Hid (Sn w0 W base g W.heap.size (n8 k m a b ng n sa sl sc ao nk cap) s w1):=d;obtain⟨x0,x1,x2,x3,x4,x5,x6,x7⟩:=Bk.c8 d.bk;clear d))
 go_ret
 exact met_no (hP) HS1.out.kt
theorem partW_1{w0 W:World}{base g:Nat}{s:Wr}(c:Cx w0 W base g s)(m a b:Int)(ng:Bool)(n:ByteArray)(sa:Option Addr)(sl sc:Nat)(ao:Option Addr)(nk cap:Nat)(st:List R)(ks:List Nd)(hsl:st.length=sl)(hnk:ks.length=nk)(ho:othersZ (.mk 1 m a b ng n st ks)=true)(hsz:(TX (printL a false)).size≤9223372036854775807):Met 31 #[.pointer (some ⟨g,0,none⟩),.agg (n8 1 m a b ng n sa sl sc ao nk cap)] w0 W base g (putO s (TX (printL a false))):=by
 have HS:=Sn.st c (n8 1 m a b ng n sa sl sc ao nk cap)
 have HO:Hid (Cs w0 W base g (n8 1 m a b ng n sa sl sc ao nk cap) s s 30 #[.agg (n8 1 m a b ng n sa sl sc ao nk cap)] (.bool true)):=fun W' S=>oz_sn S (1) (m) (a) (b) (ng) (n) st ks sa sl sc ao nk cap hsl hnk _ ho
 have HQ:Hid (Cs w0 W base g (n8 1 m a b ng n sa sl sc ao nk cap) s s 40 #[.int .i64 a,.bool false] (.string (TX (printL a false)))):=fun W' S=>quiet_of S (tok.print_any a false W' S.cx.c.penv)
 have HP:Hid (Cp w0 W base g (n8 1 m a b ng n sa sl sc ao nk cap) s 32 #[.pointer (some ⟨g,0,none⟩),.string (TX (printL a false))] (putO s (TX (printL a false)))):=fun W' S=>Met.sn (put_met S.cx _ hsz) S
 unfold Met
 generalize putO s (TX (printL a false))=P at*
 generalize TX (printL a false)=T at*
 clear c
 go_enter Tryz.func31,Tryz.ntmps31
 go_wp2_with(first
  |(go_at_call 30;refine(HO.out _ HS.out).mono ?_;rintro e w1⟨rfl,d⟩;have HS1:Hid (Sn w0 W base g W.heap.size (n8 1 m a b ng n sa sl sc ao nk cap) s w1):=d;obtain⟨x0,x1,x2,x3,x4,x5,x6,x7⟩:=Bk.c8 d.bk;clear d)
  |(go_at_call 40;refine(HQ.out _ HS1.out).mono ?_;rintro e w2⟨rfl,d⟩;have HS2:Hid (Sn w0 W base g W.heap.size (n8 1 m a b ng n sa sl sc ao nk cap) s w2):=d;clear d)
  |(go_at_call 32;refine(HP.out _ HS2.out).mono ?_;rintro e w9⟨rfl,d1,d2⟩;have HT1:Hid (∀s',_=some s'→Cx w0 w9 base g s'):=d1;have HT2:Hid (Kt base W w9):=d2;clear d1 d2))
 go_ret
 exact⟨ret_bool (by first|rfl|simp),HT1.out,HT2.out⟩
theorem partW_2{w0 W:World}{base g:Nat}{s:Wr}(c:Cx w0 W base g s)(m a b:Int)(ng:Bool)(n:ByteArray)(sa:Option Addr)(sl sc:Nat)(ao:Option Addr)(nk cap:Nat)(st:List R)(ks:List Nd)(hsl:st.length=sl)(hnk:ks.length=nk)(ho:othersZ (.mk 2 m a b ng n st ks)=true):Met 31 #[.pointer (some ⟨g,0,none⟩),.agg (n8 2 m a b ng n sa sl sc ao nk cap)] w0 W base g (putO s ⟨#[46]⟩):=by
 have HS:=Sn.st c (n8 2 m a b ng n sa sl sc ao nk cap)
 have HO:Hid (Cs w0 W base g (n8 2 m a b ng n sa sl sc ao nk cap) s s 30 #[.agg (n8 2 m a b ng n sa sl sc ao nk cap)] (.bool true)):=fun W' S=>oz_sn S (2) (m) (a) (b) (ng) (n) st ks sa sl sc ao nk cap hsl hnk _ ho
 have HP:Hid (Cp w0 W base g (n8 2 m a b ng n sa sl sc ao nk cap) s 32 #[.pointer (some ⟨g,0,none⟩),.string ⟨#[46]⟩] (putO s ⟨#[46]⟩)):=fun W' S=>Met.sn (put_met S.cx _ (by decide)) S
 unfold Met
 generalize putO s ⟨#[46]⟩=P at*
 clear c
 go_enter Tryz.func31,Tryz.ntmps31
 go_wp2_with(first
  |(go_at_call 30;refine(HO.out _ HS.out).mono ?_;rintro e w1⟨rfl,d⟩;have HS1:Hid (Sn w0 W base g W.heap.size (n8 2 m a b ng n sa sl sc ao nk cap) s w1):=d;obtain⟨x0,x1,x2,x3,x4,x5,x6,x7⟩:=Bk.c8 d.bk;clear d)
  |(go_at_call 32;refine(HP.out _ HS1.out).mono ?_;rintro e w9⟨rfl,d1,d2⟩;have HT1:Hid (∀s',_=some s'→Cx w0 w9 base g s'):=d1;have HT2:Hid (Kt base W w9):=d2;clear d1 d2))
 go_ret
 exact⟨ret_bool (by first|rfl|simp),HT1.out,HT2.out⟩
theorem partW_14{w0 W:World}{base g:Nat}{s:Wr}(c:Cx w0 W base g s)(m a b:Int)(ng:Bool)(n:ByteArray)(sa:Option Addr)(sl sc:Nat)(ao:Option Addr)(nk cap:Nat)(st:List R)(ks:List Nd)(hsl:st.length=sl)(hnk:ks.length=nk)(ho:othersZ (.mk 14 m a b ng n st ks)=true):Met 31 #[.pointer (some ⟨g,0,none⟩),.agg (n8 14 m a b ng n sa sl sc ao nk cap)] w0 W base g (putO s ⟨#[92,88]⟩):=by
 have HS:=Sn.st c (n8 14 m a b ng n sa sl sc ao nk cap)
 have HO:Hid (Cs w0 W base g (n8 14 m a b ng n sa sl sc ao nk cap) s s 30 #[.agg (n8 14 m a b ng n sa sl sc ao nk cap)] (.bool true)):=fun W' S=>oz_sn S (14) (m) (a) (b) (ng) (n) st ks sa sl sc ao nk cap hsl hnk _ ho
 have HP:Hid (Cp w0 W base g (n8 14 m a b ng n sa sl sc ao nk cap) s 32 #[.pointer (some ⟨g,0,none⟩),.string ⟨#[92,88]⟩] (putO s ⟨#[92,88]⟩)):=fun W' S=>Met.sn (put_met S.cx _ (by decide)) S
 unfold Met
 generalize putO s ⟨#[92,88]⟩=P at*
 clear c
 go_enter Tryz.func31,Tryz.ntmps31
 go_wp2_with(first
  |(go_at_call 30;refine(HO.out _ HS.out).mono ?_;rintro e w1⟨rfl,d⟩;have HS1:Hid (Sn w0 W base g W.heap.size (n8 14 m a b ng n sa sl sc ao nk cap) s w1):=d;obtain⟨x0,x1,x2,x3,x4,x5,x6,x7⟩:=Bk.c8 d.bk;clear d)
  |(go_at_call 32;refine(HP.out _ HS1.out).mono ?_;rintro e w9⟨rfl,d1,d2⟩;have HT1:Hid (∀s',_=some s'→Cx w0 w9 base g s'):=d1;have HT2:Hid (Kt base W w9):=d2;clear d1 d2))
 go_ret
 exact⟨ret_bool (by first|rfl|simp),HT1.out,HT2.out⟩
theorem partW_5{w0 W:World}{base g:Nat}{s:Wr}(c:Cx w0 W base g s)(m a b:Int)(ng:Bool)(n:ByteArray)(sa:Option Addr)(sl sc:Nat)(ao:Option Addr)(nk cap:Nat)(st:List R)(ks:List Nd)(hsl:st.length=sl)(hnk:ks.length=nk)(ho:othersZ (.mk 5 m a b ng n st ks)=true)(hn:n.size≤140737488355327):Met 31 #[.pointer (some ⟨g,0,none⟩),.agg (n8 5 m a b ng n sa sl sc ao nk cap)] w0 W base g (propO s n ng):=by
 have HS:=Sn.st c (n8 5 m a b ng n sa sl sc ao nk cap)
 have HO:Hid (Cs w0 W base g (n8 5 m a b ng n sa sl sc ao nk cap) s s 30 #[.agg (n8 5 m a b ng n sa sl sc ao nk cap)] (.bool true)):=fun W' S=>oz_sn S (5) (m) (a) (b) (ng) (n) st ks sa sl sc ao nk cap hsl hnk _ ho
 have HP:Hid (Cp w0 W base g (n8 5 m a b ng n sa sl sc ao nk cap) s 42 #[.pointer (some ⟨g,0,none⟩),.agg (n8 5 m a b ng n sa sl sc ao nk cap)] (propO s n ng)):=fun W' S=>Met.sn (property_w S.cx 5 m a b ng n sa sl sc ao nk cap hn) S
 unfold Met
 generalize propO s n ng=P at*
 clear c
 go_enter Tryz.func31,Tryz.ntmps31
 go_wp2_with(first
  |(go_at_call 30;refine(HO.out _ HS.out).mono ?_;rintro e w1⟨rfl,d⟩;have HS1:Hid (Sn w0 W base g W.heap.size (n8 5 m a b ng n sa sl sc ao nk cap) s w1):=d;obtain⟨x0,x1,x2,x3,x4,x5,x6,x7⟩:=Bk.c8 d.bk;clear d)
  |(go_at_call 42;refine(HP.out _ HS1.out).mono ?_;rintro e w9⟨rfl,d1,d2⟩;have HT1:Hid (∀s',_=some s'→Cx w0 w9 base g s'):=d1;have HT2:Hid (Kt base W w9):=d2;clear d1 d2))
 go_ret
 exact⟨ret_bool (by first|rfl|simp),HT1.out,HT2.out⟩
theorem partW_3{w0 W:World}{base g:Nat}{s:Wr}(c:Cx w0 W base g s)(m a b:Int)(ng:Bool)(n:ByteArray)(sa:Option Addr)(sl sc:Nat)(ao:Option Addr)(nk cap:Nat)(st:List R)(ks:List Nd)(hsl:st.length=sl)(hnk:ks.length=nk)(ho:othersZ (.mk 3 m a b ng n st ks)=true)(Pc:Option Wr)(HC:∀W',Cx w0 W' base g s→Met 41 #[.pointer (some ⟨g,0,none⟩),.agg (n8 3 m a b ng n sa sl sc ao nk cap)] w0 W' base g (Pc)):Met 31 #[.pointer (some ⟨g,0,none⟩),.agg (n8 3 m a b ng n sa sl sc ao nk cap)] w0 W base g (Pc):=by
 have HS:=Sn.st c (n8 3 m a b ng n sa sl sc ao nk cap)
 have HO:Hid (Cs w0 W base g (n8 3 m a b ng n sa sl sc ao nk cap) s s 30 #[.agg (n8 3 m a b ng n sa sl sc ao nk cap)] (.bool true)):=fun W' S=>oz_sn S (3) (m) (a) (b) (ng) (n) st ks sa sl sc ao nk cap hsl hnk _ ho
 have HP:Hid (Cp w0 W base g (n8 3 m a b ng n sa sl sc ao nk cap) s 41 #[.pointer (some ⟨g,0,none⟩),.agg (n8 3 m a b ng n sa sl sc ao nk cap)] Pc):=fun W' S=>Met.sn (HC W' S.cx) S
 unfold Met
 generalize Pc=P at*
 clear c
 go_enter Tryz.func31,Tryz.ntmps31
 go_wp2_with(first
  |(go_at_call 30;refine(HO.out _ HS.out).mono ?_;rintro e w1⟨rfl,d⟩;have HS1:Hid (Sn w0 W base g W.heap.size (n8 3 m a b ng n sa sl sc ao nk cap) s w1):=d;obtain⟨x0,x1,x2,x3,x4,x5,x6,x7⟩:=Bk.c8 d.bk;clear d)
  |(go_at_call 41;refine(HP.out _ HS1.out).mono ?_;rintro e w9⟨rfl,d1,d2⟩;have HT1:Hid (∀s',_=some s'→Cx w0 w9 base g s'):=d1;have HT2:Hid (Kt base W w9):=d2;clear d1 d2))
 go_ret
 exact⟨ret_bool (by first|rfl|simp),HT1.out,HT2.out⟩
theorem partW_8{w0 W:World}{base g:Nat}{s:Wr}(c:Cx w0 W base g s)(m a b:Int)(ng:Bool)(n:ByteArray)(sa:Option Addr)(sl sc:Nat)(ao:Option Addr)(nk cap:Nat)(st:List R)(ks:List Nd)(hsl:st.length=sl)(hnk:ks.length=nk)(ho:othersZ (.mk 8 m a b ng n st ks)=true)(Pc:Option Wr)(HC:∀W',Cx w0 W' base g s→Met 43 #[.pointer (some ⟨g,0,none⟩),.agg (n8 8 m a b ng n sa sl sc ao nk cap)] w0 W' base g (Pc)):Met 31 #[.pointer (some ⟨g,0,none⟩),.agg (n8 8 m a b ng n sa sl sc ao nk cap)] w0 W base g (Pc):=by
 have HS:=Sn.st c (n8 8 m a b ng n sa sl sc ao nk cap)
 have HO:Hid (Cs w0 W base g (n8 8 m a b ng n sa sl sc ao nk cap) s s 30 #[.agg (n8 8 m a b ng n sa sl sc ao nk cap)] (.bool true)):=fun W' S=>oz_sn S (8) (m) (a) (b) (ng) (n) st ks sa sl sc ao nk cap hsl hnk _ ho
 have HP:Hid (Cp w0 W base g (n8 8 m a b ng n sa sl sc ao nk cap) s 43 #[.pointer (some ⟨g,0,none⟩),.agg (n8 8 m a b ng n sa sl sc ao nk cap)] Pc):=fun W' S=>Met.sn (HC W' S.cx) S
 unfold Met
 generalize Pc=P at*
 clear c
 go_enter Tryz.func31,Tryz.ntmps31
 go_wp2_with(first
  |(go_at_call 30;refine(HO.out _ HS.out).mono ?_;rintro e w1⟨rfl,d⟩;have HS1:Hid (Sn w0 W base g W.heap.size (n8 8 m a b ng n sa sl sc ao nk cap) s w1):=d;obtain⟨x0,x1,x2,x3,x4,x5,x6,x7⟩:=Bk.c8 d.bk;clear d)
  |(go_at_call 43;refine(HP.out _ HS1.out).mono ?_;rintro e w9⟨rfl,d1,d2⟩;have HT1:Hid (∀s',_=some s'→Cx w0 w9 base g s'):=d1;have HT2:Hid (Kt base W w9):=d2;clear d1 d2))
 go_ret
 exact⟨ret_bool (by first|rfl|simp),HT1.out,HT2.out⟩
theorem partW_9{w0 W:World}{base g:Nat}{s:Wr}(c:Cx w0 W base g s)(m a b:Int)(ng:Bool)(n:ByteArray)(sa:Option Addr)(sl sc:Nat)(ao:Option Addr)(nk cap:Nat)(st:List R)(ks:List Nd)(hsl:st.length=sl)(hnk:ks.length=nk)(ho:othersZ (.mk 9 m a b ng n st ks)=true)(Pc:Option Wr)(HC:∀W',Cx w0 W' base g s→Met 44 #[.pointer (some ⟨g,0,none⟩),.agg (n8 9 m a b ng n sa sl sc ao nk cap)] w0 W' base g (Pc)):Met 31 #[.pointer (some ⟨g,0,none⟩),.agg (n8 9 m a b ng n sa sl sc ao nk cap)] w0 W base g (Pc):=by
 have HS:=Sn.st c (n8 9 m a b ng n sa sl sc ao nk cap)
 have HO:Hid (Cs w0 W base g (n8 9 m a b ng n sa sl sc ao nk cap) s s 30 #[.agg (n8 9 m a b ng n sa sl sc ao nk cap)] (.bool true)):=fun W' S=>oz_sn S (9) (m) (a) (b) (ng) (n) st ks sa sl sc ao nk cap hsl hnk _ ho
 have HP:Hid (Cp w0 W base g (n8 9 m a b ng n sa sl sc ao nk cap) s 44 #[.pointer (some ⟨g,0,none⟩),.agg (n8 9 m a b ng n sa sl sc ao nk cap)] Pc):=fun W' S=>Met.sn (HC W' S.cx) S
 unfold Met
 generalize Pc=P at*
 clear c
 go_enter Tryz.func31,Tryz.ntmps31
 go_wp2_with(first
  |(go_at_call 30;refine(HO.out _ HS.out).mono ?_;rintro e w1⟨rfl,d⟩;have HS1:Hid (Sn w0 W base g W.heap.size (n8 9 m a b ng n sa sl sc ao nk cap) s w1):=d;obtain⟨x0,x1,x2,x3,x4,x5,x6,x7⟩:=Bk.c8 d.bk;clear d)
  |(go_at_call 44;refine(HP.out _ HS1.out).mono ?_;rintro e w9⟨rfl,d1,d2⟩;have HT1:Hid (∀s',_=some s'→Cx w0 w9 base g s'):=d1;have HT2:Hid (Kt base W w9):=d2;clear d1 d2))
 go_ret
 exact⟨ret_bool (by first|rfl|simp),HT1.out,HT2.out⟩
theorem partW_11{w0 W:World}{base g:Nat}{s:Wr}(c:Cx w0 W base g s)(m a b:Int)(ng:Bool)(n:ByteArray)(sa:Option Addr)(sl sc:Nat)(ao:Option Addr)(nk cap:Nat)(st:List R)(ks:List Nd)(hsl:st.length=sl)(hnk:ks.length=nk)(ho:othersZ (.mk 11 m a b ng n st ks)=true)(Pc:Option Wr)(HC:∀W',Cx w0 W' base g s→Met 45 #[.pointer (some ⟨g,0,none⟩),.string ⟨#[40,63,62]⟩,.agg (n8 11 m a b ng n sa sl sc ao nk cap)] w0 W' base g (Pc)):Met 31 #[.pointer (some ⟨g,0,none⟩),.agg (n8 11 m a b ng n sa sl sc ao nk cap)] w0 W base g (Pc):=by
 have HS:=Sn.st c (n8 11 m a b ng n sa sl sc ao nk cap)
 have HO:Hid (Cs w0 W base g (n8 11 m a b ng n sa sl sc ao nk cap) s s 30 #[.agg (n8 11 m a b ng n sa sl sc ao nk cap)] (.bool true)):=fun W' S=>oz_sn S (11) (m) (a) (b) (ng) (n) st ks sa sl sc ao nk cap hsl hnk _ ho
 have HP:Hid (Cp w0 W base g (n8 11 m a b ng n sa sl sc ao nk cap) s 45 #[.pointer (some ⟨g,0,none⟩),.string ⟨#[40,63,62]⟩,.agg (n8 11 m a b ng n sa sl sc ao nk cap)] Pc):=fun W' S=>Met.sn (HC W' S.cx) S
 unfold Met
 generalize Pc=P at*
 clear c
 go_enter Tryz.func31,Tryz.ntmps31
 go_wp2_with(first
  |(go_at_call 30;refine(HO.out _ HS.out).mono ?_;rintro e w1⟨rfl,d⟩;have HS1:Hid (Sn w0 W base g W.heap.size (n8 11 m a b ng n sa sl sc ao nk cap) s w1):=d;obtain⟨x0,x1,x2,x3,x4,x5,x6,x7⟩:=Bk.c8 d.bk;clear d)
  |(go_at_call 45;refine(HP.out _ HS1.out).mono ?_;rintro e w9⟨rfl,d1,d2⟩;have HT1:Hid (∀s',_=some s'→Cx w0 w9 base g s'):=d1;have HT2:Hid (Kt base W w9):=d2;clear d1 d2))
 go_ret
 exact⟨ret_bool (by first|rfl|simp),HT1.out,HT2.out⟩
theorem partW_12{w0 W:World}{base g:Nat}{s:Wr}(c:Cx w0 W base g s)(m a b:Int)(ng:Bool)(n:ByteArray)(sa:Option Addr)(sl sc:Nat)(ao:Option Addr)(nk cap:Nat)(st:List R)(ks:List Nd)(hsl:st.length=sl)(hnk:ks.length=nk)(ho:othersZ (.mk 12 m a b ng n st ks)=true):Met 31 #[.pointer (some ⟨g,0,none⟩),.agg (n8 12 m a b ng n sa sl sc ao nk cap)] w0 W base g (putO s (textP m asrtTexts)):=by
 have HS:=Sn.st c (n8 12 m a b ng n sa sl sc ao nk cap)
 have HO:Hid (Cs w0 W base g (n8 12 m a b ng n sa sl sc ao nk cap) s s 30 #[.agg (n8 12 m a b ng n sa sl sc ao nk cap)] (.bool true)):=fun W' S=>oz_sn S (12) (m) (a) (b) (ng) (n) st ks sa sl sc ao nk cap hsl hnk _ ho
 have HTX:Hid (∀(W':World)(z:Nat),W'.heap.size=z→Calls Tryz.prog 46 #[.int .i64 m,.slice (some ⟨z,0,none⟩) 11 11] (W'.alloc (.cells #[.string ByteArray.empty,.string ⟨#[94]⟩,.string ⟨#[36]⟩,.string ⟨#[92,65]⟩,.string ⟨#[92,122]⟩,.string ⟨#[92,98]⟩,.string ⟨#[92,66]⟩,.string ⟨#[92,98,123,103,125]⟩,.string ⟨#[92,66,123,103,125]⟩,.string ⟨#[92,98,123,119,125]⟩,.string ⟨#[92,66,123,119,125]⟩] 9)) fun e w'=>e=.returned (.string (textP m asrtTexts))∧(W'.alloc (.cells #[.string ByteArray.empty,.string ⟨#[94]⟩,.string ⟨#[36]⟩,.string ⟨#[92,65]⟩,.string ⟨#[92,122]⟩,.string ⟨#[92,98]⟩,.string ⟨#[92,66]⟩,.string ⟨#[92,98,123,103,125]⟩,.string ⟨#[92,66,123,103,125]⟩,.string ⟨#[92,98,123,119,125]⟩,.string ⟨#[92,66,123,119,125]⟩] 9))=w'):=fun W' z hz=>texts_any m asrtTexts 11 rfl (by decide) W' z hz
 have hU:=texts_size m asrtTexts 5 (by decide)
 generalize textP m asrtTexts=U at*
 have HP:Hid (Cp w0 W base g (n8 12 m a b ng n sa sl sc ao nk cap) s 32 #[.pointer (some ⟨g,0,none⟩),.string U] (putO s U)):=fun W' S=>Met.sn (put_met S.cx _ (by omega)) S
 unfold Met
 generalize putO s U=P at*
 clear c
 go_enter Tryz.func31,Tryz.ntmps31
 go_wp2_with(first
  |(go_at_call 30;refine(HO.out _ HS.out).mono ?_;rintro e w1⟨rfl,d⟩;have HS1:Hid (Sn w0 W base g W.heap.size (n8 12 m a b ng n sa sl sc ao nk cap) s w1):=d;obtain⟨x0,x1,x2,x3,x4,x5,x6,x7⟩:=Bk.c8 d.bk;clear d)
  |(go_at_call 46;refine(HTX.out _ _ rfl).mono ?_;rintro e w4⟨rfl,rfl⟩)
  |(go_at_call 32;refine(HP.out _ (HS1.out.quiet ((Below.refl _ w1).alloc (Nat.le_refl _) _))).mono ?_;rintro e w9⟨rfl,d1,d2⟩;have HT1:Hid (∀s',_=some s'→Cx w0 w9 base g s'):=d1;have HT2:Hid (Kt base W w9):=d2;clear d1 d2))
 go_ret
 exact⟨ret_bool (by first|rfl|simp),HT1.out,HT2.out⟩
theorem partW_10{w0 W:World}{base g:Nat}{s:Wr}(c:Cx w0 W base g s)(m a b:Int)(ng:Bool)(n:ByteArray)(sa:Option Addr)(sl sc:Nat)(ao:Option Addr)(nk cap:Nat)(st:List R)(ks:List Nd)(hsl:st.length=sl)(hnk:ks.length=nk)(ho:othersZ (.mk 10 m a b ng n st ks)=true)(Pc:Option Wr)(HC:∀W',Cx w0 W' base g s→Met 45 #[.pointer (some ⟨g,0,none⟩),.string (textP m lookTexts),.agg (n8 10 m a b ng n sa sl sc ao nk cap)] w0 W' base g (Pc)):Met 31 #[.pointer (some ⟨g,0,none⟩),.agg (n8 10 m a b ng n sa sl sc ao nk cap)] w0 W base g (Pc):=by
 have HS:=Sn.st c (n8 10 m a b ng n sa sl sc ao nk cap)
 have HO:Hid (Cs w0 W base g (n8 10 m a b ng n sa sl sc ao nk cap) s s 30 #[.agg (n8 10 m a b ng n sa sl sc ao nk cap)] (.bool true)):=fun W' S=>oz_sn S (10) (m) (a) (b) (ng) (n) st ks sa sl sc ao nk cap hsl hnk _ ho
 have HTX:Hid (∀(W':World)(z:Nat),W'.heap.size=z→Calls Tryz.prog 46 #[.int .i64 m,.slice (some ⟨z,0,none⟩) 4 4] (W'.alloc (.cells #[.string ⟨#[40,63,61]⟩,.string ⟨#[40,63,33]⟩,.string ⟨#[40,63,60,61]⟩,.string ⟨#[40,63,60,33]⟩] 9)).drew fun e w'=>e=.returned (.string (textP m lookTexts))∧(W'.alloc (.cells #[.string ⟨#[40,63,61]⟩,.string ⟨#[40,63,33]⟩,.string ⟨#[40,63,60,61]⟩,.string ⟨#[40,63,60,33]⟩] 9)).drew=w'):=fun W' z hz=>texts_drew m lookTexts 4 rfl (by decide) W' z hz
 generalize textP m lookTexts=U at*
 have HP:Hid (Cp w0 W base g (n8 10 m a b ng n sa sl sc ao nk cap) s 45 #[.pointer (some ⟨g,0,none⟩),.string U,.agg (n8 10 m a b ng n sa sl sc ao nk cap)] Pc):=fun W' S=>Met.sn (HC W' S.cx) S
 unfold Met
 generalize Pc=P at*
 clear c HC
 go_enter Tryz.func31,Tryz.ntmps31
 go_wp2_with(first
  |(go_at_call 30;refine(HO.out _ HS.out).mono ?_;rintro e w1⟨rfl,d⟩;have HS1:Hid (Sn w0 W base g W.heap.size (n8 10 m a b ng n sa sl sc ao nk cap) s w1):=d;obtain⟨x0,x1,x2,x3,x4,x5,x6,x7⟩:=Bk.c8 d.bk;have hl1:=d.bk.lt;clear d))
 go_region_with(first
  |(go_at_call 46;refine(HTX.out _ _ rfl).mono ?_;rintro e w4⟨rfl,rfl⟩)
  |(go_at_call 45;refine(HP.out _ (HS1.out.quiet (below_ad w1 _))).mono ?_;rintro e w9⟨rfl,d1,d2⟩;have HT1:Hid (∀s',_=some s'→Cx w0 w9 base g s'):=d1;have HT2:Hid (Kt base W w9):=d2;clear d1 d2))
 all_goals(try go_wp2)
 all_goals(go_ret;exact⟨ret_bool (by first|rfl|simp),HT1.out,HT2.out⟩)
theorem partW_13{w0 W:World}{base g:Nat}{s:Wr}(c:Cx w0 W base g s)(m a b:Int)(ng:Bool)(n:ByteArray)(sa:Option Addr)(sl sc:Nat)(ao:Option Addr)(nk cap:Nat)(st:List R)(ks:List Nd)(hsl:st.length=sl)(hnk:ks.length=nk)(ho:othersZ (.mk 13 m a b ng n st ks)=true)(hpw:Pw w0):Met 31 #[.pointer (some ⟨g,0,none⟩),.agg (n8 13 m a b ng n sa sl sc ao nk cap)] w0 W base g (if 0<a∧a≤s.groups then putO s (backT a)else none):=by
 have HS:=Sn.st c (n8 13 m a b ng n sa sl sc ao nk cap)
 have HO:Hid (Cs w0 W base g (n8 13 m a b ng n sa sl sc ao nk cap) s s 30 #[.agg (n8 13 m a b ng n sa sl sc ao nk cap)] (.bool true)):=fun W' S=>oz_sn S (13) (m) (a) (b) (ng) (n) st ks sa sl sc ao nk cap hsl hnk _ ho
 unfold Met
 have hg1:=c.gd.g.g1
 by_cases h1:¬0<a
 ·rw[if_neg (fun h=>h1 h.1)]
  have f1:decide (0<a)=false:=decide_eq_false h1
  generalize s.groups=G at*
  clear c
  go_enter Tryz.func31,Tryz.ntmps31
  go_wp2_with(first
   |(go_at_call 30;refine(HO.out _ HS.out).mono ?_;rintro e w1⟨rfl,d⟩;have HS1:Hid (Sn w0 W base g W.heap.size (n8 13 m a b ng n sa sl sc ao nk cap) s w1):=d;obtain⟨x0,x1,x2,x3,x4,x5,x6,x7⟩:=Bk.c8 d.bk;have gc:=d.cx.c.wr.grpCell;clear d))
  go_quiet(fail)
  go_wp2
  go_ret
  exact met_no rfl (HS1.out.quiet (below_drewN (Below.refl _ _) _)).kt
 have h1:0<a:=by omega
 have f1:decide (0<a)=true:=decide_eq_true h1
 by_cases h2:¬a≤s.groups
 ·rw[if_neg (fun h=>h2 h.2)]
  have f2:decide (a≤s.groups)=false:=decide_eq_false h2
  clear c
  go_enter Tryz.func31,Tryz.ntmps31
  go_wp2_with(first
   |(go_at_call 30;refine(HO.out _ HS.out).mono ?_;rintro e w1⟨rfl,d⟩;have HS1:Hid (Sn w0 W base g W.heap.size (n8 13 m a b ng n sa sl sc ao nk cap) s w1):=d;obtain⟨x0,x1,x2,x3,x4,x5,x6,x7⟩:=Bk.c8 d.bk;have gc:=d.cx.c.wr.grpCell;clear d))
  go_quiet(fail)
  go_wp2
  go_ret
  exact met_no rfl (HS1.out.quiet (below_drewN (Below.refl _ _) _)).kt
 have h2:a≤s.groups:=by omega
 have f2:decide (a≤s.groups)=true:=decide_eq_true h2
 rw[if_pos ⟨h1,h2⟩]
 have HI:Hid (Cs w0 W base g (n8 13 m a b ng n sa sl sc ao nk cap) s s 47 #[.int .i64 a] (.string (dec a))):=fun W' S=>quiet_of S (itoa_any a (by unfold I64;omega) W' (pw_of S.cx hpw))
 have hd:=decW_size a (by omega) (by omega)
 have hB:(backT a).size≤7:=by unfold backT;rw[ByteArray.size_append,ByteArray.size_append];show 3+(dec a).size+1≤7;omega
 have HP:Hid (Cp w0 W base g (n8 13 m a b ng n sa sl sc ao nk cap) s 32 #[.pointer (some ⟨g,0,none⟩),.string (backT a)] (putO s (backT a))):=fun W' S=>Met.sn (put_met S.cx _ (by omega)) S
 generalize putO s (backT a)=P at*
 unfold backT at*
 have s1:ByteArray.size ⟨#[92,107,123]⟩=3:=rfl
 have s2:ByteArray.size ⟨#[125]⟩=1:=rfl
 generalize dec a=X at*
 obtain⟨Y,hY⟩:∃Y,(⟨#[92,107,123]⟩:ByteArray)++X=Y:=⟨_,rfl⟩
 have d1:Y.size=X.size+3:=by rw[←hY,ByteArray.size_append,s1];omega
 rw[hY]at HP
 obtain⟨Z,hZ⟩:∃Z,Y++(⟨#[125]⟩:ByteArray)=Z:=⟨_,rfl⟩
 rw[hZ]at HP
 clear c hB
 go_enter Tryz.func31,Tryz.ntmps31
 go_wp2_with(first
  |(go_at_call 30;refine(HO.out _ HS.out).mono ?_;rintro e w1⟨rfl,d⟩;have HS1:Hid (Sn w0 W base g W.heap.size (n8 13 m a b ng n sa sl sc ao nk cap) s w1):=d;obtain⟨x0,x1,x2,x3,x4,x5,x6,x7⟩:=Bk.c8 d.bk;have gc:=d.cx.c.wr.grpCell;clear d))
 go_region_with(first
  |(go_at_call 47;refine(HI.out _ (HS1.out.quiet (Below.drew (Below.refl _ w1)))).mono ?_;rintro e w2⟨rfl,d⟩;have HS2:Hid (Sn w0 W base g W.heap.size (n8 13 m a b ng n sa sl sc ao nk cap) s w2):=d;clear d)
  |(go_at_call 32;refine(HP.out _ HS2.out).mono ?_;rintro e w9⟨rfl,d1,d2⟩;have HT1:Hid (∀s',_=some s'→Cx w0 w9 base g s'):=d1;have HT2:Hid (Kt base W w9):=d2;clear d1 d2))
 all_goals(try go_wp2)
 all_goals(go_ret;exact⟨ret_bool (by first|rfl|simp),HT1.out,HT2.out⟩)
end Go.Proofs.YtbbeciofgnkggaaGreatDoor.tre
namespace Go.Proofs.YtbbeciofgnkggaaGreatDoor.tre
open Go.RowKit nod
open rng(R RV ret_int ret_bool below_drewN info_parts own_below')
open tok(PEnv TX printL)
theorem Sn.grp{w0 W W1:World}{base g z:Nat}{box:Array Value}{s:Wr}(S:Sn w0 W base g z box s W1)(G:Int)(hG:s.groups=G)(h20:G+1≤20)(nq:Nat):Sn w0 W base g z box s.grp ((W1.drewN nq).setCell ⟨g,4,none⟩ (.int .i64 (G+1))):=by
 subst hG
 have S':=S.quiet (below_drewN (Below.refl _ W1) nq)
 obtain⟨h1,h2⟩:=S'.cx.c.wr.set s.grp 2 (.int .i64 (s.groups+1)) rfl rfl (by simp[Wr.grp]) (by omega)
 have gg:=grp_gd S.cx.gd h20
 exact S'.wrote h2 ⟨S'.cx.c.to h2 h1 gg.g.r0 gg.g.r1,gg⟩
/--The names of groups, as they are read. -/
theorem names_row{w0 W:World}{base g:Nat}{s:Wr}(c:Cx w0 W base g s)(n:ByteArray):∃na nc,W.cell? ⟨g,5,none⟩=some (.slice na s.names.length nc)∧W.ownsRow base 9 1 (.slice na s.names.length nc) s.names.length (s.names.map Value.string)∧∀W',Below W.heap.size W W'→Calls Tryz.prog 64 #[.slice na s.names.length nc,.string n] W' fun e w'=>e=.returned (.bool (Lib.containsS s.names n))∧Below W.heap.size W w':=by
 have hlen:=c.gd.g.n1
 obtain⟨_,p,bv,nv,h1,_,_,hn⟩:=c.c.wr
 have hc:W.cell? ⟨g,5,none⟩=some nv:=by rw[Lib.cell_of_heap h1];rfl
 obtain⟨na,nc,hv⟩:∃na nc,nv=.slice na s.names.length nc:=by
  rcases hn.2 with⟨hv,hz⟩|⟨gb,cap,cur,hv,_⟩
  ·exact⟨none,0,by rw[hv,hz]⟩
  ·exact⟨_,_,hv⟩
 subst hv
 refine⟨na,nc,hc,hn,fun W' hb=>?_⟩
 have hn':=own_below' hn hb
 have fin:∀{e:Ending}{w':World}{r:Bool},(e=.returned (.bool r)∧w'=W')→(e=.returned (.bool r)∧Below W.heap.size W w'):=fun h=>⟨h.1,by rw[h.2];exact hb⟩
 rcases Nat.eq_zero_or_pos s.names.length with h0|h0
 ·have e0:s.names=[]:=List.eq_nil_of_length_eq_zero h0
  have ee:Lib.containsS s.names n=false:=by rw[e0];rfl
  rw[ee,h0]
  exact(Tryz.slices_Contains_string_empty na nc n W').mono fun e w' h=>fin h
 ·rcases hn'.2 with⟨_,hz⟩|⟨gb,cap,cur,hv,_⟩
  ·omega
  ·obtain⟨rfl,rfl⟩:na=some ⟨gb,0,none⟩∧nc=cap:=by simpa using hv
   have C:=Tryz.slices_Contains_string gb 0 s.names.length nc s.names n W' (Nat.le_refl _) (by omega) (fun j hj=>by
    rw[Nat.zero_add]
    have:=hn'.cells (g:=gb) rfl j (.string (s.names.getD j ByteArray.empty)) (by simp[List.getElem?_map,List.getElem?_eq_getElem hj,List.getD])
    rw[Addr.add_lit,Nat.zero_add]at this
    exact this)
   rw[List.take_of_length_le (Nat.le_refl _)]at C
   exact C.mono fun e w' h=>fin h
/--A name more. -/
theorem nam_more{w0 W U V w4:World}{base g z:Nat}{box:Array Value}{s:Wr}(S:Sn w0 W base g z box s U)(hb:Below U.heap.size U V){na:Option Addr}{nc gb cp:Nat}(n:ByteArray)(hc:U.cell? ⟨g,5,none⟩=some (.slice na s.names.length nc))
  (gg:Gd (s.nam n))(ho:w4.ownsRow base 9 1 (.slice (some ⟨gb,0,none⟩) (s.names.length+1) cp) (s.names.length+1) (s.names.map Value.string++[.string n]))(hg:V.grownBy w4 (Value.slice na s.names.length nc).ownBlock):
  w4.cell? ⟨g,5,none⟩=some (.slice na s.names.length nc)∧w4.frozen? ⟨g,5,none⟩=false∧Sn w0 W base g z box (s.nam n) (w4.setCell ⟨g,5,none⟩ (.slice (some ⟨gb,0,none⟩) (s.names.length+1) cp)):=by
 have T:=S.quiet hb
 have hsz:base≤V.heap.size:=T.cx.c.size
 obtain⟨hB,p,bv,nv,h1,h2,h3,h4⟩:=T.cx.c.wr
 have hc':V.cell? ⟨g,5,none⟩=some nv:=by rw[Lib.cell_of_heap h1];rfl
 have hlt:=S.cx.c.wr.lt
 have hcv:V.cell? ⟨g,5,none⟩=some (.slice na s.names.length nc):=(hb.cell (p:=⟨g,5,none⟩) hlt).trans hc
 obtain rfl:nv=.slice na s.names.length nc:=by rw[hc']at hcv;exact Option.some.inj hcv
 have hgl:g<V.heap.size:=Nat.lt_of_lt_of_le hlt hb.size
 have hne:=own_off h4 h1 neWS
 have hb4:w4.heap[g]?=some (.cells #[p,bv,.int .i64 s.room,.int .i64 s.depth,.int .i64 s.groups,.slice na s.names.length nc] 51 (0,0)):=by
  rw[hg.block g hgl (fun e=>hne e.symm)];exact h1
 have ht:w4.ownsRow base 5 1 bv s.text.length (Lib.byteCells s.text):=h3.kept hg (by
  rcases h3.2 with⟨rfl,_⟩|⟨gn,cn,cur,rfl,hgn,hgg,_⟩
  ·exact .inl rfl
  ·right
   intro e
   have:=own_off h4 hgg neBS
   exact this (e.symm▸rfl))
 have hw:WrAt (w4.setCell ⟨g,5,none⟩ (.slice (some ⟨gb,0,none⟩) (s.names.length+1) cp)) base g (s.nam n):=by
  refine⟨hB,p,bv,.slice (some ⟨gb,0,none⟩) (s.names.length+1) cp,?_,h2,own_set ht (own_off ht hb4 neWB),?_⟩
  ·simp[World.setCell,Array.getElem?_modify,hb4,Wr.nam]
  ·have e1:(s.nam n).names.length=s.names.length+1:=by simp[Wr.nam]
   have e2:(s.nam n).names.map Value.string=s.names.map Value.string++[.string n]:=by simp[Wr.nam]
   rw[e1,e2]
   exact own_set ho (own_off ho hb4 neWS)
 have hk:Kt base V (w4.setCell ⟨g,5,none⟩ (.slice (some ⟨gb,0,none⟩) (s.names.length+1) cp)):=by
  refine⟨(Below.grown (Below.refl _ V) hg hsz (fun k e=>(h4.lt k e).1)).setCell (p:=⟨g,5,none⟩) hB _,fun k cs t fr hk n1 n2 n3=>?_⟩
  have hkl:=(Array.getElem?_eq_some_iff.1 hk).1
  have hkg:k≠g:=by
   rintro rfl
   rw[h1]at hk
   simp only[Option.some.injEq,Obj.cells.injEq]at hk
   exact n1 hk.2.1.symm
  refine(Below.heap_setCell _ _ _ _ hkg).trans ((hg.block k hkl (fun e=>?_)).trans hk)
  exact own_off h4 hk n3 e.symm
 exact⟨by rw[Lib.cell_of_heap hb4];rfl,Lib.frozen_of_heap hb4 5,T.wrote hk ⟨T.cx.c.to hk hw gg.g.r0 gg.g.r1,gg⟩⟩
theorem infoStrW:(Tryz.prog.info? 9).map (fun i=>(i.zero,i.size,i.bytes))=some (some (.string ⟨#[]⟩),1,16):=by kernel_rfl
theorem mixedG:Tryz.prog.follows .mixedOrders=true:=by kernel_rfl
theorem openNW_size(n:ByteArray)(hn:n.size≤140737488355327):(openN n).size≤140737488355331:=by unfold openN;rw[ByteArray.size_append,ByteArray.size_append];show 3+n.size+1≤_;omega
theorem group_0{w0 W:World}{base g:Nat}{s:Wr}(c:Cx w0 W base g s)(k m b:Int)(ng:Bool)(n:ByteArray)(sa:Option Addr)(sl sc:Nat)(ao:Option Addr)(nk cap:Nat)(hn:n.toList.isEmpty=true)(Pc:Option Wr)(HC:∀W',Cx w0 W' base g s→Met 45 #[.pointer (some ⟨g,0,none⟩),.string ⟨#[40,63,58]⟩,.agg (n8 k m 0 b ng n sa sl sc ao nk cap)] w0 W' base g (Pc)):Met 44 #[.pointer (some ⟨g,0,none⟩),.agg (n8 k m 0 b ng n sa sl sc ao nk cap)] w0 W base g (Pc):=by
 have HS:=Sn.st c (n8 k m 0 b ng n sa sl sc ao nk cap)
 have HP:Hid (Cp w0 W base g (n8 k m 0 b ng n sa sl sc ao nk cap) s 45 #[.pointer (some ⟨g,0,none⟩),.string ⟨#[40,63,58]⟩,.agg (n8 k m 0 b ng n sa sl sc ao nk cap)] Pc):=fun W' S=>Met.sn (HC W' S.cx) S
 unfold Met
 generalize Pc=P at*
 clear c HC
 go_enter Tryz.func44,Tryz.ntmps44
 go_wp2_with(first
  |(go_at_call 45;refine(HP.out _ HS.out).mono ?_;rintro e w9⟨rfl,d1,d2⟩;have HT1:Hid (∀s',_=some s'→Cx w0 w9 base g s'):=d1;have HT2:Hid (Kt base W w9):=d2;clear d1 d2))
 go_ret
 exact⟨ret_bool (by first|rfl|simp),HT1.out,HT2.out⟩
theorem group_a{w0 W:World}{base g:Nat}{s:Wr}(c:Cx w0 W base g s)(k m b:Int)(ng:Bool)(n:ByteArray)(sa:Option Addr)(sl sc:Nat)(ao:Option Addr)(nk cap:Nat)(hn:n.toList.isEmpty=false):Met 44 #[.pointer (some ⟨g,0,none⟩),.agg (n8 k m 0 b ng n sa sl sc ao nk cap)] w0 W base g (none):=by
 have HS:=Sn.st c (n8 k m 0 b ng n sa sl sc ao nk cap)
 have gc:=HS.out.cx.c.wr.grpCell
 have hg0:=c.gd.g.g0
 have hg1:=c.gd.g.g1
 have hgs:=c.c.wr.lt
 obtain⟨G,hG⟩:∃G,s.groups=G:=⟨_,rfl⟩
 rw[hG]at gc hg0 hg1
 have hw:IntKind.i64.wrap (G+1)=G+1:=by rw[IntKind.wrap_i64];omega
 have f1:¬(0:Int)=G+1:=by omega
 unfold Met
 clear c hG
 go_enter Tryz.func44,Tryz.ntmps44
 go_wp2
 go_quiet(fail)
 go_wp2
 go_ret
 exact met_no rfl (HS.out.quiet (below_drewN (Below.refl _ _) _)).kt
theorem group_b{w0 W:World}{base g:Nat}{s:Wr}(c:Cx w0 W base g s)(k m a b:Int)(ng:Bool)(n:ByteArray)(sa:Option Addr)(sl sc:Nat)(ao:Option Addr)(nk cap:Nat)(h0:¬a=0)(h1:¬a=s.groups+1):Met 44 #[.pointer (some ⟨g,0,none⟩),.agg (n8 k m a b ng n sa sl sc ao nk cap)] w0 W base g (none):=by
 have HS:=Sn.st c (n8 k m a b ng n sa sl sc ao nk cap)
 have gc:=HS.out.cx.c.wr.grpCell
 have hg0:=c.gd.g.g0
 have hg1:=c.gd.g.g1
 have hgs:=c.c.wr.lt
 obtain⟨G,hG⟩:∃G,s.groups=G:=⟨_,rfl⟩
 rw[hG]at gc hg0 hg1
 have hw:IntKind.i64.wrap (G+1)=G+1:=by rw[IntKind.wrap_i64];omega
 rw[hG]at h1
 have f0:(a==0)=false:=by simpa using h0
 unfold Met
 clear c hG
 go_enter Tryz.func44,Tryz.ntmps44
 go_wp2
 go_quiet(fail)
 go_wp2
 go_ret
 exact met_no rfl (HS.out.quiet (below_drewN (Below.refl _ _) _)).kt
theorem group_c{w0 W:World}{base g:Nat}{s:Wr}(c:Cx w0 W base g s)(k m b G:Int)(ng:Bool)(n:ByteArray)(sa:Option Addr)(sl sc:Nat)(ao:Option Addr)(nk cap:Nat)(hG:s.groups=G)(h20:20<G+1):Met 44 #[.pointer (some ⟨g,0,none⟩),.agg (n8 k m (G+1) b ng n sa sl sc ao nk cap)] w0 W base g (none):=by
 have HS:=Sn.st c (n8 k m (G+1) b ng n sa sl sc ao nk cap)
 have gc:=HS.out.cx.c.wr.grpCell
 have hg0:=c.gd.g.g0
 have hg1:=c.gd.g.g1
 have hgs:=c.c.wr.lt
 have gf:=(show((W.alloc (.cells (n8 k m (G+1) b ng n sa sl sc ao nk cap) 25))).frozen? ⟨g,4,none⟩=false from by obtain⟨_,p,bv,nv,h1,_⟩:=HS.out.cx.c.wr;exact Lib.frozen_of_heap h1 4)
 rw[hG]at gc hg0 hg1
 have hw:IntKind.i64.wrap (G+1)=G+1:=by rw[IntKind.wrap_i64];omega
 have f0:((G+1)==0)=false:=by simp;omega
 have f0':¬G+1=0:=by omega
 have f2:decide (20<G+1)=true:=decide_eq_true h20
 unfold Met
 clear c hG
 go_enter Tryz.func44,Tryz.ntmps44
 go_wp2
 go_quiet(fail)
 go_wp2
 go_ret
 exact met_no rfl (HS.out.quiet (below_drewN (Below.refl _ _) _)).kt
theorem group_1{w0 W:World}{base g:Nat}{s:Wr}(c:Cx w0 W base g s)(k m b G:Int)(ng:Bool)(n:ByteArray)(sa:Option Addr)(sl sc:Nat)(ao:Option Addr)(nk cap:Nat)(hG:s.groups=G)(h20:G+1≤20)(hn:n.toList.isEmpty=true)(Pc:Option Wr)(HC:∀W',Cx w0 W' base g s.grp→Met 45 #[.pointer (some ⟨g,0,none⟩),.string ⟨#[40]⟩,.agg (n8 k m (G+1) b ng n sa sl sc ao nk cap)] w0 W' base g (Pc)):Met 44 #[.pointer (some ⟨g,0,none⟩),.agg (n8 k m (G+1) b ng n sa sl sc ao nk cap)] w0 W base g (Pc):=by
 have HS:=Sn.st c (n8 k m (G+1) b ng n sa sl sc ao nk cap)
 have gc:=HS.out.cx.c.wr.grpCell
 have hg0:=c.gd.g.g0
 have hg1:=c.gd.g.g1
 have hgs:=c.c.wr.lt
 have gf:=(show((W.alloc (.cells (n8 k m (G+1) b ng n sa sl sc ao nk cap) 25))).frozen? ⟨g,4,none⟩=false from by obtain⟨_,p,bv,nv,h1,_⟩:=HS.out.cx.c.wr;exact Lib.frozen_of_heap h1 4)
 rw[hG]at gc hg0 hg1
 have hw:IntKind.i64.wrap (G+1)=G+1:=by rw[IntKind.wrap_i64];omega
 have f0:((G+1)==0)=false:=by simp;omega
 have f0':¬G+1=0:=by omega
 have f2:decide (20<G+1)=false:=decide_eq_false (by omega)
 have HP:Hid (Cp w0 W base g (n8 k m (G+1) b ng n sa sl sc ao nk cap) s.grp 45 #[.pointer (some ⟨g,0,none⟩),.string ⟨#[40]⟩,.agg (n8 k m (G+1) b ng n sa sl sc ao nk cap)] Pc):=fun W' S=>Met.sn (HC W' S.cx) S
 have HSG:Hid (∀nq,Sn w0 W base g W.heap.size (n8 k m (G+1) b ng n sa sl sc ao nk cap) s.grp (((W.alloc (.cells (n8 k m (G+1) b ng n sa sl sc ao nk cap) 25)).drewN nq).setCell ⟨g,4,none⟩ (.int .i64 (G+1)))):=fun nq=>Sn.grp HS.out G hG h20 nq
 unfold Met
 generalize Pc=P at*
 clear c HC hG
 go_enter Tryz.func44,Tryz.ntmps44
 go_wp2
 go_quiet(fail)
 go_wp2_with(first
  |(go_at_call 45;refine(HP.out _ (HSG.out _)).mono ?_;rintro e w9⟨rfl,d1,d2⟩;have HT1:Hid (∀s',_=some s'→Cx w0 w9 base g s'):=d1;have HT2:Hid (Kt base W w9):=d2;clear d1 d2))
 go_ret
 exact⟨ret_bool (by first|rfl|simp),HT1.out,HT2.out⟩
end Go.Proofs.YtbbeciofgnkggaaGreatDoor.tre
