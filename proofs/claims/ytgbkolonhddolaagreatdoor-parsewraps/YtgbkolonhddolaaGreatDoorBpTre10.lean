import Derived.Test.YtgbkolonhddolaaGreatDoorBpTre3
import Derived.Test.YtgbkolonhddolaaGreatDoorBpTre9
set_option linter.unusedSimpArgs false
set_option linter.unusedVariables false
set_option maxRecDepth 10000
set_option maxHeartbeats 2000000
theorem Go.Proofs.YtgbkolonhddolaaGreatDoor.lH{p:Prop}(h:p):Go.RowKit.Hid p:=h
namespace Go.Proofs.YtgbkolonhddolaaGreatDoor.tre
open Go.RowKit nod
open rng(R RV aH ag below_drewN info_parts own_below')
open tok(PEnv TX ak)
theorem fu.gX{w:World}{base g:Nat}{s:Wr}(h:fu w base g s):w.cell? ⟨g,4,none⟩=some (.int .i64 s.groups):=by
 obtain⟨_,p,bv,nv,h1,_⟩:=h
 rw[Lib.cell_of_heap h1];rfl
theorem Fj(m:Int)(l:List ByteArray)(N:Nat)(hN:l.length=N)(hl:N≤1000)(W:World)(z:Nat)(hz:W.heap.size=z):Calls Tryz.prog 92 #[.int .i64 m,.slice (some ⟨z,0,none⟩) N N] (W.alloc (.cells (l.map Value.string).toArray 9)) fun e w'=>e=.returned (.string (aV m l))∧(W.alloc (.cells (l.map Value.string).toArray 9))=w':=by
 subst hN hz
 exact(nS m _ l.length l _ (Bo W l) hl).mono fun e w'⟨h1,h2⟩=>⟨h1,h2.symm⟩
theorem Bu(m:Int)(l:List ByteArray)(N:Nat)(hN:l.length=N)(hl:N≤1000)(W:World)(z:Nat)(hz:W.heap.size=z):Calls Tryz.prog 92 #[.int .i64 m,.slice (some ⟨z,0,none⟩) N N] (W.alloc (.cells (l.map Value.string).toArray 9)).drew fun e w'=>e=.returned (.string (aV m l))∧(W.alloc (.cells (l.map Value.string).toArray 9)).drew=w':=by
 subst hN hz
 have hv:TV (W.alloc (.cells (l.map Value.string).toArray 9)).drew (some ⟨W.heap.size,0,none⟩) l:=Bo W l
 exact(nS m _ l.length l _ hv hl).mono fun e w'⟨h1,h2⟩=>⟨h1,h2.symm⟩
theorem LH(W:World)(o:Obj):Below W.heap.size W (W.alloc o).drew:=Below.drew ((Below.refl _ W).alloc (Nat.le_refl _) _)
theorem rF(m:Int)(l:List ByteArray)(B:Nat)(h:∀x∈l,x.size≤B):(aV m l).size≤B:=by
 unfold aV
 split
 ·simp
 ·cases hx:l[m.toNat]? with
  |none=>simp
  |some x=>exact h x (List.mem_of_getElem? hx)
theorem part_no{w0 W:World}{base g:Nat}{s:Wr}(c:Cx w0 W base g s)(k m a b:Int)(ng:Bool)(n:ByteArray)(sa:Option Addr)(sl sc:Nat)(ao:Option Addr)(nk cap:Nat)(st:List R)(ks:List Nd)(hsl:st.length=sl)(hnk:ks.length=nk)(ho:othersZ (.mk k m a b ng n st ks)=false)(P:Option Wr)(hP:P=none):Met 68 #[.pointer (some ⟨g,0,none⟩),.agg #[.int .i64 k,.int .i64 m,.int .i64 a,.int .i64 b,.bool ng,.string n,.slice sa sl sc,.slice ao nk cap]] w0 W base g (P):=by
 have HS:Hid (Sn w0 W base g W.heap.size #[.int .i64 k,.int .i64 m,.int .i64 a,.int .i64 b,.bool ng,.string n,.slice sa sl sc,.slice ao nk cap] s (W.alloc (.cells #[.int .i64 k,.int .i64 m,.int .i64 a,.int .i64 b,.bool ng,.string n,.slice sa sl sc,.slice ao nk cap] 26))):=Sn.start c _
 have HO:Hid (∀W',Sn w0 W base g W.heap.size #[.int .i64 k,.int .i64 m,.int .i64 a,.int .i64 b,.bool ng,.string n,.slice sa sl sc,.slice ao nk cap] s W'→Calls Tryz.prog 67 #[.agg #[.int .i64 k,.int .i64 m,.int .i64 a,.int .i64 b,.bool ng,.string n,.slice sa sl sc,.slice ao nk cap]] W' fun e w'=>e=.returned (.bool false)∧Sn w0 W base g W.heap.size #[.int .i64 k,.int .i64 m,.int .i64 a,.int .i64 b,.bool ng,.string n,.slice sa sl sc,.slice ao nk cap] s w'):=fun W' S=>dY S (k) (m) (a) (b) (ng) (n) st ks sa sl sc ao nk cap hsl hnk _ ho
 unfold Met
 clear c
 go_enter Tryz.func68,Tryz.ntmps68
 go_wp2_with(first
  |(go_at_call 67;refine(HO.out _ HS.out).mono ?_;rintro e w1⟨rfl,d⟩;have bV:=lH d;clear d))
 go_ret
 exact aA (hP) bV.out.kt
theorem Cb{w0 W:World}{base g:Nat}{s:Wr}(c:Cx w0 W base g s)(k m a b:Int)(ng:Bool)(n:ByteArray)(sa:Option Addr)(sl sc:Nat)(ao:Option Addr)(nk cap:Nat)(st:List R)(ks:List Nd)(hsl:st.length=sl)(hnk:ks.length=nk)(ho:othersZ (.mk k m a b ng n st ks)=true)(P:Option Wr)(hP:P=none)(k1:(k==1)=false)(k2:(k==2)=false)(k3:(k==3)=false)(k5:(k==5)=false)(k8:(k==8)=false)(k9:(k==9)=false)(k10:(k==10)=false)(k11:(k==11)=false)(k12:(k==12)=false)(k13:(k==13)=false)(k14:(k==14)=false):Met 68 #[.pointer (some ⟨g,0,none⟩),.agg #[.int .i64 k,.int .i64 m,.int .i64 a,.int .i64 b,.bool ng,.string n,.slice sa sl sc,.slice ao nk cap]] w0 W base g (P):=by
 have HS:Hid (Sn w0 W base g W.heap.size #[.int .i64 k,.int .i64 m,.int .i64 a,.int .i64 b,.bool ng,.string n,.slice sa sl sc,.slice ao nk cap] s (W.alloc (.cells #[.int .i64 k,.int .i64 m,.int .i64 a,.int .i64 b,.bool ng,.string n,.slice sa sl sc,.slice ao nk cap] 26))):=Sn.start c _
 have HO:Hid (∀W',Sn w0 W base g W.heap.size #[.int .i64 k,.int .i64 m,.int .i64 a,.int .i64 b,.bool ng,.string n,.slice sa sl sc,.slice ao nk cap] s W'→Calls Tryz.prog 67 #[.agg #[.int .i64 k,.int .i64 m,.int .i64 a,.int .i64 b,.bool ng,.string n,.slice sa sl sc,.slice ao nk cap]] W' fun e w'=>e=.returned (.bool true)∧Sn w0 W base g W.heap.size #[.int .i64 k,.int .i64 m,.int .i64 a,.int .i64 b,.bool ng,.string n,.slice sa sl sc,.slice ao nk cap] s w'):=fun W' S=>dY S (k) (m) (a) (b) (ng) (n) st ks sa sl sc ao nk cap hsl hnk _ ho
 unfold Met
 clear c
 go_enter Tryz.func68,Tryz.ntmps68
 go_wp2_with(first
  |(go_at_call 67;refine(HO.out _ HS.out).mono ?_;rintro e w1⟨rfl,d⟩;have bV:=lH d;have x0:=d.bk.cell 0 (u:=.int .i64 k) rfl;have x1:=d.bk.cell 1 (u:=.int .i64 m) rfl;have x2:=d.bk.cell 2 (u:=.int .i64 a) rfl;have x3:=d.bk.cell 3 (u:=.int .i64 b) rfl;have x4:=d.bk.cell 4 (u:=.bool ng) rfl;have x5:=d.bk.cell 5 (u:=.string n) rfl;have x6:=d.bk.cell 6 (u:=.slice sa sl sc) rfl;have x7:=d.bk.cell 7 (u:=.slice ao nk cap) rfl;clear d))
 go_ret
 exact aA (hP) bV.out.kt
theorem part_1{w0 W:World}{base g:Nat}{s:Wr}(c:Cx w0 W base g s)(m a b:Int)(ng:Bool)(n:ByteArray)(sa:Option Addr)(sl sc:Nat)(ao:Option Addr)(nk cap:Nat)(st:List R)(ks:List Nd)(hsl:st.length=sl)(hnk:ks.length=nk)(ho:othersZ (.mk 1 m a b ng n st ks)=true)(hsz:(TX (ak a false)).size≤9223372036854775807):Met 68 #[.pointer (some ⟨g,0,none⟩),.agg #[.int .i64 1,.int .i64 m,.int .i64 a,.int .i64 b,.bool ng,.string n,.slice sa sl sc,.slice ao nk cap]] w0 W base g (aN s (TX (ak a false))):=by
 have HS:Hid (Sn w0 W base g W.heap.size #[.int .i64 1,.int .i64 m,.int .i64 a,.int .i64 b,.bool ng,.string n,.slice sa sl sc,.slice ao nk cap] s (W.alloc (.cells #[.int .i64 1,.int .i64 m,.int .i64 a,.int .i64 b,.bool ng,.string n,.slice sa sl sc,.slice ao nk cap] 26))):=Sn.start c _
 have HO:Hid (∀W',Sn w0 W base g W.heap.size #[.int .i64 1,.int .i64 m,.int .i64 a,.int .i64 b,.bool ng,.string n,.slice sa sl sc,.slice ao nk cap] s W'→Calls Tryz.prog 67 #[.agg #[.int .i64 1,.int .i64 m,.int .i64 a,.int .i64 b,.bool ng,.string n,.slice sa sl sc,.slice ao nk cap]] W' fun e w'=>e=.returned (.bool true)∧Sn w0 W base g W.heap.size #[.int .i64 1,.int .i64 m,.int .i64 a,.int .i64 b,.bool ng,.string n,.slice sa sl sc,.slice ao nk cap] s w'):=fun W' S=>dY S (1) (m) (a) (b) (ng) (n) st ks sa sl sc ao nk cap hsl hnk _ ho
 have HQ:Hid (∀W',Sn w0 W base g W.heap.size #[.int .i64 1,.int .i64 m,.int .i64 a,.int .i64 b,.bool ng,.string n,.slice sa sl sc,.slice ao nk cap] s W'→Calls Tryz.prog 86 #[.int .i64 a,.bool false] W' fun e w'=>e=.returned (.string (TX (ak a false)))∧Sn w0 W base g W.heap.size #[.int .i64 1,.int .i64 m,.int .i64 a,.int .i64 b,.bool ng,.string n,.slice sa sl sc,.slice ao nk cap] s w'):=fun W' S=>quiet_of S (tok.mo a false W' S.cx.c.penv)
 have HP:Hid (∀W',Sn w0 W base g W.heap.size #[.int .i64 1,.int .i64 m,.int .i64 a,.int .i64 b,.bool ng,.string n,.slice sa sl sc,.slice ao nk cap] s W'→Calls Tryz.prog 69 #[.pointer (some ⟨g,0,none⟩),.string (TX (ak a false))] W' fun e w'=>e=.returned (.bool (aN s (TX (ak a false))).isSome)∧(∀s',aN s (TX (ak a false))=some s'→Cx w0 w' base g s')∧Kt base W w'):=fun W' S=>Met.sn (dX S.cx _ hsz) S
 unfold Met
 generalize aN s (TX (ak a false))=P at*
 generalize TX (ak a false)=T at*
 clear c
 go_enter Tryz.func68,Tryz.ntmps68
 go_wp2_with(first
  |(go_at_call 67;refine(HO.out _ HS.out).mono ?_;rintro e w1⟨rfl,d⟩;have bV:=lH d;have x0:=d.bk.cell 0 (u:=.int .i64 1) rfl;have x1:=d.bk.cell 1 (u:=.int .i64 m) rfl;have x2:=d.bk.cell 2 (u:=.int .i64 a) rfl;have x3:=d.bk.cell 3 (u:=.int .i64 b) rfl;have x4:=d.bk.cell 4 (u:=.bool ng) rfl;have x5:=d.bk.cell 5 (u:=.string n) rfl;have x6:=d.bk.cell 6 (u:=.slice sa sl sc) rfl;have x7:=d.bk.cell 7 (u:=.slice ao nk cap) rfl;clear d)
  |(go_at_call 86;refine(HQ.out _ bV.out).mono ?_;rintro e w2⟨rfl,d⟩;have HS2:=lH d;clear d)
  |(go_at_call 69;refine(HP.out _ HS2.out).mono ?_;rintro e w9⟨rfl,d1,d2⟩;have HT1:Hid (∀s',_=some s'→Cx w0 w9 base g s'):=d1;have HT2:Hid (Kt base W w9):=d2;clear d1 d2))
 go_ret
 exact⟨ag (by first|rfl|simp),HT1.out,HT2.out⟩
theorem part_2{w0 W:World}{base g:Nat}{s:Wr}(c:Cx w0 W base g s)(m a b:Int)(ng:Bool)(n:ByteArray)(sa:Option Addr)(sl sc:Nat)(ao:Option Addr)(nk cap:Nat)(st:List R)(ks:List Nd)(hsl:st.length=sl)(hnk:ks.length=nk)(ho:othersZ (.mk 2 m a b ng n st ks)=true):Met 68 #[.pointer (some ⟨g,0,none⟩),.agg #[.int .i64 2,.int .i64 m,.int .i64 a,.int .i64 b,.bool ng,.string n,.slice sa sl sc,.slice ao nk cap]] w0 W base g (aN s ⟨#[46]⟩):=by
 have HS:Hid (Sn w0 W base g W.heap.size #[.int .i64 2,.int .i64 m,.int .i64 a,.int .i64 b,.bool ng,.string n,.slice sa sl sc,.slice ao nk cap] s (W.alloc (.cells #[.int .i64 2,.int .i64 m,.int .i64 a,.int .i64 b,.bool ng,.string n,.slice sa sl sc,.slice ao nk cap] 26))):=Sn.start c _
 have HO:Hid (∀W',Sn w0 W base g W.heap.size #[.int .i64 2,.int .i64 m,.int .i64 a,.int .i64 b,.bool ng,.string n,.slice sa sl sc,.slice ao nk cap] s W'→Calls Tryz.prog 67 #[.agg #[.int .i64 2,.int .i64 m,.int .i64 a,.int .i64 b,.bool ng,.string n,.slice sa sl sc,.slice ao nk cap]] W' fun e w'=>e=.returned (.bool true)∧Sn w0 W base g W.heap.size #[.int .i64 2,.int .i64 m,.int .i64 a,.int .i64 b,.bool ng,.string n,.slice sa sl sc,.slice ao nk cap] s w'):=fun W' S=>dY S (2) (m) (a) (b) (ng) (n) st ks sa sl sc ao nk cap hsl hnk _ ho
 have HP:Hid (∀W',Sn w0 W base g W.heap.size #[.int .i64 2,.int .i64 m,.int .i64 a,.int .i64 b,.bool ng,.string n,.slice sa sl sc,.slice ao nk cap] s W'→Calls Tryz.prog 69 #[.pointer (some ⟨g,0,none⟩),.string ⟨#[46]⟩] W' fun e w'=>e=.returned (.bool (aN s ⟨#[46]⟩).isSome)∧(∀s',aN s ⟨#[46]⟩=some s'→Cx w0 w' base g s')∧Kt base W w'):=fun W' S=>Met.sn (dX S.cx _ (by decide)) S
 unfold Met
 generalize aN s ⟨#[46]⟩=P at*
 clear c
 go_enter Tryz.func68,Tryz.ntmps68
 go_wp2_with(first
  |(go_at_call 67;refine(HO.out _ HS.out).mono ?_;rintro e w1⟨rfl,d⟩;have bV:=lH d;have x0:=d.bk.cell 0 (u:=.int .i64 2) rfl;have x1:=d.bk.cell 1 (u:=.int .i64 m) rfl;have x2:=d.bk.cell 2 (u:=.int .i64 a) rfl;have x3:=d.bk.cell 3 (u:=.int .i64 b) rfl;have x4:=d.bk.cell 4 (u:=.bool ng) rfl;have x5:=d.bk.cell 5 (u:=.string n) rfl;have x6:=d.bk.cell 6 (u:=.slice sa sl sc) rfl;have x7:=d.bk.cell 7 (u:=.slice ao nk cap) rfl;clear d)
  |(go_at_call 69;refine(HP.out _ bV.out).mono ?_;rintro e w9⟨rfl,d1,d2⟩;have HT1:Hid (∀s',_=some s'→Cx w0 w9 base g s'):=d1;have HT2:Hid (Kt base W w9):=d2;clear d1 d2))
 go_ret
 exact⟨ag (by first|rfl|simp),HT1.out,HT2.out⟩
theorem part_14{w0 W:World}{base g:Nat}{s:Wr}(c:Cx w0 W base g s)(m a b:Int)(ng:Bool)(n:ByteArray)(sa:Option Addr)(sl sc:Nat)(ao:Option Addr)(nk cap:Nat)(st:List R)(ks:List Nd)(hsl:st.length=sl)(hnk:ks.length=nk)(ho:othersZ (.mk 14 m a b ng n st ks)=true):Met 68 #[.pointer (some ⟨g,0,none⟩),.agg #[.int .i64 14,.int .i64 m,.int .i64 a,.int .i64 b,.bool ng,.string n,.slice sa sl sc,.slice ao nk cap]] w0 W base g (aN s ⟨#[92,88]⟩):=by
 have HS:Hid (Sn w0 W base g W.heap.size #[.int .i64 14,.int .i64 m,.int .i64 a,.int .i64 b,.bool ng,.string n,.slice sa sl sc,.slice ao nk cap] s (W.alloc (.cells #[.int .i64 14,.int .i64 m,.int .i64 a,.int .i64 b,.bool ng,.string n,.slice sa sl sc,.slice ao nk cap] 26))):=Sn.start c _
 have HO:Hid (∀W',Sn w0 W base g W.heap.size #[.int .i64 14,.int .i64 m,.int .i64 a,.int .i64 b,.bool ng,.string n,.slice sa sl sc,.slice ao nk cap] s W'→Calls Tryz.prog 67 #[.agg #[.int .i64 14,.int .i64 m,.int .i64 a,.int .i64 b,.bool ng,.string n,.slice sa sl sc,.slice ao nk cap]] W' fun e w'=>e=.returned (.bool true)∧Sn w0 W base g W.heap.size #[.int .i64 14,.int .i64 m,.int .i64 a,.int .i64 b,.bool ng,.string n,.slice sa sl sc,.slice ao nk cap] s w'):=fun W' S=>dY S (14) (m) (a) (b) (ng) (n) st ks sa sl sc ao nk cap hsl hnk _ ho
 have HP:Hid (∀W',Sn w0 W base g W.heap.size #[.int .i64 14,.int .i64 m,.int .i64 a,.int .i64 b,.bool ng,.string n,.slice sa sl sc,.slice ao nk cap] s W'→Calls Tryz.prog 69 #[.pointer (some ⟨g,0,none⟩),.string ⟨#[92,88]⟩] W' fun e w'=>e=.returned (.bool (aN s ⟨#[92,88]⟩).isSome)∧(∀s',aN s ⟨#[92,88]⟩=some s'→Cx w0 w' base g s')∧Kt base W w'):=fun W' S=>Met.sn (dX S.cx _ (by decide)) S
 unfold Met
 generalize aN s ⟨#[92,88]⟩=P at*
 clear c
 go_enter Tryz.func68,Tryz.ntmps68
 go_wp2_with(first
  |(go_at_call 67;refine(HO.out _ HS.out).mono ?_;rintro e w1⟨rfl,d⟩;have bV:=lH d;have x0:=d.bk.cell 0 (u:=.int .i64 14) rfl;have x1:=d.bk.cell 1 (u:=.int .i64 m) rfl;have x2:=d.bk.cell 2 (u:=.int .i64 a) rfl;have x3:=d.bk.cell 3 (u:=.int .i64 b) rfl;have x4:=d.bk.cell 4 (u:=.bool ng) rfl;have x5:=d.bk.cell 5 (u:=.string n) rfl;have x6:=d.bk.cell 6 (u:=.slice sa sl sc) rfl;have x7:=d.bk.cell 7 (u:=.slice ao nk cap) rfl;clear d)
  |(go_at_call 69;refine(HP.out _ bV.out).mono ?_;rintro e w9⟨rfl,d1,d2⟩;have HT1:Hid (∀s',_=some s'→Cx w0 w9 base g s'):=d1;have HT2:Hid (Kt base W w9):=d2;clear d1 d2))
 go_ret
 exact⟨ag (by first|rfl|simp),HT1.out,HT2.out⟩
theorem part_5{w0 W:World}{base g:Nat}{s:Wr}(c:Cx w0 W base g s)(m a b:Int)(ng:Bool)(n:ByteArray)(sa:Option Addr)(sl sc:Nat)(ao:Option Addr)(nk cap:Nat)(st:List R)(ks:List Nd)(hsl:st.length=sl)(hnk:ks.length=nk)(ho:othersZ (.mk 5 m a b ng n st ks)=true)(hn:n.size≤140737488355327):Met 68 #[.pointer (some ⟨g,0,none⟩),.agg #[.int .i64 5,.int .i64 m,.int .i64 a,.int .i64 b,.bool ng,.string n,.slice sa sl sc,.slice ao nk cap]] w0 W base g (iD s n ng):=by
 have HS:Hid (Sn w0 W base g W.heap.size #[.int .i64 5,.int .i64 m,.int .i64 a,.int .i64 b,.bool ng,.string n,.slice sa sl sc,.slice ao nk cap] s (W.alloc (.cells #[.int .i64 5,.int .i64 m,.int .i64 a,.int .i64 b,.bool ng,.string n,.slice sa sl sc,.slice ao nk cap] 26))):=Sn.start c _
 have HO:Hid (∀W',Sn w0 W base g W.heap.size #[.int .i64 5,.int .i64 m,.int .i64 a,.int .i64 b,.bool ng,.string n,.slice sa sl sc,.slice ao nk cap] s W'→Calls Tryz.prog 67 #[.agg #[.int .i64 5,.int .i64 m,.int .i64 a,.int .i64 b,.bool ng,.string n,.slice sa sl sc,.slice ao nk cap]] W' fun e w'=>e=.returned (.bool true)∧Sn w0 W base g W.heap.size #[.int .i64 5,.int .i64 m,.int .i64 a,.int .i64 b,.bool ng,.string n,.slice sa sl sc,.slice ao nk cap] s w'):=fun W' S=>dY S (5) (m) (a) (b) (ng) (n) st ks sa sl sc ao nk cap hsl hnk _ ho
 have HP:Hid (∀W',Sn w0 W base g W.heap.size #[.int .i64 5,.int .i64 m,.int .i64 a,.int .i64 b,.bool ng,.string n,.slice sa sl sc,.slice ao nk cap] s W'→Calls Tryz.prog 88 #[.pointer (some ⟨g,0,none⟩),.agg #[.int .i64 5,.int .i64 m,.int .i64 a,.int .i64 b,.bool ng,.string n,.slice sa sl sc,.slice ao nk cap]] W' fun e w'=>e=.returned (.bool (iD s n ng).isSome)∧(∀s',iD s n ng=some s'→Cx w0 w' base g s')∧Kt base W w'):=fun W' S=>Met.sn (rT S.cx 5 m a b ng n sa sl sc ao nk cap hn) S
 unfold Met
 generalize iD s n ng=P at*
 clear c
 go_enter Tryz.func68,Tryz.ntmps68
 go_wp2_with(first
  |(go_at_call 67;refine(HO.out _ HS.out).mono ?_;rintro e w1⟨rfl,d⟩;have bV:=lH d;have x0:=d.bk.cell 0 (u:=.int .i64 5) rfl;have x1:=d.bk.cell 1 (u:=.int .i64 m) rfl;have x2:=d.bk.cell 2 (u:=.int .i64 a) rfl;have x3:=d.bk.cell 3 (u:=.int .i64 b) rfl;have x4:=d.bk.cell 4 (u:=.bool ng) rfl;have x5:=d.bk.cell 5 (u:=.string n) rfl;have x6:=d.bk.cell 6 (u:=.slice sa sl sc) rfl;have x7:=d.bk.cell 7 (u:=.slice ao nk cap) rfl;clear d)
  |(go_at_call 88;refine(HP.out _ bV.out).mono ?_;rintro e w9⟨rfl,d1,d2⟩;have HT1:Hid (∀s',_=some s'→Cx w0 w9 base g s'):=d1;have HT2:Hid (Kt base W w9):=d2;clear d1 d2))
 go_ret
 exact⟨ag (by first|rfl|simp),HT1.out,HT2.out⟩
theorem part_3{w0 W:World}{base g:Nat}{s:Wr}(c:Cx w0 W base g s)(m a b:Int)(ng:Bool)(n:ByteArray)(sa:Option Addr)(sl sc:Nat)(ao:Option Addr)(nk cap:Nat)(st:List R)(ks:List Nd)(hsl:st.length=sl)(hnk:ks.length=nk)(ho:othersZ (.mk 3 m a b ng n st ks)=true)(Pc:Option Wr)(HC:∀W',Cx w0 W' base g s→Met 87 #[.pointer (some ⟨g,0,none⟩),.agg #[.int .i64 3,.int .i64 m,.int .i64 a,.int .i64 b,.bool ng,.string n,.slice sa sl sc,.slice ao nk cap]] w0 W' base g (Pc)):Met 68 #[.pointer (some ⟨g,0,none⟩),.agg #[.int .i64 3,.int .i64 m,.int .i64 a,.int .i64 b,.bool ng,.string n,.slice sa sl sc,.slice ao nk cap]] w0 W base g (Pc):=by
 have HS:Hid (Sn w0 W base g W.heap.size #[.int .i64 3,.int .i64 m,.int .i64 a,.int .i64 b,.bool ng,.string n,.slice sa sl sc,.slice ao nk cap] s (W.alloc (.cells #[.int .i64 3,.int .i64 m,.int .i64 a,.int .i64 b,.bool ng,.string n,.slice sa sl sc,.slice ao nk cap] 26))):=Sn.start c _
 have HO:Hid (∀W',Sn w0 W base g W.heap.size #[.int .i64 3,.int .i64 m,.int .i64 a,.int .i64 b,.bool ng,.string n,.slice sa sl sc,.slice ao nk cap] s W'→Calls Tryz.prog 67 #[.agg #[.int .i64 3,.int .i64 m,.int .i64 a,.int .i64 b,.bool ng,.string n,.slice sa sl sc,.slice ao nk cap]] W' fun e w'=>e=.returned (.bool true)∧Sn w0 W base g W.heap.size #[.int .i64 3,.int .i64 m,.int .i64 a,.int .i64 b,.bool ng,.string n,.slice sa sl sc,.slice ao nk cap] s w'):=fun W' S=>dY S (3) (m) (a) (b) (ng) (n) st ks sa sl sc ao nk cap hsl hnk _ ho
 have HP:Hid (∀W',Sn w0 W base g W.heap.size #[.int .i64 3,.int .i64 m,.int .i64 a,.int .i64 b,.bool ng,.string n,.slice sa sl sc,.slice ao nk cap] s W'→Calls Tryz.prog 87 #[.pointer (some ⟨g,0,none⟩),.agg #[.int .i64 3,.int .i64 m,.int .i64 a,.int .i64 b,.bool ng,.string n,.slice sa sl sc,.slice ao nk cap]] W' fun e w'=>e=.returned (.bool (Pc).isSome)∧(∀s',Pc=some s'→Cx w0 w' base g s')∧Kt base W w'):=fun W' S=>Met.sn (HC W' S.cx) S
 unfold Met
 generalize Pc=P at*
 clear c
 go_enter Tryz.func68,Tryz.ntmps68
 go_wp2_with(first
  |(go_at_call 67;refine(HO.out _ HS.out).mono ?_;rintro e w1⟨rfl,d⟩;have bV:=lH d;have x0:=d.bk.cell 0 (u:=.int .i64 3) rfl;have x1:=d.bk.cell 1 (u:=.int .i64 m) rfl;have x2:=d.bk.cell 2 (u:=.int .i64 a) rfl;have x3:=d.bk.cell 3 (u:=.int .i64 b) rfl;have x4:=d.bk.cell 4 (u:=.bool ng) rfl;have x5:=d.bk.cell 5 (u:=.string n) rfl;have x6:=d.bk.cell 6 (u:=.slice sa sl sc) rfl;have x7:=d.bk.cell 7 (u:=.slice ao nk cap) rfl;clear d)
  |(go_at_call 87;refine(HP.out _ bV.out).mono ?_;rintro e w9⟨rfl,d1,d2⟩;have HT1:Hid (∀s',_=some s'→Cx w0 w9 base g s'):=d1;have HT2:Hid (Kt base W w9):=d2;clear d1 d2))
 go_ret
 exact⟨ag (by first|rfl|simp),HT1.out,HT2.out⟩
theorem part_8{w0 W:World}{base g:Nat}{s:Wr}(c:Cx w0 W base g s)(m a b:Int)(ng:Bool)(n:ByteArray)(sa:Option Addr)(sl sc:Nat)(ao:Option Addr)(nk cap:Nat)(st:List R)(ks:List Nd)(hsl:st.length=sl)(hnk:ks.length=nk)(ho:othersZ (.mk 8 m a b ng n st ks)=true)(Pc:Option Wr)(HC:∀W',Cx w0 W' base g s→Met 89 #[.pointer (some ⟨g,0,none⟩),.agg #[.int .i64 8,.int .i64 m,.int .i64 a,.int .i64 b,.bool ng,.string n,.slice sa sl sc,.slice ao nk cap]] w0 W' base g (Pc)):Met 68 #[.pointer (some ⟨g,0,none⟩),.agg #[.int .i64 8,.int .i64 m,.int .i64 a,.int .i64 b,.bool ng,.string n,.slice sa sl sc,.slice ao nk cap]] w0 W base g (Pc):=by
 have HS:Hid (Sn w0 W base g W.heap.size #[.int .i64 8,.int .i64 m,.int .i64 a,.int .i64 b,.bool ng,.string n,.slice sa sl sc,.slice ao nk cap] s (W.alloc (.cells #[.int .i64 8,.int .i64 m,.int .i64 a,.int .i64 b,.bool ng,.string n,.slice sa sl sc,.slice ao nk cap] 26))):=Sn.start c _
 have HO:Hid (∀W',Sn w0 W base g W.heap.size #[.int .i64 8,.int .i64 m,.int .i64 a,.int .i64 b,.bool ng,.string n,.slice sa sl sc,.slice ao nk cap] s W'→Calls Tryz.prog 67 #[.agg #[.int .i64 8,.int .i64 m,.int .i64 a,.int .i64 b,.bool ng,.string n,.slice sa sl sc,.slice ao nk cap]] W' fun e w'=>e=.returned (.bool true)∧Sn w0 W base g W.heap.size #[.int .i64 8,.int .i64 m,.int .i64 a,.int .i64 b,.bool ng,.string n,.slice sa sl sc,.slice ao nk cap] s w'):=fun W' S=>dY S (8) (m) (a) (b) (ng) (n) st ks sa sl sc ao nk cap hsl hnk _ ho
 have HP:Hid (∀W',Sn w0 W base g W.heap.size #[.int .i64 8,.int .i64 m,.int .i64 a,.int .i64 b,.bool ng,.string n,.slice sa sl sc,.slice ao nk cap] s W'→Calls Tryz.prog 89 #[.pointer (some ⟨g,0,none⟩),.agg #[.int .i64 8,.int .i64 m,.int .i64 a,.int .i64 b,.bool ng,.string n,.slice sa sl sc,.slice ao nk cap]] W' fun e w'=>e=.returned (.bool (Pc).isSome)∧(∀s',Pc=some s'→Cx w0 w' base g s')∧Kt base W w'):=fun W' S=>Met.sn (HC W' S.cx) S
 unfold Met
 generalize Pc=P at*
 clear c
 go_enter Tryz.func68,Tryz.ntmps68
 go_wp2_with(first
  |(go_at_call 67;refine(HO.out _ HS.out).mono ?_;rintro e w1⟨rfl,d⟩;have bV:=lH d;have x0:=d.bk.cell 0 (u:=.int .i64 8) rfl;have x1:=d.bk.cell 1 (u:=.int .i64 m) rfl;have x2:=d.bk.cell 2 (u:=.int .i64 a) rfl;have x3:=d.bk.cell 3 (u:=.int .i64 b) rfl;have x4:=d.bk.cell 4 (u:=.bool ng) rfl;have x5:=d.bk.cell 5 (u:=.string n) rfl;have x6:=d.bk.cell 6 (u:=.slice sa sl sc) rfl;have x7:=d.bk.cell 7 (u:=.slice ao nk cap) rfl;clear d)
  |(go_at_call 89;refine(HP.out _ bV.out).mono ?_;rintro e w9⟨rfl,d1,d2⟩;have HT1:Hid (∀s',_=some s'→Cx w0 w9 base g s'):=d1;have HT2:Hid (Kt base W w9):=d2;clear d1 d2))
 go_ret
 exact⟨ag (by first|rfl|simp),HT1.out,HT2.out⟩
theorem part_9{w0 W:World}{base g:Nat}{s:Wr}(c:Cx w0 W base g s)(m a b:Int)(ng:Bool)(n:ByteArray)(sa:Option Addr)(sl sc:Nat)(ao:Option Addr)(nk cap:Nat)(st:List R)(ks:List Nd)(hsl:st.length=sl)(hnk:ks.length=nk)(ho:othersZ (.mk 9 m a b ng n st ks)=true)(Pc:Option Wr)(HC:∀W',Cx w0 W' base g s→Met 90 #[.pointer (some ⟨g,0,none⟩),.agg #[.int .i64 9,.int .i64 m,.int .i64 a,.int .i64 b,.bool ng,.string n,.slice sa sl sc,.slice ao nk cap]] w0 W' base g (Pc)):Met 68 #[.pointer (some ⟨g,0,none⟩),.agg #[.int .i64 9,.int .i64 m,.int .i64 a,.int .i64 b,.bool ng,.string n,.slice sa sl sc,.slice ao nk cap]] w0 W base g (Pc):=by
 have HS:Hid (Sn w0 W base g W.heap.size #[.int .i64 9,.int .i64 m,.int .i64 a,.int .i64 b,.bool ng,.string n,.slice sa sl sc,.slice ao nk cap] s (W.alloc (.cells #[.int .i64 9,.int .i64 m,.int .i64 a,.int .i64 b,.bool ng,.string n,.slice sa sl sc,.slice ao nk cap] 26))):=Sn.start c _
 have HO:Hid (∀W',Sn w0 W base g W.heap.size #[.int .i64 9,.int .i64 m,.int .i64 a,.int .i64 b,.bool ng,.string n,.slice sa sl sc,.slice ao nk cap] s W'→Calls Tryz.prog 67 #[.agg #[.int .i64 9,.int .i64 m,.int .i64 a,.int .i64 b,.bool ng,.string n,.slice sa sl sc,.slice ao nk cap]] W' fun e w'=>e=.returned (.bool true)∧Sn w0 W base g W.heap.size #[.int .i64 9,.int .i64 m,.int .i64 a,.int .i64 b,.bool ng,.string n,.slice sa sl sc,.slice ao nk cap] s w'):=fun W' S=>dY S (9) (m) (a) (b) (ng) (n) st ks sa sl sc ao nk cap hsl hnk _ ho
 have HP:Hid (∀W',Sn w0 W base g W.heap.size #[.int .i64 9,.int .i64 m,.int .i64 a,.int .i64 b,.bool ng,.string n,.slice sa sl sc,.slice ao nk cap] s W'→Calls Tryz.prog 90 #[.pointer (some ⟨g,0,none⟩),.agg #[.int .i64 9,.int .i64 m,.int .i64 a,.int .i64 b,.bool ng,.string n,.slice sa sl sc,.slice ao nk cap]] W' fun e w'=>e=.returned (.bool (Pc).isSome)∧(∀s',Pc=some s'→Cx w0 w' base g s')∧Kt base W w'):=fun W' S=>Met.sn (HC W' S.cx) S
 unfold Met
 generalize Pc=P at*
 clear c
 go_enter Tryz.func68,Tryz.ntmps68
 go_wp2_with(first
  |(go_at_call 67;refine(HO.out _ HS.out).mono ?_;rintro e w1⟨rfl,d⟩;have bV:=lH d;have x0:=d.bk.cell 0 (u:=.int .i64 9) rfl;have x1:=d.bk.cell 1 (u:=.int .i64 m) rfl;have x2:=d.bk.cell 2 (u:=.int .i64 a) rfl;have x3:=d.bk.cell 3 (u:=.int .i64 b) rfl;have x4:=d.bk.cell 4 (u:=.bool ng) rfl;have x5:=d.bk.cell 5 (u:=.string n) rfl;have x6:=d.bk.cell 6 (u:=.slice sa sl sc) rfl;have x7:=d.bk.cell 7 (u:=.slice ao nk cap) rfl;clear d)
  |(go_at_call 90;refine(HP.out _ bV.out).mono ?_;rintro e w9⟨rfl,d1,d2⟩;have HT1:Hid (∀s',_=some s'→Cx w0 w9 base g s'):=d1;have HT2:Hid (Kt base W w9):=d2;clear d1 d2))
 go_ret
 exact⟨ag (by first|rfl|simp),HT1.out,HT2.out⟩
theorem part_11{w0 W:World}{base g:Nat}{s:Wr}(c:Cx w0 W base g s)(m a b:Int)(ng:Bool)(n:ByteArray)(sa:Option Addr)(sl sc:Nat)(ao:Option Addr)(nk cap:Nat)(st:List R)(ks:List Nd)(hsl:st.length=sl)(hnk:ks.length=nk)(ho:othersZ (.mk 11 m a b ng n st ks)=true)(Pc:Option Wr)(HC:∀W',Cx w0 W' base g s→Met 91 #[.pointer (some ⟨g,0,none⟩),.string ⟨#[40,63,62]⟩,.agg #[.int .i64 11,.int .i64 m,.int .i64 a,.int .i64 b,.bool ng,.string n,.slice sa sl sc,.slice ao nk cap]] w0 W' base g (Pc)):Met 68 #[.pointer (some ⟨g,0,none⟩),.agg #[.int .i64 11,.int .i64 m,.int .i64 a,.int .i64 b,.bool ng,.string n,.slice sa sl sc,.slice ao nk cap]] w0 W base g (Pc):=by
 have HS:Hid (Sn w0 W base g W.heap.size #[.int .i64 11,.int .i64 m,.int .i64 a,.int .i64 b,.bool ng,.string n,.slice sa sl sc,.slice ao nk cap] s (W.alloc (.cells #[.int .i64 11,.int .i64 m,.int .i64 a,.int .i64 b,.bool ng,.string n,.slice sa sl sc,.slice ao nk cap] 26))):=Sn.start c _
 have HO:Hid (∀W',Sn w0 W base g W.heap.size #[.int .i64 11,.int .i64 m,.int .i64 a,.int .i64 b,.bool ng,.string n,.slice sa sl sc,.slice ao nk cap] s W'→Calls Tryz.prog 67 #[.agg #[.int .i64 11,.int .i64 m,.int .i64 a,.int .i64 b,.bool ng,.string n,.slice sa sl sc,.slice ao nk cap]] W' fun e w'=>e=.returned (.bool true)∧Sn w0 W base g W.heap.size #[.int .i64 11,.int .i64 m,.int .i64 a,.int .i64 b,.bool ng,.string n,.slice sa sl sc,.slice ao nk cap] s w'):=fun W' S=>dY S (11) (m) (a) (b) (ng) (n) st ks sa sl sc ao nk cap hsl hnk _ ho
 have HP:Hid (∀W',Sn w0 W base g W.heap.size #[.int .i64 11,.int .i64 m,.int .i64 a,.int .i64 b,.bool ng,.string n,.slice sa sl sc,.slice ao nk cap] s W'→Calls Tryz.prog 91 #[.pointer (some ⟨g,0,none⟩),.string ⟨#[40,63,62]⟩,.agg #[.int .i64 11,.int .i64 m,.int .i64 a,.int .i64 b,.bool ng,.string n,.slice sa sl sc,.slice ao nk cap]] W' fun e w'=>e=.returned (.bool (Pc).isSome)∧(∀s',Pc=some s'→Cx w0 w' base g s')∧Kt base W w'):=fun W' S=>Met.sn (HC W' S.cx) S
 unfold Met
 generalize Pc=P at*
 clear c
 go_enter Tryz.func68,Tryz.ntmps68
 go_wp2_with(first
  |(go_at_call 67;refine(HO.out _ HS.out).mono ?_;rintro e w1⟨rfl,d⟩;have bV:=lH d;have x0:=d.bk.cell 0 (u:=.int .i64 11) rfl;have x1:=d.bk.cell 1 (u:=.int .i64 m) rfl;have x2:=d.bk.cell 2 (u:=.int .i64 a) rfl;have x3:=d.bk.cell 3 (u:=.int .i64 b) rfl;have x4:=d.bk.cell 4 (u:=.bool ng) rfl;have x5:=d.bk.cell 5 (u:=.string n) rfl;have x6:=d.bk.cell 6 (u:=.slice sa sl sc) rfl;have x7:=d.bk.cell 7 (u:=.slice ao nk cap) rfl;clear d)
  |(go_at_call 91;refine(HP.out _ bV.out).mono ?_;rintro e w9⟨rfl,d1,d2⟩;have HT1:Hid (∀s',_=some s'→Cx w0 w9 base g s'):=d1;have HT2:Hid (Kt base W w9):=d2;clear d1 d2))
 go_ret
 exact⟨ag (by first|rfl|simp),HT1.out,HT2.out⟩
theorem part_12{w0 W:World}{base g:Nat}{s:Wr}(c:Cx w0 W base g s)(m a b:Int)(ng:Bool)(n:ByteArray)(sa:Option Addr)(sl sc:Nat)(ao:Option Addr)(nk cap:Nat)(st:List R)(ks:List Nd)(hsl:st.length=sl)(hnk:ks.length=nk)(ho:othersZ (.mk 12 m a b ng n st ks)=true):Met 68 #[.pointer (some ⟨g,0,none⟩),.agg #[.int .i64 12,.int .i64 m,.int .i64 a,.int .i64 b,.bool ng,.string n,.slice sa sl sc,.slice ao nk cap]] w0 W base g (aN s (aV m gQ)):=by
 have HS:Hid (Sn w0 W base g W.heap.size #[.int .i64 12,.int .i64 m,.int .i64 a,.int .i64 b,.bool ng,.string n,.slice sa sl sc,.slice ao nk cap] s (W.alloc (.cells #[.int .i64 12,.int .i64 m,.int .i64 a,.int .i64 b,.bool ng,.string n,.slice sa sl sc,.slice ao nk cap] 26))):=Sn.start c _
 have HO:Hid (∀W',Sn w0 W base g W.heap.size #[.int .i64 12,.int .i64 m,.int .i64 a,.int .i64 b,.bool ng,.string n,.slice sa sl sc,.slice ao nk cap] s W'→Calls Tryz.prog 67 #[.agg #[.int .i64 12,.int .i64 m,.int .i64 a,.int .i64 b,.bool ng,.string n,.slice sa sl sc,.slice ao nk cap]] W' fun e w'=>e=.returned (.bool true)∧Sn w0 W base g W.heap.size #[.int .i64 12,.int .i64 m,.int .i64 a,.int .i64 b,.bool ng,.string n,.slice sa sl sc,.slice ao nk cap] s w'):=fun W' S=>dY S (12) (m) (a) (b) (ng) (n) st ks sa sl sc ao nk cap hsl hnk _ ho
 have HTX:Hid (∀(W':World)(z:Nat),W'.heap.size=z→Calls Tryz.prog 92 #[.int .i64 m,.slice (some ⟨z,0,none⟩) 11 11] (W'.alloc (.cells #[.string ByteArray.empty,.string ⟨#[94]⟩,.string ⟨#[36]⟩,.string ⟨#[92,65]⟩,.string ⟨#[92,122]⟩,.string ⟨#[92,98]⟩,.string ⟨#[92,66]⟩,.string ⟨#[92,98,123,103,125]⟩,.string ⟨#[92,66,123,103,125]⟩,.string ⟨#[92,98,123,119,125]⟩,.string ⟨#[92,66,123,119,125]⟩] 9)) fun e w'=>e=.returned (.string (aV m gQ))∧(W'.alloc (.cells #[.string ByteArray.empty,.string ⟨#[94]⟩,.string ⟨#[36]⟩,.string ⟨#[92,65]⟩,.string ⟨#[92,122]⟩,.string ⟨#[92,98]⟩,.string ⟨#[92,66]⟩,.string ⟨#[92,98,123,103,125]⟩,.string ⟨#[92,66,123,103,125]⟩,.string ⟨#[92,98,123,119,125]⟩,.string ⟨#[92,66,123,119,125]⟩] 9))=w'):=fun W' z hz=>Fj m gQ 11 rfl (by decide) W' z hz
 have hU:=rF m gQ 5 (by decide)
 generalize aV m gQ=U at*
 have HP:Hid (∀W',Sn w0 W base g W.heap.size #[.int .i64 12,.int .i64 m,.int .i64 a,.int .i64 b,.bool ng,.string n,.slice sa sl sc,.slice ao nk cap] s W'→Calls Tryz.prog 69 #[.pointer (some ⟨g,0,none⟩),.string U] W' fun e w'=>e=.returned (.bool (aN s U).isSome)∧(∀s',aN s U=some s'→Cx w0 w' base g s')∧Kt base W w'):=fun W' S=>Met.sn (dX S.cx _ (by omega)) S
 unfold Met
 generalize aN s U=P at*
 clear c
 go_enter Tryz.func68,Tryz.ntmps68
 go_wp2_with(first
  |(go_at_call 67;refine(HO.out _ HS.out).mono ?_;rintro e w1⟨rfl,d⟩;have bV:=lH d;have x0:=d.bk.cell 0 (u:=.int .i64 12) rfl;have x1:=d.bk.cell 1 (u:=.int .i64 m) rfl;have x2:=d.bk.cell 2 (u:=.int .i64 a) rfl;have x3:=d.bk.cell 3 (u:=.int .i64 b) rfl;have x4:=d.bk.cell 4 (u:=.bool ng) rfl;have x5:=d.bk.cell 5 (u:=.string n) rfl;have x6:=d.bk.cell 6 (u:=.slice sa sl sc) rfl;have x7:=d.bk.cell 7 (u:=.slice ao nk cap) rfl;clear d)
  |(go_at_call 92;refine(HTX.out _ _ rfl).mono ?_;rintro e w4⟨rfl,rfl⟩)
  |(go_at_call 69;refine(HP.out _ (bV.out.quiet ((Below.refl _ w1).alloc (Nat.le_refl _) _))).mono ?_;rintro e w9⟨rfl,d1,d2⟩;have HT1:Hid (∀s',_=some s'→Cx w0 w9 base g s'):=d1;have HT2:Hid (Kt base W w9):=d2;clear d1 d2))
 go_ret
 exact⟨ag (by first|rfl|simp),HT1.out,HT2.out⟩
theorem part_10{w0 W:World}{base g:Nat}{s:Wr}(c:Cx w0 W base g s)(m a b:Int)(ng:Bool)(n:ByteArray)(sa:Option Addr)(sl sc:Nat)(ao:Option Addr)(nk cap:Nat)(st:List R)(ks:List Nd)(hsl:st.length=sl)(hnk:ks.length=nk)(ho:othersZ (.mk 10 m a b ng n st ks)=true)(Pc:Option Wr)(HC:∀W',Cx w0 W' base g s→Met 91 #[.pointer (some ⟨g,0,none⟩),.string (aV m gJ),.agg #[.int .i64 10,.int .i64 m,.int .i64 a,.int .i64 b,.bool ng,.string n,.slice sa sl sc,.slice ao nk cap]] w0 W' base g (Pc)):Met 68 #[.pointer (some ⟨g,0,none⟩),.agg #[.int .i64 10,.int .i64 m,.int .i64 a,.int .i64 b,.bool ng,.string n,.slice sa sl sc,.slice ao nk cap]] w0 W base g (Pc):=by
 have HS:Hid (Sn w0 W base g W.heap.size #[.int .i64 10,.int .i64 m,.int .i64 a,.int .i64 b,.bool ng,.string n,.slice sa sl sc,.slice ao nk cap] s (W.alloc (.cells #[.int .i64 10,.int .i64 m,.int .i64 a,.int .i64 b,.bool ng,.string n,.slice sa sl sc,.slice ao nk cap] 26))):=Sn.start c _
 have HO:Hid (∀W',Sn w0 W base g W.heap.size #[.int .i64 10,.int .i64 m,.int .i64 a,.int .i64 b,.bool ng,.string n,.slice sa sl sc,.slice ao nk cap] s W'→Calls Tryz.prog 67 #[.agg #[.int .i64 10,.int .i64 m,.int .i64 a,.int .i64 b,.bool ng,.string n,.slice sa sl sc,.slice ao nk cap]] W' fun e w'=>e=.returned (.bool true)∧Sn w0 W base g W.heap.size #[.int .i64 10,.int .i64 m,.int .i64 a,.int .i64 b,.bool ng,.string n,.slice sa sl sc,.slice ao nk cap] s w'):=fun W' S=>dY S (10) (m) (a) (b) (ng) (n) st ks sa sl sc ao nk cap hsl hnk _ ho
 have HTX:Hid (∀(W':World)(z:Nat),W'.heap.size=z→Calls Tryz.prog 92 #[.int .i64 m,.slice (some ⟨z,0,none⟩) 4 4] (W'.alloc (.cells #[.string ⟨#[40,63,61]⟩,.string ⟨#[40,63,33]⟩,.string ⟨#[40,63,60,61]⟩,.string ⟨#[40,63,60,33]⟩] 9)).drew fun e w'=>e=.returned (.string (aV m gJ))∧(W'.alloc (.cells #[.string ⟨#[40,63,61]⟩,.string ⟨#[40,63,33]⟩,.string ⟨#[40,63,60,61]⟩,.string ⟨#[40,63,60,33]⟩] 9)).drew=w'):=fun W' z hz=>Bu m gJ 4 rfl (by decide) W' z hz
 generalize aV m gJ=U at*
 have HP:Hid (∀W',Sn w0 W base g W.heap.size #[.int .i64 10,.int .i64 m,.int .i64 a,.int .i64 b,.bool ng,.string n,.slice sa sl sc,.slice ao nk cap] s W'→Calls Tryz.prog 91 #[.pointer (some ⟨g,0,none⟩),.string U,.agg #[.int .i64 10,.int .i64 m,.int .i64 a,.int .i64 b,.bool ng,.string n,.slice sa sl sc,.slice ao nk cap]] W' fun e w'=>e=.returned (.bool (Pc).isSome)∧(∀s',Pc=some s'→Cx w0 w' base g s')∧Kt base W w'):=fun W' S=>Met.sn (HC W' S.cx) S
 unfold Met
 generalize Pc=P at*
 clear c HC
 go_enter Tryz.func68,Tryz.ntmps68
 go_wp2_with(first
  |(go_at_call 67;refine(HO.out _ HS.out).mono ?_;rintro e w1⟨rfl,d⟩;have bV:=lH d;have x0:=d.bk.cell 0 (u:=.int .i64 10) rfl;have x1:=d.bk.cell 1 (u:=.int .i64 m) rfl;have x2:=d.bk.cell 2 (u:=.int .i64 a) rfl;have x3:=d.bk.cell 3 (u:=.int .i64 b) rfl;have x4:=d.bk.cell 4 (u:=.bool ng) rfl;have x5:=d.bk.cell 5 (u:=.string n) rfl;have x6:=d.bk.cell 6 (u:=.slice sa sl sc) rfl;have x7:=d.bk.cell 7 (u:=.slice ao nk cap) rfl;have hl1:=d.bk.lt;clear d))
 go_region_with(first
  |(go_at_call 92;refine(HTX.out _ _ rfl).mono ?_;rintro e w4⟨rfl,rfl⟩)
  |(go_at_call 91;refine(HP.out _ (bV.out.quiet (LH w1 _))).mono ?_;rintro e w9⟨rfl,d1,d2⟩;have HT1:Hid (∀s',_=some s'→Cx w0 w9 base g s'):=d1;have HT2:Hid (Kt base W w9):=d2;clear d1 d2))
 all_goals(try go_wp2)
 all_goals(go_ret;exact⟨ag (by first|rfl|simp),HT1.out,HT2.out⟩)
theorem part_13{w0 W:World}{base g:Nat}{s:Wr}(c:Cx w0 W base g s)(m a b:Int)(ng:Bool)(n:ByteArray)(sa:Option Addr)(sl sc:Nat)(ao:Option Addr)(nk cap:Nat)(st:List R)(ks:List Nd)(hsl:st.length=sl)(hnk:ks.length=nk)(ho:othersZ (.mk 13 m a b ng n st ks)=true)(hpw:Pw w0):Met 68 #[.pointer (some ⟨g,0,none⟩),.agg #[.int .i64 13,.int .i64 m,.int .i64 a,.int .i64 b,.bool ng,.string n,.slice sa sl sc,.slice ao nk cap]] w0 W base g (if 0<a∧a≤s.groups then aN s (nC a)else none):=by
 have HS:Hid (Sn w0 W base g W.heap.size #[.int .i64 13,.int .i64 m,.int .i64 a,.int .i64 b,.bool ng,.string n,.slice sa sl sc,.slice ao nk cap] s (W.alloc (.cells #[.int .i64 13,.int .i64 m,.int .i64 a,.int .i64 b,.bool ng,.string n,.slice sa sl sc,.slice ao nk cap] 26))):=Sn.start c _
 have HO:Hid (∀W',Sn w0 W base g W.heap.size #[.int .i64 13,.int .i64 m,.int .i64 a,.int .i64 b,.bool ng,.string n,.slice sa sl sc,.slice ao nk cap] s W'→Calls Tryz.prog 67 #[.agg #[.int .i64 13,.int .i64 m,.int .i64 a,.int .i64 b,.bool ng,.string n,.slice sa sl sc,.slice ao nk cap]] W' fun e w'=>e=.returned (.bool true)∧Sn w0 W base g W.heap.size #[.int .i64 13,.int .i64 m,.int .i64 a,.int .i64 b,.bool ng,.string n,.slice sa sl sc,.slice ao nk cap] s w'):=fun W' S=>dY S (13) (m) (a) (b) (ng) (n) st ks sa sl sc ao nk cap hsl hnk _ ho
 unfold Met
 have hg1:=c.gd.g.g1
 by_cases h1:¬0<a
 ·rw[if_neg (fun h=>h1 h.1)]
  have f1:decide (0<a)=false:=decide_eq_false h1
  generalize s.groups=G at*
  clear c
  go_enter Tryz.func68,Tryz.ntmps68
  go_wp2_with(first
   |(go_at_call 67;refine(HO.out _ HS.out).mono ?_;rintro e w1⟨rfl,d⟩;have bV:=lH d;have x0:=d.bk.cell 0 (u:=.int .i64 13) rfl;have x1:=d.bk.cell 1 (u:=.int .i64 m) rfl;have x2:=d.bk.cell 2 (u:=.int .i64 a) rfl;have x3:=d.bk.cell 3 (u:=.int .i64 b) rfl;have x4:=d.bk.cell 4 (u:=.bool ng) rfl;have x5:=d.bk.cell 5 (u:=.string n) rfl;have x6:=d.bk.cell 6 (u:=.slice sa sl sc) rfl;have x7:=d.bk.cell 7 (u:=.slice ao nk cap) rfl;have gc:=d.cx.c.wr.gX;clear d))
  go_quiet(fail)
  go_wp2
  go_ret
  exact aA rfl (bV.out.quiet (below_drewN (Below.refl _ _) _)).kt
 have h1:0<a:=by omega
 have f1:decide (0<a)=true:=decide_eq_true h1
 by_cases h2:¬a≤s.groups
 ·rw[if_neg (fun h=>h2 h.2)]
  have f2:decide (a≤s.groups)=false:=decide_eq_false h2
  clear c
  go_enter Tryz.func68,Tryz.ntmps68
  go_wp2_with(first
   |(go_at_call 67;refine(HO.out _ HS.out).mono ?_;rintro e w1⟨rfl,d⟩;have bV:=lH d;have x0:=d.bk.cell 0 (u:=.int .i64 13) rfl;have x1:=d.bk.cell 1 (u:=.int .i64 m) rfl;have x2:=d.bk.cell 2 (u:=.int .i64 a) rfl;have x3:=d.bk.cell 3 (u:=.int .i64 b) rfl;have x4:=d.bk.cell 4 (u:=.bool ng) rfl;have x5:=d.bk.cell 5 (u:=.string n) rfl;have x6:=d.bk.cell 6 (u:=.slice sa sl sc) rfl;have x7:=d.bk.cell 7 (u:=.slice ao nk cap) rfl;have gc:=d.cx.c.wr.gX;clear d))
  go_quiet(fail)
  go_wp2
  go_ret
  exact aA rfl (bV.out.quiet (below_drewN (Below.refl _ _) _)).kt
 have h2:a≤s.groups:=by omega
 have f2:decide (a≤s.groups)=true:=decide_eq_true h2
 rw[if_pos ⟨h1,h2⟩]
 have HI:Hid (∀W',Sn w0 W base g W.heap.size #[.int .i64 13,.int .i64 m,.int .i64 a,.int .i64 b,.bool ng,.string n,.slice sa sl sc,.slice ao nk cap] s W'→Calls Tryz.prog 93 #[.int .i64 a] W' fun e w'=>e=.returned (.string (dec a))∧Sn w0 W base g W.heap.size #[.int .i64 13,.int .i64 m,.int .i64 a,.int .i64 b,.bool ng,.string n,.slice sa sl sc,.slice ao nk cap] s w'):=fun W' S=>quiet_of S (lG a (by unfold dQ;omega) W' (pw_of S.cx hpw))
 have hd:=ja a (by omega) (by omega)
 have hB:(nC a).size≤7:=by unfold nC;rw[ByteArray.size_append,ByteArray.size_append];show 3+(dec a).size+1≤7;omega
 have HP:Hid (∀W',Sn w0 W base g W.heap.size #[.int .i64 13,.int .i64 m,.int .i64 a,.int .i64 b,.bool ng,.string n,.slice sa sl sc,.slice ao nk cap] s W'→Calls Tryz.prog 69 #[.pointer (some ⟨g,0,none⟩),.string (nC a)] W' fun e w'=>e=.returned (.bool (aN s (nC a)).isSome)∧(∀s',aN s (nC a)=some s'→Cx w0 w' base g s')∧Kt base W w'):=fun W' S=>Met.sn (dX S.cx _ (by omega)) S
 generalize aN s (nC a)=P at*
 unfold nC at*
 have s1:ByteArray.size ⟨#[92,107,123]⟩=3:=rfl
 have s2:ByteArray.size ⟨#[125]⟩=1:=rfl
 generalize dec a=X at*
 obtain⟨Y,hY⟩:∃Y,(⟨#[92,107,123]⟩:ByteArray)++X=Y:=⟨_,rfl⟩
 have d1:Y.size=X.size+3:=by rw[←hY,ByteArray.size_append,s1];omega
 rw[hY]at HP
 obtain⟨Z,hZ⟩:∃Z,Y++(⟨#[125]⟩:ByteArray)=Z:=⟨_,rfl⟩
 rw[hZ]at HP
 clear c hB
 go_enter Tryz.func68,Tryz.ntmps68
 go_wp2_with(first
  |(go_at_call 67;refine(HO.out _ HS.out).mono ?_;rintro e w1⟨rfl,d⟩;have bV:=lH d;have x0:=d.bk.cell 0 (u:=.int .i64 13) rfl;have x1:=d.bk.cell 1 (u:=.int .i64 m) rfl;have x2:=d.bk.cell 2 (u:=.int .i64 a) rfl;have x3:=d.bk.cell 3 (u:=.int .i64 b) rfl;have x4:=d.bk.cell 4 (u:=.bool ng) rfl;have x5:=d.bk.cell 5 (u:=.string n) rfl;have x6:=d.bk.cell 6 (u:=.slice sa sl sc) rfl;have x7:=d.bk.cell 7 (u:=.slice ao nk cap) rfl;have gc:=d.cx.c.wr.gX;clear d))
 go_region_with(first
  |(go_at_call 93;refine(HI.out _ (bV.out.quiet (Below.drew (Below.refl _ w1)))).mono ?_;rintro e w2⟨rfl,d⟩;have HS2:=lH d;clear d)
  |(go_at_call 69;refine(HP.out _ HS2.out).mono ?_;rintro e w9⟨rfl,d1,d2⟩;have HT1:Hid (∀s',_=some s'→Cx w0 w9 base g s'):=d1;have HT2:Hid (Kt base W w9):=d2;clear d1 d2))
 all_goals(try go_wp2)
 all_goals(go_ret;exact⟨ag (by first|rfl|simp),HT1.out,HT2.out⟩)
end Go.Proofs.YtgbkolonhddolaaGreatDoor.tre
