import Derived.Test.YtgbkolonhddolaaGreatDoorBpTre2
set_option linter.unusedSimpArgs false
set_option linter.unusedVariables false
set_option maxRecDepth 10000
set_option maxHeartbeats 2000000
theorem Go.Proofs.YtgbkolonhddolaaGreatDoor.gM{p:Prop}(h:p):Go.RowKit.Hid p:=h
namespace Go.Proofs.YtgbkolonhddolaaGreatDoor.tre
open Go.RowKit nod
open rng(R RV aH ag below_drewN info_parts own_below')
open tok(PEnv TX ak)
theorem rT{w0 W:World}{base g:Nat}{s:Wr}(c:Cx w0 W base g s)(k m a b:Int)(ng:Bool)(n:ByteArray)(sa:Option Addr)(sl sc:Nat)(ao:Option Addr)(nk cap:Nat)(hn:n.size≤140737488355327):Met 88 #[.pointer (some ⟨g,0,none⟩),.agg #[.int .i64 k,.int .i64 m,.int .i64 a,.int .i64 b,.bool ng,.string n,.slice sa sl sc,.slice ao nk cap]] w0 W base g (iD s n ng):=by
 have HS:Hid (Sn w0 W base g W.heap.size #[.int .i64 k,.int .i64 m,.int .i64 a,.int .i64 b,.bool ng,.string n,.slice sa sl sc,.slice ao nk cap] s (W.alloc (.cells #[.int .i64 k,.int .i64 m,.int .i64 a,.int .i64 b,.bool ng,.string n,.slice sa sl sc,.slice ao nk cap] 26))):=Sn.start c _
 have hT:=BU n ng hn
 have HN0:Hid (∀W',Sn w0 W base g W.heap.size #[.int .i64 k,.int .i64 m,.int .i64 a,.int .i64 b,.bool ng,.string n,.slice sa sl sc,.slice ao nk cap] s W'→Calls Tryz.prog 115 #[.string n,.bool ng] W' fun e w'=>e=.returned (.string (jO n ng))∧Sn w0 W base g W.heap.size #[.int .i64 k,.int .i64 m,.int .i64 a,.int .i64 b,.bool ng,.string n,.slice sa sl sc,.slice ao nk cap] s w'):=fun W' S=>quiet_of S (FX n ng hn W')
 have HN:Hid (∀W',Sn w0 W base g W.heap.size #[.int .i64 k,.int .i64 m,.int .i64 a,.int .i64 b,.bool ng,.string n,.slice sa sl sc,.slice ao nk cap] s W'→Calls Tryz.prog 116 #[.string (jO n ng),.string n] W' fun e w'=>e=.returned (.bool (fU (jO n ng) n))∧Sn w0 W base g W.heap.size #[.int .i64 k,.int .i64 m,.int .i64 a,.int .i64 b,.bool ng,.string n,.slice sa sl sc,.slice ao nk cap] s w'):=fun W' S=>quiet_of S (mD _ n (by omega) W' S.cx.c.penv.mks)
 have HP:Hid (∀W',Sn w0 W base g W.heap.size #[.int .i64 k,.int .i64 m,.int .i64 a,.int .i64 b,.bool ng,.string n,.slice sa sl sc,.slice ao nk cap] s W'→Calls Tryz.prog 69 #[.pointer (some ⟨g,0,none⟩),.string (jO n ng)] W' fun e w'=>e=.returned (.bool (aN s (jO n ng)).isSome)∧(∀s',aN s (jO n ng)=some s'→Cx w0 w' base g s')∧Kt base W w'):=fun W' S=>Met.sn (dX S.cx _ (by omega)) S
 unfold Met iD
 generalize jO n ng=T at*
 cases hq:fU T n with
 |false=>
  rw[hq]at HN
  rw[if_neg (by simp)]
  clear c HP hq
  go_enter Tryz.func88,Tryz.ntmps88
  go_wp2_with(first
   |(go_at_call 115;refine(HN0.out _ HS.out).mono ?_;rintro e w1⟨rfl,d⟩;have bV:=gM d;have x0:=d.bk.cell 0 (u:=.int .i64 k) rfl;have x1:=d.bk.cell 1 (u:=.int .i64 m) rfl;have x2:=d.bk.cell 2 (u:=.int .i64 a) rfl;have x3:=d.bk.cell 3 (u:=.int .i64 b) rfl;have x4:=d.bk.cell 4 (u:=.bool ng) rfl;have x5:=d.bk.cell 5 (u:=.string n) rfl;have x6:=d.bk.cell 6 (u:=.slice sa sl sc) rfl;have x7:=d.bk.cell 7 (u:=.slice ao nk cap) rfl;clear d)
   |(go_at_call 116;refine(HN.out _ bV.out).mono ?_;rintro e w2⟨rfl,d⟩;have HS2:=gM d;clear d))
  go_ret
  exact aA (rfl) HS2.out.kt
 |true=>
  rw[hq]at HN
  rw[if_pos rfl]
  clear c hq
  generalize aN s T=P at*
  go_enter Tryz.func88,Tryz.ntmps88
  go_wp2_with(first
   |(go_at_call 115;refine(HN0.out _ HS.out).mono ?_;rintro e w1⟨rfl,d⟩;have bV:=gM d;have x0:=d.bk.cell 0 (u:=.int .i64 k) rfl;have x1:=d.bk.cell 1 (u:=.int .i64 m) rfl;have x2:=d.bk.cell 2 (u:=.int .i64 a) rfl;have x3:=d.bk.cell 3 (u:=.int .i64 b) rfl;have x4:=d.bk.cell 4 (u:=.bool ng) rfl;have x5:=d.bk.cell 5 (u:=.string n) rfl;have x6:=d.bk.cell 6 (u:=.slice sa sl sc) rfl;have x7:=d.bk.cell 7 (u:=.slice ao nk cap) rfl;clear d)
   |(go_at_call 116;refine(HN.out _ bV.out).mono ?_;rintro e w2⟨rfl,d⟩;have HS2:=gM d;clear d)
   |(go_at_call 69;refine(HP.out _ HS2.out).mono ?_;rintro e w3⟨rfl,d1,d2⟩;have HT1:Hid (∀s',_=some s'→Cx w0 w3 base g s'):=d1;have HT2:Hid (Kt base W w3):=d2;clear d1 d2))
  go_ret
  exact⟨ag (by first|rfl|simp),HT1.out,HT2.out⟩
theorem Ao{w0 W:World}{base g:Nat}{s:Wr}(c:Cx w0 W base g s)(k m a b:Int)(n:ByteArray)(sa:Option Addr)(sl sc:Nat)(ao:Option Addr)(nk cap:Nat)(Pi:Wr→Option Wr)(HI:Hid (∀W' s',Cx w0 W' base g s'→Met 113 #[.pointer (some ⟨g,0,none⟩),.agg #[.int .i64 k,.int .i64 m,.int .i64 a,.int .i64 b,.bool false,.string n,.slice sa sl sc,.slice ao nk cap]] w0 W' base g (Pi s')))(hd:∀s1 s2,Pi s1=some s2→Gd s1→s2.depth=s1.depth):Met 87 #[.pointer (some ⟨g,0,none⟩),.agg #[.int .i64 k,.int .i64 m,.int .i64 a,.int .i64 b,.bool false,.string n,.slice sa sl sc,.slice ao nk cap]] w0 W base g ((fG s ⟨#[91]⟩).bind fun s1=>(Pi s1).bind fun s2=>eG s2 ⟨#[93]⟩):=by
 have HS:Hid (Sn w0 W base g W.heap.size #[.int .i64 k,.int .i64 m,.int .i64 a,.int .i64 b,.bool false,.string n,.slice sa sl sc,.slice ao nk cap] s (W.alloc (.cells #[.int .i64 k,.int .i64 m,.int .i64 a,.int .i64 b,.bool false,.string n,.slice sa sl sc,.slice ao nk cap] 26))):=Sn.start c _
 unfold Met
 cases h1:fG s ⟨#[91]⟩with
 |none=>
  have HE:Hid (∀W',Sn w0 W base g W.heap.size #[.int .i64 k,.int .i64 m,.int .i64 a,.int .i64 b,.bool false,.string n,.slice sa sl sc,.slice ao nk cap] s W'→Calls Tryz.prog 112 #[.pointer (some ⟨g,0,none⟩),.string ⟨#[91]⟩] W' fun e w'=>e=.returned (.bool false)∧Kt base W w'):=fun W' S=>Met.nV (iN S.cx _ (by decide)) h1 S
  clear c h1
  go_enter Tryz.func87,Tryz.ntmps87
  go_wp2_with(first
   |(go_at_call 112;refine(HE.out _ HS.out).mono ?_;rintro e w1⟨rfl,d⟩;have HZ:Hid (Kt base W w1):=d;clear d))
  go_ret
  exact aA (rfl) HZ.out
 |some s1=>
  have HE:Hid (∀W',Sn w0 W base g W.heap.size #[.int .i64 k,.int .i64 m,.int .i64 a,.int .i64 b,.bool false,.string n,.slice sa sl sc,.slice ao nk cap] s W'→Calls Tryz.prog 112 #[.pointer (some ⟨g,0,none⟩),.string ⟨#[91]⟩] W' fun e w'=>e=.returned (.bool true)∧Sn w0 W base g W.heap.size #[.int .i64 k,.int .i64 m,.int .i64 a,.int .i64 b,.bool false,.string n,.slice sa sl sc,.slice ao nk cap] s1 w'):=fun W' S=>Met.nU (iN S.cx _ (by decide)) h1 S
  have hg:=lK h1 c.gd
  simp only[Option.bind_some]
  cases h2:Pi s1 with
  |none=>
   have HJ:Hid (∀W',Sn w0 W base g W.heap.size #[.int .i64 k,.int .i64 m,.int .i64 a,.int .i64 b,.bool false,.string n,.slice sa sl sc,.slice ao nk cap] s1 W'→Calls Tryz.prog 113 #[.pointer (some ⟨g,0,none⟩),.agg #[.int .i64 k,.int .i64 m,.int .i64 a,.int .i64 b,.bool false,.string n,.slice sa sl sc,.slice ao nk cap]] W' fun e w'=>e=.returned (.bool false)∧Kt base W w'):=fun W' S=>Met.nV (HI.out W' s1 S.cx) h2 S
   clear c h1 h2 HI hg
   go_enter Tryz.func87,Tryz.ntmps87
   go_wp2_with(first
    |(go_at_call 112;refine(HE.out _ HS.out).mono ?_;rintro e w1⟨rfl,d⟩;have bV:=gM d;have x0:=d.bk.cell 0 (u:=.int .i64 k) rfl;have x1:=d.bk.cell 1 (u:=.int .i64 m) rfl;have x2:=d.bk.cell 2 (u:=.int .i64 a) rfl;have x3:=d.bk.cell 3 (u:=.int .i64 b) rfl;have x4:=d.bk.cell 4 (u:=.bool false) rfl;have x5:=d.bk.cell 5 (u:=.string n) rfl;have x6:=d.bk.cell 6 (u:=.slice sa sl sc) rfl;have x7:=d.bk.cell 7 (u:=.slice ao nk cap) rfl;clear d)
    |(go_at_call 113;refine(HJ.out _ bV.out).mono ?_;rintro e w2⟨rfl,d⟩;have HZ:Hid (Kt base W w2):=d;clear d))
   go_ret
   exact aA (rfl) HZ.out
  |some s2=>
   have HJ:Hid (∀W',Sn w0 W base g W.heap.size #[.int .i64 k,.int .i64 m,.int .i64 a,.int .i64 b,.bool false,.string n,.slice sa sl sc,.slice ao nk cap] s1 W'→Calls Tryz.prog 113 #[.pointer (some ⟨g,0,none⟩),.agg #[.int .i64 k,.int .i64 m,.int .i64 a,.int .i64 b,.bool false,.string n,.slice sa sl sc,.slice ao nk cap]] W' fun e w'=>e=.returned (.bool true)∧Sn w0 W base g W.heap.size #[.int .i64 k,.int .i64 m,.int .i64 a,.int .i64 b,.bool false,.string n,.slice sa sl sc,.slice ao nk cap] s2 w'):=fun W' S=>Met.nU (HI.out W' s1 S.cx) h2 S
   have hd2:=hd s1 s2 h2 hg.1
   have hl:1≤s2.depth:=by have:=hg.2;have:=c.gd.g.d0;omega
   simp only[Option.bind_some]
   have HL:Hid (∀W',Sn w0 W base g W.heap.size #[.int .i64 k,.int .i64 m,.int .i64 a,.int .i64 b,.bool false,.string n,.slice sa sl sc,.slice ao nk cap] s2 W'→Calls Tryz.prog 114 #[.pointer (some ⟨g,0,none⟩),.string ⟨#[93]⟩] W' fun e w'=>e=.returned (.bool (eG s2 ⟨#[93]⟩).isSome)∧(∀s',eG s2 ⟨#[93]⟩=some s'→Cx w0 w' base g s')∧Kt base W w'):=fun W' S=>Met.sn (pV S.cx hl _ (by decide)) S
   generalize eG s2 ⟨#[93]⟩=P at*
   clear c h1 h2 HI hg hd2 hl
   go_enter Tryz.func87,Tryz.ntmps87
   go_wp2_with(first
    |(go_at_call 112;refine(HE.out _ HS.out).mono ?_;rintro e w1⟨rfl,d⟩;have bV:=gM d;have x0:=d.bk.cell 0 (u:=.int .i64 k) rfl;have x1:=d.bk.cell 1 (u:=.int .i64 m) rfl;have x2:=d.bk.cell 2 (u:=.int .i64 a) rfl;have x3:=d.bk.cell 3 (u:=.int .i64 b) rfl;have x4:=d.bk.cell 4 (u:=.bool false) rfl;have x5:=d.bk.cell 5 (u:=.string n) rfl;have x6:=d.bk.cell 6 (u:=.slice sa sl sc) rfl;have x7:=d.bk.cell 7 (u:=.slice ao nk cap) rfl;clear d)
    |(go_at_call 113;refine(HJ.out _ bV.out).mono ?_;rintro e w2⟨rfl,d⟩;have HS2:=gM d;clear d)
    |(go_at_call 114;refine(HL.out _ HS2.out).mono ?_;rintro e w3⟨rfl,d1,d2⟩;have HT1:Hid (∀s',_=some s'→Cx w0 w3 base g s'):=d1;have HT2:Hid (Kt base W w3):=d2;clear d1 d2))
   go_ret
   exact⟨ag (by first|rfl|simp),HT1.out,HT2.out⟩
theorem Dr{w0 W:World}{base g:Nat}{s:Wr}(c:Cx w0 W base g s)(k m a b:Int)(n:ByteArray)(sa:Option Addr)(sl sc:Nat)(ao:Option Addr)(nk cap:Nat)(Pi:Wr→Option Wr)(HI:Hid (∀W' s',Cx w0 W' base g s'→Met 113 #[.pointer (some ⟨g,0,none⟩),.agg #[.int .i64 k,.int .i64 m,.int .i64 a,.int .i64 b,.bool true,.string n,.slice sa sl sc,.slice ao nk cap]] w0 W' base g (Pi s')))(hd:∀s1 s2,Pi s1=some s2→Gd s1→s2.depth=s1.depth):Met 87 #[.pointer (some ⟨g,0,none⟩),.agg #[.int .i64 k,.int .i64 m,.int .i64 a,.int .i64 b,.bool true,.string n,.slice sa sl sc,.slice ao nk cap]] w0 W base g ((fG s ⟨#[91,94]⟩).bind fun s1=>(Pi s1).bind fun s2=>eG s2 ⟨#[93]⟩):=by
 have HS:Hid (Sn w0 W base g W.heap.size #[.int .i64 k,.int .i64 m,.int .i64 a,.int .i64 b,.bool true,.string n,.slice sa sl sc,.slice ao nk cap] s (W.alloc (.cells #[.int .i64 k,.int .i64 m,.int .i64 a,.int .i64 b,.bool true,.string n,.slice sa sl sc,.slice ao nk cap] 26))):=Sn.start c _
 unfold Met
 cases h1:fG s ⟨#[91,94]⟩with
 |none=>
  have HE:Hid (∀W',Sn w0 W base g W.heap.size #[.int .i64 k,.int .i64 m,.int .i64 a,.int .i64 b,.bool true,.string n,.slice sa sl sc,.slice ao nk cap] s W'→Calls Tryz.prog 112 #[.pointer (some ⟨g,0,none⟩),.string ⟨#[91,94]⟩] W' fun e w'=>e=.returned (.bool false)∧Kt base W w'):=fun W' S=>Met.nV (iN S.cx _ (by decide)) h1 S
  clear c h1
  go_enter Tryz.func87,Tryz.ntmps87
  go_wp2_with(first
   |(go_at_call 112;refine(HE.out _ HS.out).mono ?_;rintro e w1⟨rfl,d⟩;have HZ:Hid (Kt base W w1):=d;clear d))
  go_ret
  exact aA (rfl) HZ.out
 |some s1=>
  have HE:Hid (∀W',Sn w0 W base g W.heap.size #[.int .i64 k,.int .i64 m,.int .i64 a,.int .i64 b,.bool true,.string n,.slice sa sl sc,.slice ao nk cap] s W'→Calls Tryz.prog 112 #[.pointer (some ⟨g,0,none⟩),.string ⟨#[91,94]⟩] W' fun e w'=>e=.returned (.bool true)∧Sn w0 W base g W.heap.size #[.int .i64 k,.int .i64 m,.int .i64 a,.int .i64 b,.bool true,.string n,.slice sa sl sc,.slice ao nk cap] s1 w'):=fun W' S=>Met.nU (iN S.cx _ (by decide)) h1 S
  have hg:=lK h1 c.gd
  simp only[Option.bind_some]
  cases h2:Pi s1 with
  |none=>
   have HJ:Hid (∀W',Sn w0 W base g W.heap.size #[.int .i64 k,.int .i64 m,.int .i64 a,.int .i64 b,.bool true,.string n,.slice sa sl sc,.slice ao nk cap] s1 W'→Calls Tryz.prog 113 #[.pointer (some ⟨g,0,none⟩),.agg #[.int .i64 k,.int .i64 m,.int .i64 a,.int .i64 b,.bool true,.string n,.slice sa sl sc,.slice ao nk cap]] W' fun e w'=>e=.returned (.bool false)∧Kt base W w'):=fun W' S=>Met.nV (HI.out W' s1 S.cx) h2 S
   clear c h1 h2 HI hg
   go_enter Tryz.func87,Tryz.ntmps87
   go_wp2_with(first
    |(go_at_call 112;refine(HE.out _ HS.out).mono ?_;rintro e w1⟨rfl,d⟩;have bV:=gM d;have x0:=d.bk.cell 0 (u:=.int .i64 k) rfl;have x1:=d.bk.cell 1 (u:=.int .i64 m) rfl;have x2:=d.bk.cell 2 (u:=.int .i64 a) rfl;have x3:=d.bk.cell 3 (u:=.int .i64 b) rfl;have x4:=d.bk.cell 4 (u:=.bool true) rfl;have x5:=d.bk.cell 5 (u:=.string n) rfl;have x6:=d.bk.cell 6 (u:=.slice sa sl sc) rfl;have x7:=d.bk.cell 7 (u:=.slice ao nk cap) rfl;clear d)
    |(go_at_call 113;refine(HJ.out _ bV.out).mono ?_;rintro e w2⟨rfl,d⟩;have HZ:Hid (Kt base W w2):=d;clear d))
   go_ret
   exact aA (rfl) HZ.out
  |some s2=>
   have HJ:Hid (∀W',Sn w0 W base g W.heap.size #[.int .i64 k,.int .i64 m,.int .i64 a,.int .i64 b,.bool true,.string n,.slice sa sl sc,.slice ao nk cap] s1 W'→Calls Tryz.prog 113 #[.pointer (some ⟨g,0,none⟩),.agg #[.int .i64 k,.int .i64 m,.int .i64 a,.int .i64 b,.bool true,.string n,.slice sa sl sc,.slice ao nk cap]] W' fun e w'=>e=.returned (.bool true)∧Sn w0 W base g W.heap.size #[.int .i64 k,.int .i64 m,.int .i64 a,.int .i64 b,.bool true,.string n,.slice sa sl sc,.slice ao nk cap] s2 w'):=fun W' S=>Met.nU (HI.out W' s1 S.cx) h2 S
   have hd2:=hd s1 s2 h2 hg.1
   have hl:1≤s2.depth:=by have:=hg.2;have:=c.gd.g.d0;omega
   simp only[Option.bind_some]
   have HL:Hid (∀W',Sn w0 W base g W.heap.size #[.int .i64 k,.int .i64 m,.int .i64 a,.int .i64 b,.bool true,.string n,.slice sa sl sc,.slice ao nk cap] s2 W'→Calls Tryz.prog 114 #[.pointer (some ⟨g,0,none⟩),.string ⟨#[93]⟩] W' fun e w'=>e=.returned (.bool (eG s2 ⟨#[93]⟩).isSome)∧(∀s',eG s2 ⟨#[93]⟩=some s'→Cx w0 w' base g s')∧Kt base W w'):=fun W' S=>Met.sn (pV S.cx hl _ (by decide)) S
   generalize eG s2 ⟨#[93]⟩=P at*
   clear c h1 h2 HI hg hd2 hl
   go_enter Tryz.func87,Tryz.ntmps87
   go_wp2_with(first
    |(go_at_call 112;refine(HE.out _ HS.out).mono ?_;rintro e w1⟨rfl,d⟩;have bV:=gM d;have x0:=d.bk.cell 0 (u:=.int .i64 k) rfl;have x1:=d.bk.cell 1 (u:=.int .i64 m) rfl;have x2:=d.bk.cell 2 (u:=.int .i64 a) rfl;have x3:=d.bk.cell 3 (u:=.int .i64 b) rfl;have x4:=d.bk.cell 4 (u:=.bool true) rfl;have x5:=d.bk.cell 5 (u:=.string n) rfl;have x6:=d.bk.cell 6 (u:=.slice sa sl sc) rfl;have x7:=d.bk.cell 7 (u:=.slice ao nk cap) rfl;clear d)
    |(go_at_call 113;refine(HJ.out _ bV.out).mono ?_;rintro e w2⟨rfl,d⟩;have HS2:=gM d;clear d)
    |(go_at_call 114;refine(HL.out _ HS2.out).mono ?_;rintro e w3⟨rfl,d1,d2⟩;have HT1:Hid (∀s',_=some s'→Cx w0 w3 base g s'):=d1;have HT2:Hid (Kt base W w3):=d2;clear d1 d2))
   go_ret
   exact⟨ag (by first|rfl|simp),HT1.out,HT2.out⟩
end Go.Proofs.YtgbkolonhddolaaGreatDoor.tre
namespace Go.Proofs.YtgbkolonhddolaaGreatDoor.tre
open Go.RowKit nod
open rng(R RV aH ag below_drewN info_parts own_below')
open tok(PEnv TX ak)
theorem bY(k m a b:Int)(ng:Bool)(n:ByteArray)(st:List R)(ks:List Nd)(sa:Option Addr)(sl sc:Nat)(ao:Option Addr)(nk cap:Nat)(w:World)(hsl:st.length=sl)(hnk:ks.length=nk):
  Calls Tryz.prog 160 #[.agg #[.int .i64 k,.int .i64 m,.int .i64 a,.int .i64 b,.bool ng,.string n,.slice sa sl sc,.slice ao nk cap]] w fun e w'=>e=.returned (.bool (qp (.mk k m a b ng n st ks)))∧Below w.heap.size w w':=by
 have HB:Hid (Below w.heap.size w (w.alloc (.cells #[.int .i64 k,.int .i64 m,.int .i64 a,.int .i64 b,.bool ng,.string n,.slice sa sl sc,.slice ao nk cap] 26))):=(Below.refl _ w).alloc (Nat.le_refl _) _
 have C:=JM k m a b ng n st ks sa sl sc ao nk cap (w.alloc (.cells #[.int .i64 k,.int .i64 m,.int .i64 a,.int .i64 b,.bool ng,.string n,.slice sa sl sc,.slice ao nk cap] 26)) hsl hnk
 rw[qp]
 generalize othersZ (.mk k m a b ng n st ks)=q at*
 by_cases ck:k=3
 ·subst ck
  cases ng
  ·go_enter Tryz.func160,Tryz.ntmps160
   go_wp2_with(go_at_call 67;refine C.mono ?_;rintro e w1⟨rfl,d⟩;have HW:Hid (Below w.heap.size w w1):=HB.out.trans (ae d (by simp));clear d)
   go_ret
   exact⟨ag (by simp),HW.out⟩
  ·clear C
   go_enter Tryz.func160,Tryz.ntmps160
   go_wp2
   go_ret
   exact⟨ag (by simp),HB.out⟩
 ·have f:(k==3)=false:=by simpa using ck
  clear C
  go_enter Tryz.func160,Tryz.ntmps160
  go_wp2
  go_ret
  exact⟨ag (by simp[f]),HB.out⟩
theorem Gn{w0 W:World}{base g:Nat}{s:Wr}(c:Cx w0 W base g s)(k m a b:Int)(ng:Bool)(n:ByteArray)(sa:Option Addr)(sl sc:Nat)(ao:Option Addr)(nk cap:Nat)(st:List R)(ks:List Nd)(hsl:st.length=sl)(hnk:ks.length=nk)(ho:othersZ (.mk k m a b ng n st ks)=false)(P:Option Wr)(hP:P=none):Met 158 #[.pointer (some ⟨g,0,none⟩),.agg #[.int .i64 k,.int .i64 m,.int .i64 a,.int .i64 b,.bool ng,.string n,.slice sa sl sc,.slice ao nk cap]] w0 W base g (P):=by
 have HS:Hid (Sn w0 W base g W.heap.size #[.int .i64 k,.int .i64 m,.int .i64 a,.int .i64 b,.bool ng,.string n,.slice sa sl sc,.slice ao nk cap] s (W.alloc (.cells #[.int .i64 k,.int .i64 m,.int .i64 a,.int .i64 b,.bool ng,.string n,.slice sa sl sc,.slice ao nk cap] 26))):=Sn.start c _
 have HO:Hid (∀W',Sn w0 W base g W.heap.size #[.int .i64 k,.int .i64 m,.int .i64 a,.int .i64 b,.bool ng,.string n,.slice sa sl sc,.slice ao nk cap] s W'→Calls Tryz.prog 67 #[.agg #[.int .i64 k,.int .i64 m,.int .i64 a,.int .i64 b,.bool ng,.string n,.slice sa sl sc,.slice ao nk cap]] W' fun e w'=>e=.returned (.bool false)∧Sn w0 W base g W.heap.size #[.int .i64 k,.int .i64 m,.int .i64 a,.int .i64 b,.bool ng,.string n,.slice sa sl sc,.slice ao nk cap] s w'):=fun W' S=>dY S (k) (m) (a) (b) (ng) (n) st ks sa sl sc ao nk cap hsl hnk _ ho
 unfold Met
 clear c
 go_enter Tryz.func158,Tryz.ntmps158
 go_wp2_with(first
  |(go_at_call 67;refine(HO.out _ HS.out).mono ?_;rintro e w1⟨rfl,d⟩;have bV:=gM d;clear d))
 go_ret
 exact aA (hP) bV.out.kt
theorem xq{w0 W:World}{base g:Nat}{s:Wr}(c:Cx w0 W base g s)(k m a b:Int)(ng:Bool)(n:ByteArray)(sa:Option Addr)(sl sc:Nat)(ao:Option Addr)(nk cap:Nat)(st:List R)(ks:List Nd)(hsl:st.length=sl)(hnk:ks.length=nk)(ho:othersZ (.mk k m a b ng n st ks)=true)(P:Option Wr)(hP:P=none)(k1:(k==1)=false)(k4:(k==4)=false)(k5:(k==5)=false)(k3:(k==3)=false):Met 158 #[.pointer (some ⟨g,0,none⟩),.agg #[.int .i64 k,.int .i64 m,.int .i64 a,.int .i64 b,.bool ng,.string n,.slice sa sl sc,.slice ao nk cap]] w0 W base g (P):=by
 have HS:Hid (Sn w0 W base g W.heap.size #[.int .i64 k,.int .i64 m,.int .i64 a,.int .i64 b,.bool ng,.string n,.slice sa sl sc,.slice ao nk cap] s (W.alloc (.cells #[.int .i64 k,.int .i64 m,.int .i64 a,.int .i64 b,.bool ng,.string n,.slice sa sl sc,.slice ao nk cap] 26))):=Sn.start c _
 have HO:Hid (∀W',Sn w0 W base g W.heap.size #[.int .i64 k,.int .i64 m,.int .i64 a,.int .i64 b,.bool ng,.string n,.slice sa sl sc,.slice ao nk cap] s W'→Calls Tryz.prog 67 #[.agg #[.int .i64 k,.int .i64 m,.int .i64 a,.int .i64 b,.bool ng,.string n,.slice sa sl sc,.slice ao nk cap]] W' fun e w'=>e=.returned (.bool true)∧Sn w0 W base g W.heap.size #[.int .i64 k,.int .i64 m,.int .i64 a,.int .i64 b,.bool ng,.string n,.slice sa sl sc,.slice ao nk cap] s w'):=fun W' S=>dY S (k) (m) (a) (b) (ng) (n) st ks sa sl sc ao nk cap hsl hnk _ ho
 unfold Met
 clear c
 go_enter Tryz.func158,Tryz.ntmps158
 go_wp2_with(first
  |(go_at_call 67;refine(HO.out _ HS.out).mono ?_;rintro e w1⟨rfl,d⟩;have bV:=gM d;have x0:=d.bk.cell 0 (u:=.int .i64 k) rfl;have x1:=d.bk.cell 1 (u:=.int .i64 m) rfl;have x2:=d.bk.cell 2 (u:=.int .i64 a) rfl;have x3:=d.bk.cell 3 (u:=.int .i64 b) rfl;have x4:=d.bk.cell 4 (u:=.bool ng) rfl;have x5:=d.bk.cell 5 (u:=.string n) rfl;have x6:=d.bk.cell 6 (u:=.slice sa sl sc) rfl;have x7:=d.bk.cell 7 (u:=.slice ao nk cap) rfl;clear d))
 go_ret
 exact aA (hP) bV.out.kt
theorem J8{w0 W:World}{base g:Nat}{s:Wr}(c:Cx w0 W base g s)(m a b:Int)(ng:Bool)(n:ByteArray)(sa:Option Addr)(sl sc:Nat)(ao:Option Addr)(nk cap:Nat)(st:List R)(ks:List Nd)(hsl:st.length=sl)(hnk:ks.length=nk)(ho:othersZ (.mk 1 m a b ng n st ks)=true)(hsz:(TX (ak a true)).size≤9223372036854775807):Met 158 #[.pointer (some ⟨g,0,none⟩),.agg #[.int .i64 1,.int .i64 m,.int .i64 a,.int .i64 b,.bool ng,.string n,.slice sa sl sc,.slice ao nk cap]] w0 W base g (aN s (TX (ak a true))):=by
 have HS:Hid (Sn w0 W base g W.heap.size #[.int .i64 1,.int .i64 m,.int .i64 a,.int .i64 b,.bool ng,.string n,.slice sa sl sc,.slice ao nk cap] s (W.alloc (.cells #[.int .i64 1,.int .i64 m,.int .i64 a,.int .i64 b,.bool ng,.string n,.slice sa sl sc,.slice ao nk cap] 26))):=Sn.start c _
 have HO:Hid (∀W',Sn w0 W base g W.heap.size #[.int .i64 1,.int .i64 m,.int .i64 a,.int .i64 b,.bool ng,.string n,.slice sa sl sc,.slice ao nk cap] s W'→Calls Tryz.prog 67 #[.agg #[.int .i64 1,.int .i64 m,.int .i64 a,.int .i64 b,.bool ng,.string n,.slice sa sl sc,.slice ao nk cap]] W' fun e w'=>e=.returned (.bool true)∧Sn w0 W base g W.heap.size #[.int .i64 1,.int .i64 m,.int .i64 a,.int .i64 b,.bool ng,.string n,.slice sa sl sc,.slice ao nk cap] s w'):=fun W' S=>dY S (1) (m) (a) (b) (ng) (n) st ks sa sl sc ao nk cap hsl hnk _ ho
 have HQ:Hid (∀W',Sn w0 W base g W.heap.size #[.int .i64 1,.int .i64 m,.int .i64 a,.int .i64 b,.bool ng,.string n,.slice sa sl sc,.slice ao nk cap] s W'→Calls Tryz.prog 86 #[.int .i64 a,.bool true] W' fun e w'=>e=.returned (.string (TX (ak a true)))∧Sn w0 W base g W.heap.size #[.int .i64 1,.int .i64 m,.int .i64 a,.int .i64 b,.bool ng,.string n,.slice sa sl sc,.slice ao nk cap] s w'):=fun W' S=>quiet_of S (tok.mo a true W' S.cx.c.penv)
 have HP:Hid (∀W',Sn w0 W base g W.heap.size #[.int .i64 1,.int .i64 m,.int .i64 a,.int .i64 b,.bool ng,.string n,.slice sa sl sc,.slice ao nk cap] s W'→Calls Tryz.prog 69 #[.pointer (some ⟨g,0,none⟩),.string (TX (ak a true))] W' fun e w'=>e=.returned (.bool (aN s (TX (ak a true))).isSome)∧(∀s',aN s (TX (ak a true))=some s'→Cx w0 w' base g s')∧Kt base W w'):=fun W' S=>Met.sn (dX S.cx _ hsz) S
 unfold Met
 generalize aN s (TX (ak a true))=P at*
 generalize TX (ak a true)=T at*
 clear c
 go_enter Tryz.func158,Tryz.ntmps158
 go_wp2_with(first
  |(go_at_call 67;refine(HO.out _ HS.out).mono ?_;rintro e w1⟨rfl,d⟩;have bV:=gM d;have x0:=d.bk.cell 0 (u:=.int .i64 1) rfl;have x1:=d.bk.cell 1 (u:=.int .i64 m) rfl;have x2:=d.bk.cell 2 (u:=.int .i64 a) rfl;have x3:=d.bk.cell 3 (u:=.int .i64 b) rfl;have x4:=d.bk.cell 4 (u:=.bool ng) rfl;have x5:=d.bk.cell 5 (u:=.string n) rfl;have x6:=d.bk.cell 6 (u:=.slice sa sl sc) rfl;have x7:=d.bk.cell 7 (u:=.slice ao nk cap) rfl;clear d)
  |(go_at_call 86;refine(HQ.out _ bV.out).mono ?_;rintro e w2⟨rfl,d⟩;have HS2:=gM d;clear d)
  |(go_at_call 69;refine(HP.out _ HS2.out).mono ?_;rintro e w9⟨rfl,d1,d2⟩;have HT1:Hid (∀s',_=some s'→Cx w0 w9 base g s'):=d1;have HT2:Hid (Kt base W w9):=d2;clear d1 d2))
 go_ret
 exact⟨ag (by first|rfl|simp),HT1.out,HT2.out⟩
theorem J5{w0 W:World}{base g:Nat}{s:Wr}(c:Cx w0 W base g s)(m a b:Int)(ng:Bool)(n:ByteArray)(sa:Option Addr)(sl sc:Nat)(ao:Option Addr)(nk cap:Nat)(st:List R)(ks:List Nd)(hsl:st.length=sl)(hnk:ks.length=nk)(ho:othersZ (.mk 5 m a b ng n st ks)=true)(hn:n.size≤140737488355327):Met 158 #[.pointer (some ⟨g,0,none⟩),.agg #[.int .i64 5,.int .i64 m,.int .i64 a,.int .i64 b,.bool ng,.string n,.slice sa sl sc,.slice ao nk cap]] w0 W base g (iD s n ng):=by
 have HS:Hid (Sn w0 W base g W.heap.size #[.int .i64 5,.int .i64 m,.int .i64 a,.int .i64 b,.bool ng,.string n,.slice sa sl sc,.slice ao nk cap] s (W.alloc (.cells #[.int .i64 5,.int .i64 m,.int .i64 a,.int .i64 b,.bool ng,.string n,.slice sa sl sc,.slice ao nk cap] 26))):=Sn.start c _
 have HO:Hid (∀W',Sn w0 W base g W.heap.size #[.int .i64 5,.int .i64 m,.int .i64 a,.int .i64 b,.bool ng,.string n,.slice sa sl sc,.slice ao nk cap] s W'→Calls Tryz.prog 67 #[.agg #[.int .i64 5,.int .i64 m,.int .i64 a,.int .i64 b,.bool ng,.string n,.slice sa sl sc,.slice ao nk cap]] W' fun e w'=>e=.returned (.bool true)∧Sn w0 W base g W.heap.size #[.int .i64 5,.int .i64 m,.int .i64 a,.int .i64 b,.bool ng,.string n,.slice sa sl sc,.slice ao nk cap] s w'):=fun W' S=>dY S (5) (m) (a) (b) (ng) (n) st ks sa sl sc ao nk cap hsl hnk _ ho
 have HP:Hid (∀W',Sn w0 W base g W.heap.size #[.int .i64 5,.int .i64 m,.int .i64 a,.int .i64 b,.bool ng,.string n,.slice sa sl sc,.slice ao nk cap] s W'→Calls Tryz.prog 88 #[.pointer (some ⟨g,0,none⟩),.agg #[.int .i64 5,.int .i64 m,.int .i64 a,.int .i64 b,.bool ng,.string n,.slice sa sl sc,.slice ao nk cap]] W' fun e w'=>e=.returned (.bool (iD s n ng).isSome)∧(∀s',iD s n ng=some s'→Cx w0 w' base g s')∧Kt base W w'):=fun W' S=>Met.sn (rT S.cx 5 m a b ng n sa sl sc ao nk cap hn) S
 unfold Met
 generalize iD s n ng=P at*
 clear c
 go_enter Tryz.func158,Tryz.ntmps158
 go_wp2_with(first
  |(go_at_call 67;refine(HO.out _ HS.out).mono ?_;rintro e w1⟨rfl,d⟩;have bV:=gM d;have x0:=d.bk.cell 0 (u:=.int .i64 5) rfl;have x1:=d.bk.cell 1 (u:=.int .i64 m) rfl;have x2:=d.bk.cell 2 (u:=.int .i64 a) rfl;have x3:=d.bk.cell 3 (u:=.int .i64 b) rfl;have x4:=d.bk.cell 4 (u:=.bool ng) rfl;have x5:=d.bk.cell 5 (u:=.string n) rfl;have x6:=d.bk.cell 6 (u:=.slice sa sl sc) rfl;have x7:=d.bk.cell 7 (u:=.slice ao nk cap) rfl;clear d)
  |(go_at_call 88;refine(HP.out _ bV.out).mono ?_;rintro e w9⟨rfl,d1,d2⟩;have HT1:Hid (∀s',_=some s'→Cx w0 w9 base g s'):=d1;have HT2:Hid (Kt base W w9):=d2;clear d1 d2))
 go_ret
 exact⟨ag (by first|rfl|simp),HT1.out,HT2.out⟩
theorem J7{w0 W:World}{base g:Nat}{s:Wr}(c:Cx w0 W base g s)(m a b:Int)(ng:Bool)(n:ByteArray)(sa:Option Addr)(sl sc:Nat)(ao:Option Addr)(nk cap:Nat)(st:List R)(ks:List Nd)(hsl:st.length=sl)(hnk:ks.length=nk)(ho:othersZ (.mk 3 m a b ng n st ks)=true)(Pc:Option Wr)(HC:∀W',Cx w0 W' base g s→Met 87 #[.pointer (some ⟨g,0,none⟩),.agg #[.int .i64 3,.int .i64 m,.int .i64 a,.int .i64 b,.bool ng,.string n,.slice sa sl sc,.slice ao nk cap]] w0 W' base g (Pc)):Met 158 #[.pointer (some ⟨g,0,none⟩),.agg #[.int .i64 3,.int .i64 m,.int .i64 a,.int .i64 b,.bool ng,.string n,.slice sa sl sc,.slice ao nk cap]] w0 W base g (Pc):=by
 have HS:Hid (Sn w0 W base g W.heap.size #[.int .i64 3,.int .i64 m,.int .i64 a,.int .i64 b,.bool ng,.string n,.slice sa sl sc,.slice ao nk cap] s (W.alloc (.cells #[.int .i64 3,.int .i64 m,.int .i64 a,.int .i64 b,.bool ng,.string n,.slice sa sl sc,.slice ao nk cap] 26))):=Sn.start c _
 have HO:Hid (∀W',Sn w0 W base g W.heap.size #[.int .i64 3,.int .i64 m,.int .i64 a,.int .i64 b,.bool ng,.string n,.slice sa sl sc,.slice ao nk cap] s W'→Calls Tryz.prog 67 #[.agg #[.int .i64 3,.int .i64 m,.int .i64 a,.int .i64 b,.bool ng,.string n,.slice sa sl sc,.slice ao nk cap]] W' fun e w'=>e=.returned (.bool true)∧Sn w0 W base g W.heap.size #[.int .i64 3,.int .i64 m,.int .i64 a,.int .i64 b,.bool ng,.string n,.slice sa sl sc,.slice ao nk cap] s w'):=fun W' S=>dY S (3) (m) (a) (b) (ng) (n) st ks sa sl sc ao nk cap hsl hnk _ ho
 have HP:Hid (∀W',Sn w0 W base g W.heap.size #[.int .i64 3,.int .i64 m,.int .i64 a,.int .i64 b,.bool ng,.string n,.slice sa sl sc,.slice ao nk cap] s W'→Calls Tryz.prog 87 #[.pointer (some ⟨g,0,none⟩),.agg #[.int .i64 3,.int .i64 m,.int .i64 a,.int .i64 b,.bool ng,.string n,.slice sa sl sc,.slice ao nk cap]] W' fun e w'=>e=.returned (.bool (Pc).isSome)∧(∀s',Pc=some s'→Cx w0 w' base g s')∧Kt base W w'):=fun W' S=>Met.sn (HC W' S.cx) S
 unfold Met
 generalize Pc=P at*
 clear c
 go_enter Tryz.func158,Tryz.ntmps158
 go_wp2_with(first
  |(go_at_call 67;refine(HO.out _ HS.out).mono ?_;rintro e w1⟨rfl,d⟩;have bV:=gM d;have x0:=d.bk.cell 0 (u:=.int .i64 3) rfl;have x1:=d.bk.cell 1 (u:=.int .i64 m) rfl;have x2:=d.bk.cell 2 (u:=.int .i64 a) rfl;have x3:=d.bk.cell 3 (u:=.int .i64 b) rfl;have x4:=d.bk.cell 4 (u:=.bool ng) rfl;have x5:=d.bk.cell 5 (u:=.string n) rfl;have x6:=d.bk.cell 6 (u:=.slice sa sl sc) rfl;have x7:=d.bk.cell 7 (u:=.slice ao nk cap) rfl;clear d)
  |(go_at_call 87;refine(HP.out _ bV.out).mono ?_;rintro e w9⟨rfl,d1,d2⟩;have HT1:Hid (∀s',_=some s'→Cx w0 w9 base g s'):=d1;have HT2:Hid (Kt base W w9):=d2;clear d1 d2))
 go_ret
 exact⟨ag (by first|rfl|simp),HT1.out,HT2.out⟩
theorem J6{w0 W:World}{base g:Nat}{s:Wr}(c:Cx w0 W base g s)(m a b:Int)(ng:Bool)(n:ByteArray)(sa:Option Addr)(sl sc:Nat)(ao:Option Addr)(nk cap:Nat)(st:List R)(ks:List Nd)(hsl:st.length=sl)(hnk:ks.length=nk)(ho:othersZ (.mk 4 m a b ng n st ks)=true)(hA:(TX (ak a true)).size≤9223372036854775807)(hB:(TX (ak b true)).size≤9223372036854775807):Met 158 #[.pointer (some ⟨g,0,none⟩),.agg #[.int .i64 4,.int .i64 m,.int .i64 a,.int .i64 b,.bool ng,.string n,.slice sa sl sc,.slice ao nk cap]] w0 W base g (pE s a b):=by
 have HS:Hid (Sn w0 W base g W.heap.size #[.int .i64 4,.int .i64 m,.int .i64 a,.int .i64 b,.bool ng,.string n,.slice sa sl sc,.slice ao nk cap] s (W.alloc (.cells #[.int .i64 4,.int .i64 m,.int .i64 a,.int .i64 b,.bool ng,.string n,.slice sa sl sc,.slice ao nk cap] 26))):=Sn.start c _
 have HO:Hid (∀W',Sn w0 W base g W.heap.size #[.int .i64 4,.int .i64 m,.int .i64 a,.int .i64 b,.bool ng,.string n,.slice sa sl sc,.slice ao nk cap] s W'→Calls Tryz.prog 67 #[.agg #[.int .i64 4,.int .i64 m,.int .i64 a,.int .i64 b,.bool ng,.string n,.slice sa sl sc,.slice ao nk cap]] W' fun e w'=>e=.returned (.bool true)∧Sn w0 W base g W.heap.size #[.int .i64 4,.int .i64 m,.int .i64 a,.int .i64 b,.bool ng,.string n,.slice sa sl sc,.slice ao nk cap] s w'):=fun W' S=>dY S (4) (m) (a) (b) (ng) (n) st ks sa sl sc ao nk cap hsl hnk _ ho
 unfold Met pE
 by_cases hab:a≤b
 ·rw[if_pos hab]
  have fab:decide (a≤b)=true:=decide_eq_true hab
  have HQ:Hid (∀W',Sn w0 W base g W.heap.size #[.int .i64 4,.int .i64 m,.int .i64 a,.int .i64 b,.bool ng,.string n,.slice sa sl sc,.slice ao nk cap] s W'→Calls Tryz.prog 86 #[.int .i64 a,.bool true] W' fun e w'=>e=.returned (.string (TX (ak a true)))∧Sn w0 W base g W.heap.size #[.int .i64 4,.int .i64 m,.int .i64 a,.int .i64 b,.bool ng,.string n,.slice sa sl sc,.slice ao nk cap] s w'):=fun W' S=>quiet_of S (tok.mo a true W' S.cx.c.penv)
  cases h1:aN s (TX (ak a true))with
  |none=>
   have HP:Hid (∀W',Sn w0 W base g W.heap.size #[.int .i64 4,.int .i64 m,.int .i64 a,.int .i64 b,.bool ng,.string n,.slice sa sl sc,.slice ao nk cap] s W'→Calls Tryz.prog 69 #[.pointer (some ⟨g,0,none⟩),.string (TX (ak a true))] W' fun e w'=>e=.returned (.bool false)∧Kt base W w'):=fun W' S=>Met.nV (dX S.cx _ hA) h1 S
   clear c h1 hab
   generalize TX (ak a true)=T at*
   go_enter Tryz.func158,Tryz.ntmps158
   go_wp2_with(first
    |(go_at_call 67;refine(HO.out _ HS.out).mono ?_;rintro e w1⟨rfl,d⟩;have bV:=gM d;have x0:=d.bk.cell 0 (u:=.int .i64 4) rfl;have x1:=d.bk.cell 1 (u:=.int .i64 m) rfl;have x2:=d.bk.cell 2 (u:=.int .i64 a) rfl;have x3:=d.bk.cell 3 (u:=.int .i64 b) rfl;have x4:=d.bk.cell 4 (u:=.bool ng) rfl;have x5:=d.bk.cell 5 (u:=.string n) rfl;have x6:=d.bk.cell 6 (u:=.slice sa sl sc) rfl;have x7:=d.bk.cell 7 (u:=.slice ao nk cap) rfl;clear d)
    |(go_at_call_of 86(Value.int IntKind.i64 a);refine(HQ.out _ bV.out).mono ?_;rintro e w2⟨rfl,d⟩;have HS2:=gM d;have x0:=d.bk.cell 0 (u:=.int .i64 4) rfl;have x1:=d.bk.cell 1 (u:=.int .i64 m) rfl;have x2:=d.bk.cell 2 (u:=.int .i64 a) rfl;have x3:=d.bk.cell 3 (u:=.int .i64 b) rfl;have x4:=d.bk.cell 4 (u:=.bool ng) rfl;have x5:=d.bk.cell 5 (u:=.string n) rfl;have x6:=d.bk.cell 6 (u:=.slice sa sl sc) rfl;have x7:=d.bk.cell 7 (u:=.slice ao nk cap) rfl;clear d)
    |(go_at_call 69;refine(HP.out _ HS2.out).mono ?_;rintro e w3⟨rfl,d⟩;have HZ:Hid (Kt base W w3):=d;clear d))
   go_ret
   exact aA (rfl) HZ.out
  |some s1=>
   simp only[Option.bind_some]
   have HP:Hid (∀W',Sn w0 W base g W.heap.size #[.int .i64 4,.int .i64 m,.int .i64 a,.int .i64 b,.bool ng,.string n,.slice sa sl sc,.slice ao nk cap] s W'→Calls Tryz.prog 69 #[.pointer (some ⟨g,0,none⟩),.string (TX (ak a true))] W' fun e w'=>e=.returned (.bool true)∧Sn w0 W base g W.heap.size #[.int .i64 4,.int .i64 m,.int .i64 a,.int .i64 b,.bool ng,.string n,.slice sa sl sc,.slice ao nk cap] s1 w'):=fun W' S=>Met.nU (dX S.cx _ hA) h1 S
   cases h2:aN s1 ⟨#[45]⟩with
   |none=>
    have qj:Hid (∀W',Sn w0 W base g W.heap.size #[.int .i64 4,.int .i64 m,.int .i64 a,.int .i64 b,.bool ng,.string n,.slice sa sl sc,.slice ao nk cap] s1 W'→Calls Tryz.prog 69 #[.pointer (some ⟨g,0,none⟩),.string ⟨#[45]⟩] W' fun e w'=>e=.returned (.bool false)∧Kt base W w'):=fun W' S=>Met.nV (dX S.cx _ (by decide)) h2 S
    clear c h1 h2 hab
    generalize TX (ak a true)=T at*
    go_enter Tryz.func158,Tryz.ntmps158
    go_wp2_with(first
     |(go_at_call 67;refine(HO.out _ HS.out).mono ?_;rintro e w1⟨rfl,d⟩;have bV:=gM d;have x0:=d.bk.cell 0 (u:=.int .i64 4) rfl;have x1:=d.bk.cell 1 (u:=.int .i64 m) rfl;have x2:=d.bk.cell 2 (u:=.int .i64 a) rfl;have x3:=d.bk.cell 3 (u:=.int .i64 b) rfl;have x4:=d.bk.cell 4 (u:=.bool ng) rfl;have x5:=d.bk.cell 5 (u:=.string n) rfl;have x6:=d.bk.cell 6 (u:=.slice sa sl sc) rfl;have x7:=d.bk.cell 7 (u:=.slice ao nk cap) rfl;clear d)
     |(go_at_call_of 86(Value.int IntKind.i64 a);refine(HQ.out _ bV.out).mono ?_;rintro e w2⟨rfl,d⟩;have HS2:=gM d;have x0:=d.bk.cell 0 (u:=.int .i64 4) rfl;have x1:=d.bk.cell 1 (u:=.int .i64 m) rfl;have x2:=d.bk.cell 2 (u:=.int .i64 a) rfl;have x3:=d.bk.cell 3 (u:=.int .i64 b) rfl;have x4:=d.bk.cell 4 (u:=.bool ng) rfl;have x5:=d.bk.cell 5 (u:=.string n) rfl;have x6:=d.bk.cell 6 (u:=.slice sa sl sc) rfl;have x7:=d.bk.cell 7 (u:=.slice ao nk cap) rfl;clear d)
     |(go_at_call_of 69(Value.string T);refine(HP.out _ HS2.out).mono ?_;rintro e w3⟨rfl,d⟩;have HS3:=gM d;have x0:=d.bk.cell 0 (u:=.int .i64 4) rfl;have x1:=d.bk.cell 1 (u:=.int .i64 m) rfl;have x2:=d.bk.cell 2 (u:=.int .i64 a) rfl;have x3:=d.bk.cell 3 (u:=.int .i64 b) rfl;have x4:=d.bk.cell 4 (u:=.bool ng) rfl;have x5:=d.bk.cell 5 (u:=.string n) rfl;have x6:=d.bk.cell 6 (u:=.slice sa sl sc) rfl;have x7:=d.bk.cell 7 (u:=.slice ao nk cap) rfl;clear d)
     |(go_at_call 69;refine(qj.out _ HS3.out).mono ?_;rintro e w4⟨rfl,d⟩;have HZ:Hid (Kt base W w4):=d;clear d))
    go_ret
    exact aA (rfl) HZ.out
   |some s2=>
    simp only[Option.bind_some]
    have qj:Hid (∀W',Sn w0 W base g W.heap.size #[.int .i64 4,.int .i64 m,.int .i64 a,.int .i64 b,.bool ng,.string n,.slice sa sl sc,.slice ao nk cap] s1 W'→Calls Tryz.prog 69 #[.pointer (some ⟨g,0,none⟩),.string ⟨#[45]⟩] W' fun e w'=>e=.returned (.bool true)∧Sn w0 W base g W.heap.size #[.int .i64 4,.int .i64 m,.int .i64 a,.int .i64 b,.bool ng,.string n,.slice sa sl sc,.slice ao nk cap] s2 w'):=fun W' S=>Met.nU (dX S.cx _ (by decide)) h2 S
    have jv:Hid (∀W',Sn w0 W base g W.heap.size #[.int .i64 4,.int .i64 m,.int .i64 a,.int .i64 b,.bool ng,.string n,.slice sa sl sc,.slice ao nk cap] s2 W'→Calls Tryz.prog 86 #[.int .i64 b,.bool true] W' fun e w'=>e=.returned (.string (TX (ak b true)))∧Sn w0 W base g W.heap.size #[.int .i64 4,.int .i64 m,.int .i64 a,.int .i64 b,.bool ng,.string n,.slice sa sl sc,.slice ao nk cap] s2 w'):=fun W' S=>quiet_of S (tok.mo b true W' S.cx.c.penv)
    have HP3:Hid (∀W',Sn w0 W base g W.heap.size #[.int .i64 4,.int .i64 m,.int .i64 a,.int .i64 b,.bool ng,.string n,.slice sa sl sc,.slice ao nk cap] s2 W'→Calls Tryz.prog 69 #[.pointer (some ⟨g,0,none⟩),.string (TX (ak b true))] W' fun e w'=>e=.returned (.bool (aN s2 (TX (ak b true))).isSome)∧(∀s',aN s2 (TX (ak b true))=some s'→Cx w0 w' base g s')∧Kt base W w'):=fun W' S=>Met.sn (dX S.cx _ hB) S
    generalize aN s2 (TX (ak b true))=P at*
    clear c h1 h2 hab
    generalize TX (ak a true)=T at*
    generalize TX (ak b true)=T2 at*
    go_enter Tryz.func158,Tryz.ntmps158
    go_wp2_with(first
     |(go_at_call 67;refine(HO.out _ HS.out).mono ?_;rintro e w1⟨rfl,d⟩;have bV:=gM d;have x0:=d.bk.cell 0 (u:=.int .i64 4) rfl;have x1:=d.bk.cell 1 (u:=.int .i64 m) rfl;have x2:=d.bk.cell 2 (u:=.int .i64 a) rfl;have x3:=d.bk.cell 3 (u:=.int .i64 b) rfl;have x4:=d.bk.cell 4 (u:=.bool ng) rfl;have x5:=d.bk.cell 5 (u:=.string n) rfl;have x6:=d.bk.cell 6 (u:=.slice sa sl sc) rfl;have x7:=d.bk.cell 7 (u:=.slice ao nk cap) rfl;clear d)
     |(go_at_call_of 86(Value.int IntKind.i64 a);refine(HQ.out _ bV.out).mono ?_;rintro e w2⟨rfl,d⟩;have HS2:=gM d;have x0:=d.bk.cell 0 (u:=.int .i64 4) rfl;have x1:=d.bk.cell 1 (u:=.int .i64 m) rfl;have x2:=d.bk.cell 2 (u:=.int .i64 a) rfl;have x3:=d.bk.cell 3 (u:=.int .i64 b) rfl;have x4:=d.bk.cell 4 (u:=.bool ng) rfl;have x5:=d.bk.cell 5 (u:=.string n) rfl;have x6:=d.bk.cell 6 (u:=.slice sa sl sc) rfl;have x7:=d.bk.cell 7 (u:=.slice ao nk cap) rfl;clear d)
     |(go_at_call_of 69(Value.string T);refine(HP.out _ HS2.out).mono ?_;rintro e w3⟨rfl,d⟩;have HS3:=gM d;have x0:=d.bk.cell 0 (u:=.int .i64 4) rfl;have x1:=d.bk.cell 1 (u:=.int .i64 m) rfl;have x2:=d.bk.cell 2 (u:=.int .i64 a) rfl;have x3:=d.bk.cell 3 (u:=.int .i64 b) rfl;have x4:=d.bk.cell 4 (u:=.bool ng) rfl;have x5:=d.bk.cell 5 (u:=.string n) rfl;have x6:=d.bk.cell 6 (u:=.slice sa sl sc) rfl;have x7:=d.bk.cell 7 (u:=.slice ao nk cap) rfl;clear d)
     |(go_at_call 86;refine(jv.out _ yA.out).mono ?_;rintro e w5⟨rfl,d⟩;have nO:=gM d;clear d)
     |(go_at_call_of 69(Value.string T2);refine(HP3.out _ nO.out).mono ?_;rintro e w9⟨rfl,d1,d2⟩;have HT1:Hid (∀s',_=some s'→Cx w0 w9 base g s'):=d1;have HT2:Hid (Kt base W w9):=d2;clear d1 d2)
     |(go_at_call 69;refine(qj.out _ HS3.out).mono ?_;rintro e w4⟨rfl,d⟩;have yA:=gM d;have x0:=d.bk.cell 0 (u:=.int .i64 4) rfl;have x1:=d.bk.cell 1 (u:=.int .i64 m) rfl;have x2:=d.bk.cell 2 (u:=.int .i64 a) rfl;have x3:=d.bk.cell 3 (u:=.int .i64 b) rfl;have x4:=d.bk.cell 4 (u:=.bool ng) rfl;have x5:=d.bk.cell 5 (u:=.string n) rfl;have x6:=d.bk.cell 6 (u:=.slice sa sl sc) rfl;have x7:=d.bk.cell 7 (u:=.slice ao nk cap) rfl;clear d))
    go_ret
    exact⟨ag (by first|rfl|simp),HT1.out,HT2.out⟩
 ·rw[if_neg hab]
  have fab:decide (a≤b)=false:=decide_eq_false hab
  clear c hab
  go_enter Tryz.func158,Tryz.ntmps158
  go_wp2_with(first
   |(go_at_call 67;refine(HO.out _ HS.out).mono ?_;rintro e w1⟨rfl,d⟩;have bV:=gM d;have x0:=d.bk.cell 0 (u:=.int .i64 4) rfl;have x1:=d.bk.cell 1 (u:=.int .i64 m) rfl;have x2:=d.bk.cell 2 (u:=.int .i64 a) rfl;have x3:=d.bk.cell 3 (u:=.int .i64 b) rfl;have x4:=d.bk.cell 4 (u:=.bool ng) rfl;have x5:=d.bk.cell 5 (u:=.string n) rfl;have x6:=d.bk.cell 6 (u:=.slice sa sl sc) rfl;have x7:=d.bk.cell 7 (u:=.slice ao nk cap) rfl;clear d))
  go_ret
  exact aA (rfl) bV.out.kt
end Go.Proofs.YtgbkolonhddolaaGreatDoor.tre
