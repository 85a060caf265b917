import Derived.Test.YtgbkolonhddolaaGreatDoorBpTre3
import Derived.Test.YtgbkolonhddolaaGreatDoorBpTre8
set_option linter.unusedSimpArgs false
set_option linter.unusedVariables false
set_option maxRecDepth 10000
set_option maxHeartbeats 2000000
theorem Go.Proofs.YtgbkolonhddolaaGreatDoor.uB{p:Prop}(h:p):Go.RowKit.Hid p:=h
namespace Go.Proofs.YtgbkolonhddolaaGreatDoor.tre
open Go.RowKit nod
open rng(R RV aH ag below_drewN info_parts own_below')
open tok(PEnv TX ak)
theorem Bo(W:World)(l:List ByteArray):TV (W.alloc (.cells (l.map Value.string).toArray 9)) (some ⟨W.heap.size,0,none⟩) l:=
 ⟨_,_,rfl,fun i t hi=>by
  rw[Nat.zero_add]
  exact(Bk.new W _ _).cell i (by simp[hi])⟩
theorem Gm(m:Int)(W:World):Calls Tryz.prog 92 #[.int .i64 m,.slice (some ⟨W.heap.size,0,none⟩) 3 3] (W.alloc (.cells #[.string ByteArray.empty,.string ⟨#[63]⟩,.string ⟨#[43]⟩] 9)) fun e w'=>e=.returned (.string (aV m dR))∧(W.alloc (.cells #[.string ByteArray.empty,.string ⟨#[63]⟩,.string ⟨#[43]⟩] 9))=w':=
 (nS m _ 3 dR _ (Bo W dR) (by decide)).mono fun e w'⟨h1,h2⟩=>⟨h1,h2.symm⟩
theorem Ci(m:Int):(aV m dR).size≤1:=by
 unfold aV
 split
 ·decide
 ·match m.toNat with
  |0=>decide
  |1=>decide
  |2=>decide
  |k+3=>rw[List.getElem?_eq_none (by simp[dR])];decide
theorem Bt(a b:Int):(bF a b).size≤9:=by
 unfold bF
 by_cases h0:a<0∨(b≠-1∧b<a)∨100<max a b
 ·rw[if_pos h0];decide
 rw[if_neg h0]
 have ha:=ja a (by omega) (by omega)
 split;·decide
 split;·decide
 split;·decide
 split
 ·rw[ByteArray.size_append,ByteArray.size_append];show 1+(dec a).size+1≤9;omega
 split
 ·rw[ByteArray.size_append,ByteArray.size_append];show 1+(dec a).size+2≤9;omega
 ·have hb:=ja b (by omega) (by omega)
  rw[ByteArray.size_append,ByteArray.size_append,ByteArray.size_append,ByteArray.size_append];show 1+(dec a).size+1+(dec b).size+1≤9;omega
theorem pw_of{w0 W:World}{base g:Nat}{s:Wr}(c:Cx w0 W base g s)(h:Pw w0):Pw W:=h.on (c.c.hb▸c.c.bel)
theorem BP{w0 W:World}{base g:Nat}{s:Wr}(c:Cx w0 W base g s)(k m a b:Int)(ng:Bool)(n:ByteArray)(sa:Option Addr)(sl sc:Nat)(ao:Option Addr)(nk cap:Nat)(hk:¬(nk:Int)=1)(hk2:¬nk=1):Met 89 #[.pointer (some ⟨g,0,none⟩),.agg #[.int .i64 k,.int .i64 m,.int .i64 a,.int .i64 b,.bool ng,.string n,.slice sa sl sc,.slice ao nk cap]] w0 W base g (none):=by
 have HS:Hid (Sn w0 W base g W.heap.size #[.int .i64 k,.int .i64 m,.int .i64 a,.int .i64 b,.bool ng,.string n,.slice sa sl sc,.slice ao nk cap] s (W.alloc (.cells #[.int .i64 k,.int .i64 m,.int .i64 a,.int .i64 b,.bool ng,.string n,.slice sa sl sc,.slice ao nk cap] 26))):=Sn.start c _
 unfold Met
 clear c
 go_enter Tryz.func89,Tryz.ntmps89
 go_wp2
 go_ret
 exact aA (rfl) HS.out.kt
theorem BO{w0 W:World}{base g:Nat}{s:Wr}(c:Cx w0 W base g s)(k m a b:Int)(ng:Bool)(n:ByteArray)(sa:Option Addr)(sl sc:Nat)(kb ko cap:Nat)(hcap:1≤cap)(kk:Int)(c1 c2 c3 c4 c5 c6 c7:Value)(HA:Hid (nE w0 kb ko (.agg #[.int .i64 kk,c1,c2,c3,c4,c5,c6,c7])))(hkb:kb<base)(hr:repB kk=false∨m<0∨2<m):Met 89 #[.pointer (some ⟨g,0,none⟩),.agg #[.int .i64 k,.int .i64 m,.int .i64 a,.int .i64 b,.bool ng,.string n,.slice sa sl sc,.slice (some ⟨kb,ko,none⟩) 1 cap]] w0 W base g (none):=by
 have HS:Hid (Sn w0 W base g W.heap.size #[.int .i64 k,.int .i64 m,.int .i64 a,.int .i64 b,.bool ng,.string n,.slice sa sl sc,.slice (some ⟨kb,ko,none⟩) 1 cap] s (W.alloc (.cells #[.int .i64 k,.int .i64 m,.int .i64 a,.int .i64 b,.bool ng,.string n,.slice sa sl sc,.slice (some ⟨kb,ko,none⟩) 1 cap] 26))):=Sn.start c _
 have hgb:=c.c.size
 obtain⟨k0,k1,k2,k3,k4,k5,k6,k7⟩:=HS.out.kid HA.out hkb
 have HR:Hid (∀W',Sn w0 W base g W.heap.size #[.int .i64 k,.int .i64 m,.int .i64 a,.int .i64 b,.bool ng,.string n,.slice sa sl sc,.slice (some ⟨kb,ko,none⟩) 1 cap] s W'→Calls Tryz.prog 117 #[.int .i64 kk] W' fun e w'=>e=.returned (.bool (repB kk))∧Sn w0 W base g W.heap.size #[.int .i64 k,.int .i64 m,.int .i64 a,.int .i64 b,.bool ng,.string n,.slice sa sl sc,.slice (some ⟨kb,ko,none⟩) 1 cap] s w'):=fun W' S=>yO S (fT kk W')
 unfold Met
 clear c
 cases hq:repB kk with
 |false=>
  rw[hq]at HR
  clear hr hq
  go_enter Tryz.func89,Tryz.ntmps89
  go_wp2_with(first
   |(go_at_call 117;refine(HR.out _ HS.out).mono ?_;rintro e w1⟨rfl,d⟩;have bV:=uB d;have x0:=d.bk.cell 0 (u:=.int .i64 k) rfl;have x1:=d.bk.cell 1 (u:=.int .i64 m) rfl;have x2:=d.bk.cell 2 (u:=.int .i64 a) rfl;have x3:=d.bk.cell 3 (u:=.int .i64 b) rfl;have x4:=d.bk.cell 4 (u:=.bool ng) rfl;have x5:=d.bk.cell 5 (u:=.string n) rfl;have x6:=d.bk.cell 6 (u:=.slice sa sl sc) rfl;have x7:=d.bk.cell 7 (u:=.slice (some ⟨kb,ko,none⟩) 1 cap) rfl;clear d))
  go_ret
  exact aA (rfl) bV.out.kt
 |true=>
  rw[hq]at HR
  by_cases h1:m<0
  ·have f1:decide (m<0)=true:=decide_eq_true h1
   clear hr hq
   go_enter Tryz.func89,Tryz.ntmps89
   go_wp2_with(first
    |(go_at_call 117;refine(HR.out _ HS.out).mono ?_;rintro e w1⟨rfl,d⟩;have bV:=uB d;have x0:=d.bk.cell 0 (u:=.int .i64 k) rfl;have x1:=d.bk.cell 1 (u:=.int .i64 m) rfl;have x2:=d.bk.cell 2 (u:=.int .i64 a) rfl;have x3:=d.bk.cell 3 (u:=.int .i64 b) rfl;have x4:=d.bk.cell 4 (u:=.bool ng) rfl;have x5:=d.bk.cell 5 (u:=.string n) rfl;have x6:=d.bk.cell 6 (u:=.slice sa sl sc) rfl;have x7:=d.bk.cell 7 (u:=.slice (some ⟨kb,ko,none⟩) 1 cap) rfl;clear d))
   go_ret
   exact aA (rfl) bV.out.kt
  ·have f1:decide (m<0)=false:=decide_eq_false h1
   have f2:decide (2<m)=true:=decide_eq_true (by rcases hr with h|h|h;simp[hq]at h;omega;exact h)
   clear hr hq
   go_enter Tryz.func89,Tryz.ntmps89
   go_wp2_with(first
    |(go_at_call 117;refine(HR.out _ HS.out).mono ?_;rintro e w1⟨rfl,d⟩;have bV:=uB d;have x0:=d.bk.cell 0 (u:=.int .i64 k) rfl;have x1:=d.bk.cell 1 (u:=.int .i64 m) rfl;have x2:=d.bk.cell 2 (u:=.int .i64 a) rfl;have x3:=d.bk.cell 3 (u:=.int .i64 b) rfl;have x4:=d.bk.cell 4 (u:=.bool ng) rfl;have x5:=d.bk.cell 5 (u:=.string n) rfl;have x6:=d.bk.cell 6 (u:=.slice sa sl sc) rfl;have x7:=d.bk.cell 7 (u:=.slice (some ⟨kb,ko,none⟩) 1 cap) rfl;clear d))
   go_ret
   exact aA (rfl) bV.out.kt
theorem JD{w0 W:World}{base g:Nat}{s:Wr}(c:Cx w0 W base g s)(k m a b:Int)(ng:Bool)(n:ByteArray)(sa:Option Addr)(sl sc:Nat)(kb ko cap:Nat)(hcap:1≤cap)(kk:Int)(c1 c2 c3 c4 c5 c6 c7:Value)(HA:Hid (nE w0 kb ko (.agg #[.int .i64 kk,c1,c2,c3,c4,c5,c6,c7])))(hkb:kb<base)(hr:repB kk=true)(h0:0≤m)(h2:m≤2)(ha:dQ a)(hb:dQ b)(hpw:Pw w0)(Pp:Wr→Option Wr)(HI:Hid (∀W' s',Cx w0 W' base g s'→Met 68 #[.pointer (some ⟨g,0,none⟩),.agg #[.int .i64 kk,c1,c2,c3,c4,c5,c6,c7]] w0 W' base g (Pp s'))):Met 89 #[.pointer (some ⟨g,0,none⟩),.agg #[.int .i64 k,.int .i64 m,.int .i64 a,.int .i64 b,.bool ng,.string n,.slice sa sl sc,.slice (some ⟨kb,ko,none⟩) 1 cap]] w0 W base g (if(bF a b).size=0 then none else(Pp s).bind fun s1=>aN s1 (bF a b++aV m dR)):=by
 have HS:Hid (Sn w0 W base g W.heap.size #[.int .i64 k,.int .i64 m,.int .i64 a,.int .i64 b,.bool ng,.string n,.slice sa sl sc,.slice (some ⟨kb,ko,none⟩) 1 cap] s (W.alloc (.cells #[.int .i64 k,.int .i64 m,.int .i64 a,.int .i64 b,.bool ng,.string n,.slice sa sl sc,.slice (some ⟨kb,ko,none⟩) 1 cap] 26))):=Sn.start c _
 have hgb:=c.c.size
 obtain⟨k0,k1,k2,k3,k4,k5,k6,k7⟩:=HS.out.kid HA.out hkb
 have HR:Hid (∀W',Sn w0 W base g W.heap.size #[.int .i64 k,.int .i64 m,.int .i64 a,.int .i64 b,.bool ng,.string n,.slice sa sl sc,.slice (some ⟨kb,ko,none⟩) 1 cap] s W'→Calls Tryz.prog 117 #[.int .i64 kk] W' fun e w'=>e=.returned (.bool (repB kk))∧Sn w0 W base g W.heap.size #[.int .i64 k,.int .i64 m,.int .i64 a,.int .i64 b,.bool ng,.string n,.slice sa sl sc,.slice (some ⟨kb,ko,none⟩) 1 cap] s w'):=fun W' S=>yO S (fT kk W')
 rw[hr]at HR
 have HTM:Hid (∀W',Sn w0 W base g W.heap.size #[.int .i64 k,.int .i64 m,.int .i64 a,.int .i64 b,.bool ng,.string n,.slice sa sl sc,.slice (some ⟨kb,ko,none⟩) 1 cap] s W'→Calls Tryz.prog 118 #[.int .i64 a,.int .i64 b] W' fun e w'=>e=.returned (.string (bF a b))∧Sn w0 W base g W.heap.size #[.int .i64 k,.int .i64 m,.int .i64 a,.int .i64 b,.bool ng,.string n,.slice sa sl sc,.slice (some ⟨kb,ko,none⟩) 1 cap] s w'):=fun W' S=>quiet_of S (Fh a b ha hb W' (pw_of S.cx hpw))
 unfold Met
 have f1:decide (m<0)=false:=decide_eq_false (by omega)
 have f2:decide (2<m)=false:=decide_eq_false (by omega)
 have hT:=Bt a b
 generalize bF a b=T at*
 by_cases z:T.size=0
 ·rw[if_pos z]
  have e1:T.toList.isEmpty=true:=lin.iY z
  clear c z HI hr
  go_enter Tryz.func89,Tryz.ntmps89
  go_wp2_with(first
   |(go_at_call 117;refine(HR.out _ HS.out).mono ?_;rintro e w1⟨rfl,d⟩;have bV:=uB d;have x0:=d.bk.cell 0 (u:=.int .i64 k) rfl;have x1:=d.bk.cell 1 (u:=.int .i64 m) rfl;have x2:=d.bk.cell 2 (u:=.int .i64 a) rfl;have x3:=d.bk.cell 3 (u:=.int .i64 b) rfl;have x4:=d.bk.cell 4 (u:=.bool ng) rfl;have x5:=d.bk.cell 5 (u:=.string n) rfl;have x6:=d.bk.cell 6 (u:=.slice sa sl sc) rfl;have x7:=d.bk.cell 7 (u:=.slice (some ⟨kb,ko,none⟩) 1 cap) rfl;obtain⟨k0,k1,k2,k3,k4,k5,k6,k7⟩:=d.kid HA.out hkb;clear d)
   |(go_at_call 118;refine(HTM.out _ bV.out).mono ?_;rintro e w2⟨rfl,d⟩;have HS2:=uB d;have x0:=d.bk.cell 0 (u:=.int .i64 k) rfl;have x1:=d.bk.cell 1 (u:=.int .i64 m) rfl;have x2:=d.bk.cell 2 (u:=.int .i64 a) rfl;have x3:=d.bk.cell 3 (u:=.int .i64 b) rfl;have x4:=d.bk.cell 4 (u:=.bool ng) rfl;have x5:=d.bk.cell 5 (u:=.string n) rfl;have x6:=d.bk.cell 6 (u:=.slice sa sl sc) rfl;have x7:=d.bk.cell 7 (u:=.slice (some ⟨kb,ko,none⟩) 1 cap) rfl;obtain⟨k0,k1,k2,k3,k4,k5,k6,k7⟩:=d.kid HA.out hkb;clear d))
  go_ret
  exact aA (rfl) HS2.out.kt
 rw[if_neg z]
 have e1:T.toList.isEmpty=false:=lin.ik z
 cases h1:Pp s with
 |none=>
  have HJ:Hid (∀W',Sn w0 W base g W.heap.size #[.int .i64 k,.int .i64 m,.int .i64 a,.int .i64 b,.bool ng,.string n,.slice sa sl sc,.slice (some ⟨kb,ko,none⟩) 1 cap] s W'→Calls Tryz.prog 68 #[.pointer (some ⟨g,0,none⟩),.agg #[.int .i64 kk,c1,c2,c3,c4,c5,c6,c7]] W' fun e w'=>e=.returned (.bool false)∧Kt base W w'):=fun W' S=>Met.nV (HI.out W' s S.cx) h1 S
  clear c h1 HI z hr
  go_enter Tryz.func89,Tryz.ntmps89
  go_wp2_with(first
   |(go_at_call 117;refine(HR.out _ HS.out).mono ?_;rintro e w1⟨rfl,d⟩;have bV:=uB d;have x0:=d.bk.cell 0 (u:=.int .i64 k) rfl;have x1:=d.bk.cell 1 (u:=.int .i64 m) rfl;have x2:=d.bk.cell 2 (u:=.int .i64 a) rfl;have x3:=d.bk.cell 3 (u:=.int .i64 b) rfl;have x4:=d.bk.cell 4 (u:=.bool ng) rfl;have x5:=d.bk.cell 5 (u:=.string n) rfl;have x6:=d.bk.cell 6 (u:=.slice sa sl sc) rfl;have x7:=d.bk.cell 7 (u:=.slice (some ⟨kb,ko,none⟩) 1 cap) rfl;obtain⟨k0,k1,k2,k3,k4,k5,k6,k7⟩:=d.kid HA.out hkb;clear d)
   |(go_at_call 118;refine(HTM.out _ bV.out).mono ?_;rintro e w2⟨rfl,d⟩;have HS2:=uB d;have x0:=d.bk.cell 0 (u:=.int .i64 k) rfl;have x1:=d.bk.cell 1 (u:=.int .i64 m) rfl;have x2:=d.bk.cell 2 (u:=.int .i64 a) rfl;have x3:=d.bk.cell 3 (u:=.int .i64 b) rfl;have x4:=d.bk.cell 4 (u:=.bool ng) rfl;have x5:=d.bk.cell 5 (u:=.string n) rfl;have x6:=d.bk.cell 6 (u:=.slice sa sl sc) rfl;have x7:=d.bk.cell 7 (u:=.slice (some ⟨kb,ko,none⟩) 1 cap) rfl;obtain⟨k0,k1,k2,k3,k4,k5,k6,k7⟩:=d.kid HA.out hkb;clear d)
   |(go_at_call 68;refine(HJ.out _ HS2.out).mono ?_;rintro e w3⟨rfl,d⟩;have HZ:Hid (Kt base W w3):=d;clear d))
  go_ret
  exact aA (rfl) HZ.out
 |some s1=>
  simp only[Option.bind_some]
  have HJ:Hid (∀W',Sn w0 W base g W.heap.size #[.int .i64 k,.int .i64 m,.int .i64 a,.int .i64 b,.bool ng,.string n,.slice sa sl sc,.slice (some ⟨kb,ko,none⟩) 1 cap] s W'→Calls Tryz.prog 68 #[.pointer (some ⟨g,0,none⟩),.agg #[.int .i64 kk,c1,c2,c3,c4,c5,c6,c7]] W' fun e w'=>e=.returned (.bool true)∧Sn w0 W base g W.heap.size #[.int .i64 k,.int .i64 m,.int .i64 a,.int .i64 b,.bool ng,.string n,.slice sa sl sc,.slice (some ⟨kb,ko,none⟩) 1 cap] s1 w'):=fun W' S=>Met.nU (HI.out W' s S.cx) h1 S
  have hU:=Ci m
  have HTX:Hid (∀W':World,Calls Tryz.prog 92 #[.int .i64 m,.slice (some ⟨W'.heap.size,0,none⟩) 3 3] (W'.alloc (.cells #[.string ByteArray.empty,.string ⟨#[63]⟩,.string ⟨#[43]⟩] 9)) fun e w'=>e=.returned (.string (aV m dR))∧(W'.alloc (.cells #[.string ByteArray.empty,.string ⟨#[63]⟩,.string ⟨#[43]⟩] 9))=w'):=fun W'=>Gm m W'
  generalize aV m dR=U at*
  obtain⟨V,hV⟩:∃V,T++U=V:=⟨_,rfl⟩
  have hVs:V.size≤10:=by rw[←hV,ByteArray.size_append];omega
  rw[hV]
  have HP:Hid (∀W',Sn w0 W base g W.heap.size #[.int .i64 k,.int .i64 m,.int .i64 a,.int .i64 b,.bool ng,.string n,.slice sa sl sc,.slice (some ⟨kb,ko,none⟩) 1 cap] s1 W'→Calls Tryz.prog 69 #[.pointer (some ⟨g,0,none⟩),.string V] W' fun e w'=>e=.returned (.bool (aN s1 V).isSome)∧(∀s',aN s1 V=some s'→Cx w0 w' base g s')∧Kt base W w'):=fun W' S=>Met.sn (dX S.cx _ (by omega)) S
  generalize aN s1 V=P at*
  clear c h1 HI z hr
  go_enter Tryz.func89,Tryz.ntmps89
  go_wp2_with(first
   |(go_at_call 117;refine(HR.out _ HS.out).mono ?_;rintro e w1⟨rfl,d⟩;have bV:=uB d;have x0:=d.bk.cell 0 (u:=.int .i64 k) rfl;have x1:=d.bk.cell 1 (u:=.int .i64 m) rfl;have x2:=d.bk.cell 2 (u:=.int .i64 a) rfl;have x3:=d.bk.cell 3 (u:=.int .i64 b) rfl;have x4:=d.bk.cell 4 (u:=.bool ng) rfl;have x5:=d.bk.cell 5 (u:=.string n) rfl;have x6:=d.bk.cell 6 (u:=.slice sa sl sc) rfl;have x7:=d.bk.cell 7 (u:=.slice (some ⟨kb,ko,none⟩) 1 cap) rfl;obtain⟨k0,k1,k2,k3,k4,k5,k6,k7⟩:=d.kid HA.out hkb;clear d)
   |(go_at_call 118;refine(HTM.out _ bV.out).mono ?_;rintro e w2⟨rfl,d⟩;have HS2:=uB d;have x0:=d.bk.cell 0 (u:=.int .i64 k) rfl;have x1:=d.bk.cell 1 (u:=.int .i64 m) rfl;have x2:=d.bk.cell 2 (u:=.int .i64 a) rfl;have x3:=d.bk.cell 3 (u:=.int .i64 b) rfl;have x4:=d.bk.cell 4 (u:=.bool ng) rfl;have x5:=d.bk.cell 5 (u:=.string n) rfl;have x6:=d.bk.cell 6 (u:=.slice sa sl sc) rfl;have x7:=d.bk.cell 7 (u:=.slice (some ⟨kb,ko,none⟩) 1 cap) rfl;obtain⟨k0,k1,k2,k3,k4,k5,k6,k7⟩:=d.kid HA.out hkb;clear d)
   |(go_at_call 68;refine(HJ.out _ HS2.out).mono ?_;rintro e w3⟨rfl,d⟩;have HS3:=uB d;have x0:=d.bk.cell 0 (u:=.int .i64 k) rfl;have x1:=d.bk.cell 1 (u:=.int .i64 m) rfl;have x2:=d.bk.cell 2 (u:=.int .i64 a) rfl;have x3:=d.bk.cell 3 (u:=.int .i64 b) rfl;have x4:=d.bk.cell 4 (u:=.bool ng) rfl;have x5:=d.bk.cell 5 (u:=.string n) rfl;have x6:=d.bk.cell 6 (u:=.slice sa sl sc) rfl;have x7:=d.bk.cell 7 (u:=.slice (some ⟨kb,ko,none⟩) 1 cap) rfl;clear d)
   |(go_at_call 92;refine(HTX.out _).mono ?_;rintro e w4⟨rfl,rfl⟩)
   |(go_at_call 69;refine(HP.out _ (HS3.out.quiet ((Below.refl _ w3).alloc (Nat.le_refl _) _))).mono ?_;rintro e w9⟨rfl,d1,d2⟩;have HT1:Hid (∀s',_=some s'→Cx w0 w9 base g s'):=d1;have HT2:Hid (Kt base W w9):=d2;clear d1 d2))
  go_ret
  exact⟨ag (by first|rfl|simp),HT1.out,HT2.out⟩
end Go.Proofs.YtgbkolonhddolaaGreatDoor.tre
