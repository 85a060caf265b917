import Derived.Test.YtbbeciofgnkggaaGreatDoorBqTok3
set_option linter.unusedSimpArgs false
set_option linter.unusedVariables false
set_option maxRecDepth 100000
set_option maxHeartbeats 8000000
namespace Go.Proofs.YtbbeciofgnkggaaGreatDoor.tok
open Go.RowKit
open lin(BA Turns)
theorem escOut_any(sb:Nat)(ao:Option Addr)(n cap:Nat)(f:Nat→Int)(a st k:Nat)(tv:Value)(w:World)(h:Sc w sb ao n cap f a st k tv)(r:Int):
  Calls Tryz.prog 142 #[.pointer (some ⟨sb,0,none⟩),.int .i64 r] w (End w sb ao n cap f st k tv Tk.val (escOut f n st r a)):=by
 rcases(show r=65∨r=122∨r=98∨r=66∨r=88∨r=107∨r=49∨r=50∨r=51∨r=52∨r=53∨r=54∨r=55∨r=56∨r=57∨(¬r=65∧¬r=122∧¬r=98∧¬r=66∧¬r=88∧¬r=107∧¬r=49∧¬r=50∧¬r=51∧¬r=52∧¬r=53∧¬r=54∧¬r=55∧¬r=56∧¬r=57)from by omega)with rfl|rfl|rfl|rfl|rfl|rfl|rfl|rfl|rfl|rfl|rfl|rfl|rfl|rfl|rfl|⟨n0,n1,n2,n3,n4,n5,n6,n7,n8,n9,n10,n11,n12,n13,n14⟩
 ·
  obtain⟨hlt,hgn,hgn',hgn2,S0,T0,G0⟩:=h.start
  obtain⟨R,hR,HR⟩:=hide (escOut f n st 65 a)
  rw[hR]
  clear hR
  go_enter Tryz.func142,Tryz.ntmps142
  obtain rfl:R=.ok (asrt 3) (a):=by rw[←HR.out];simp[escOut,bind_ok,bind_no]
  clear HR
  have C:=assertion_any 3 (w.alloc (.cells #[.int .i64 0,.int .i64 0,.int .i64 0,.int .i64 0,.string ⟨#[]⟩,.bool false,.int .i64 0,.int .i64 0] 97))
  go_wp2_with fail
  refine C.mono ?_
  rintro e w1⟨rfl,hb⟩
  clear C
  obtain⟨S1,T1,G1⟩:=nxt S0 T0 G0 hb
  clear hb S0 T0 G0
  rw[show(asrt 3).val=.agg #[.int .i64 7,.int .i64 3,.int .i64 (0),.int .i64 (0),.string ⟨#[]⟩,.bool false,.int .i64 (0),.int .i64 (0)]from rfl]
  obtain⟨⟨k0,k1,k2,k3,k4,k5,k6,k7⟩,⟨f0,f1,f2,f3,f4,f5,f6,f7⟩⟩:=blk8 G1
  go_wp2
  exact fin8 h S1 T1 Tryz.results142 G1 rfl rfl fun S T=>⟨rfl,S,T⟩
 ·
  obtain⟨hlt,hgn,hgn',hgn2,S0,T0,G0⟩:=h.start
  obtain⟨R,hR,HR⟩:=hide (escOut f n st 122 a)
  rw[hR]
  clear hR
  go_enter Tryz.func142,Tryz.ntmps142
  obtain rfl:R=.ok (asrt 4) (a):=by rw[←HR.out];simp[escOut,bind_ok,bind_no]
  clear HR
  have C:=assertion_any 4 (w.alloc (.cells #[.int .i64 0,.int .i64 0,.int .i64 0,.int .i64 0,.string ⟨#[]⟩,.bool false,.int .i64 0,.int .i64 0] 97))
  go_wp2_with fail
  refine C.mono ?_
  rintro e w1⟨rfl,hb⟩
  clear C
  obtain⟨S1,T1,G1⟩:=nxt S0 T0 G0 hb
  clear hb S0 T0 G0
  rw[show(asrt 4).val=.agg #[.int .i64 7,.int .i64 4,.int .i64 (0),.int .i64 (0),.string ⟨#[]⟩,.bool false,.int .i64 (0),.int .i64 (0)]from rfl]
  obtain⟨⟨k0,k1,k2,k3,k4,k5,k6,k7⟩,⟨f0,f1,f2,f3,f4,f5,f6,f7⟩⟩:=blk8 G1
  go_wp2
  exact fin8 h S1 T1 Tryz.results142 G1 rfl rfl fun S T=>⟨rfl,S,T⟩
 ·
  obtain⟨hlt,hgn,hgn',hgn2,S0,T0,G0⟩:=h.start
  obtain⟨R,hR,HR⟩:=hide (escOut f n st 98 a)
  rw[hR]
  clear hR
  go_enter Tryz.func142,Tryz.ntmps142
  have C:=edge_any sb ao n cap f a st k tv _ S0 5 7 9
  obtain⟨o,ho⟩:∃o,edge f n st 5 7 9 a=o:=⟨_,rfl⟩
  rw[ho]at C
  obtain rfl:R=o:=by rw[←HR.out,←ho];simp[escOut,bind_ok,bind_no]
  clear HR ho
  go_wp2_with fail
  refine C.mono ?_
  intro e w1 H
  clear C
  cases R with
  |no q p=>
   obtain⟨rfl,⟨a',k',S'⟩,T'⟩:=H
   have T'':=T0.trans T'
   go_wp2
   exact⟨rfl,rfl,⟨_,_,S'⟩,T''⟩
  |ok t a9=>
   obtain⟨rfl,S1,T'⟩:=H
   have T1:=T0.trans T'
   have G1:=Tn.blk T' G0 hgn
   clear T' S0 T0 G0
   obtain⟨t1,t2,t3,t4,t5,t6,t7,t8⟩:=t
   unfold Tk.val
   obtain⟨⟨k0,k1,k2,k3,k4,k5,k6,k7⟩,⟨f0,f1,f2,f3,f4,f5,f6,f7⟩⟩:=blk8 G1
   go_wp2
   exact fin8 h S1 T1 Tryz.results142 G1 rfl rfl fun S T=>⟨rfl,S,T⟩
 ·
  obtain⟨hlt,hgn,hgn',hgn2,S0,T0,G0⟩:=h.start
  obtain⟨R,hR,HR⟩:=hide (escOut f n st 66 a)
  rw[hR]
  clear hR
  go_enter Tryz.func142,Tryz.ntmps142
  have C:=edge_any sb ao n cap f a st k tv _ S0 6 8 10
  obtain⟨o,ho⟩:∃o,edge f n st 6 8 10 a=o:=⟨_,rfl⟩
  rw[ho]at C
  obtain rfl:R=o:=by rw[←HR.out,←ho];simp[escOut,bind_ok,bind_no]
  clear HR ho
  go_wp2_with fail
  refine C.mono ?_
  intro e w1 H
  clear C
  cases R with
  |no q p=>
   obtain⟨rfl,⟨a',k',S'⟩,T'⟩:=H
   have T'':=T0.trans T'
   go_wp2
   exact⟨rfl,rfl,⟨_,_,S'⟩,T''⟩
  |ok t a9=>
   obtain⟨rfl,S1,T'⟩:=H
   have T1:=T0.trans T'
   have G1:=Tn.blk T' G0 hgn
   clear T' S0 T0 G0
   obtain⟨t1,t2,t3,t4,t5,t6,t7,t8⟩:=t
   unfold Tk.val
   obtain⟨⟨k0,k1,k2,k3,k4,k5,k6,k7⟩,⟨f0,f1,f2,f3,f4,f5,f6,f7⟩⟩:=blk8 G1
   go_wp2
   exact fin8 h S1 T1 Tryz.results142 G1 rfl rfl fun S T=>⟨rfl,S,T⟩
 ·
  obtain⟨hlt,hgn,hgn',hgn2,S0,T0,G0⟩:=h.start
  obtain⟨R,hR,HR⟩:=hide (escOut f n st 88 a)
  rw[hR]
  clear hR
  go_enter Tryz.func142,Tryz.ntmps142
  obtain rfl:R=.ok (bare 10) (a):=by rw[←HR.out];simp[escOut,bind_ok,bind_no]
  clear HR
  go_wp2
  exact fin0 h Tryz.results142 rfl rfl fun S T=>⟨rfl,S,T⟩
 ·
  obtain⟨hlt,hgn,hgn',hgn2,S0,T0,G0⟩:=h.start
  obtain⟨R,hR,HR⟩:=hide (escOut f n st 107 a)
  rw[hR]
  clear hR
  go_enter Tryz.func142,Tryz.ntmps142
  have C:=back_any sb ao n cap f a st k tv _ S0
  obtain⟨o,ho⟩:∃o,back f n st a=o:=⟨_,rfl⟩
  rw[ho]at C
  obtain rfl:R=o:=by rw[←HR.out,←ho];simp[escOut,bind_ok,bind_no]
  clear HR ho
  go_wp2_with fail
  refine C.mono ?_
  intro e w1 H
  clear C
  cases R with
  |no q p=>
   obtain⟨rfl,⟨a',k',S'⟩,T'⟩:=H
   have T'':=T0.trans T'
   go_wp2
   exact⟨rfl,rfl,⟨_,_,S'⟩,T''⟩
  |ok t a9=>
   obtain⟨rfl,S1,T'⟩:=H
   have T1:=T0.trans T'
   have G1:=Tn.blk T' G0 hgn
   clear T' S0 T0 G0
   obtain⟨t1,t2,t3,t4,t5,t6,t7,t8⟩:=t
   unfold Tk.val
   obtain⟨⟨k0,k1,k2,k3,k4,k5,k6,k7⟩,⟨f0,f1,f2,f3,f4,f5,f6,f7⟩⟩:=blk8 G1
   go_wp2
   exact fin8 h S1 T1 Tryz.results142 G1 rfl rfl fun S T=>⟨rfl,S,T⟩
 ·
  obtain⟨hlt,hgn,hgn',hgn2,S0,T0,G0⟩:=h.start
  obtain⟨R,hR,HR⟩:=hide (escOut f n st 49 a)
  rw[hR]
  clear hR
  go_enter Tryz.func142,Tryz.ntmps142
  obtain rfl:R=.ok (⟨9,0,1,0,[],false,0,0⟩) (a):=by rw[←HR.out];simp[escOut,bind_ok,bind_no]
  clear HR
  go_wp2
  exact fin0 h Tryz.results142 rfl rfl fun S T=>⟨rfl,S,T⟩
 ·
  obtain⟨hlt,hgn,hgn',hgn2,S0,T0,G0⟩:=h.start
  obtain⟨R,hR,HR⟩:=hide (escOut f n st 50 a)
  rw[hR]
  clear hR
  go_enter Tryz.func142,Tryz.ntmps142
  obtain rfl:R=.ok (⟨9,0,2,0,[],false,0,0⟩) (a):=by rw[←HR.out];simp[escOut,bind_ok,bind_no]
  clear HR
  go_wp2
  exact fin0 h Tryz.results142 rfl rfl fun S T=>⟨rfl,S,T⟩
 ·
  obtain⟨hlt,hgn,hgn',hgn2,S0,T0,G0⟩:=h.start
  obtain⟨R,hR,HR⟩:=hide (escOut f n st 51 a)
  rw[hR]
  clear hR
  go_enter Tryz.func142,Tryz.ntmps142
  obtain rfl:R=.ok (⟨9,0,3,0,[],false,0,0⟩) (a):=by rw[←HR.out];simp[escOut,bind_ok,bind_no]
  clear HR
  go_wp2
  exact fin0 h Tryz.results142 rfl rfl fun S T=>⟨rfl,S,T⟩
 ·
  obtain⟨hlt,hgn,hgn',hgn2,S0,T0,G0⟩:=h.start
  obtain⟨R,hR,HR⟩:=hide (escOut f n st 52 a)
  rw[hR]
  clear hR
  go_enter Tryz.func142,Tryz.ntmps142
  obtain rfl:R=.ok (⟨9,0,4,0,[],false,0,0⟩) (a):=by rw[←HR.out];simp[escOut,bind_ok,bind_no]
  clear HR
  go_wp2
  exact fin0 h Tryz.results142 rfl rfl fun S T=>⟨rfl,S,T⟩
 ·
  obtain⟨hlt,hgn,hgn',hgn2,S0,T0,G0⟩:=h.start
  obtain⟨R,hR,HR⟩:=hide (escOut f n st 53 a)
  rw[hR]
  clear hR
  go_enter Tryz.func142,Tryz.ntmps142
  obtain rfl:R=.ok (⟨9,0,5,0,[],false,0,0⟩) (a):=by rw[←HR.out];simp[escOut,bind_ok,bind_no]
  clear HR
  go_wp2
  exact fin0 h Tryz.results142 rfl rfl fun S T=>⟨rfl,S,T⟩
 ·
  obtain⟨hlt,hgn,hgn',hgn2,S0,T0,G0⟩:=h.start
  obtain⟨R,hR,HR⟩:=hide (escOut f n st 54 a)
  rw[hR]
  clear hR
  go_enter Tryz.func142,Tryz.ntmps142
  obtain rfl:R=.ok (⟨9,0,6,0,[],false,0,0⟩) (a):=by rw[←HR.out];simp[escOut,bind_ok,bind_no]
  clear HR
  go_wp2
  exact fin0 h Tryz.results142 rfl rfl fun S T=>⟨rfl,S,T⟩
 ·
  obtain⟨hlt,hgn,hgn',hgn2,S0,T0,G0⟩:=h.start
  obtain⟨R,hR,HR⟩:=hide (escOut f n st 55 a)
  rw[hR]
  clear hR
  go_enter Tryz.func142,Tryz.ntmps142
  obtain rfl:R=.ok (⟨9,0,7,0,[],false,0,0⟩) (a):=by rw[←HR.out];simp[escOut,bind_ok,bind_no]
  clear HR
  go_wp2
  exact fin0 h Tryz.results142 rfl rfl fun S T=>⟨rfl,S,T⟩
 ·
  obtain⟨hlt,hgn,hgn',hgn2,S0,T0,G0⟩:=h.start
  obtain⟨R,hR,HR⟩:=hide (escOut f n st 56 a)
  rw[hR]
  clear hR
  go_enter Tryz.func142,Tryz.ntmps142
  obtain rfl:R=.ok (⟨9,0,8,0,[],false,0,0⟩) (a):=by rw[←HR.out];simp[escOut,bind_ok,bind_no]
  clear HR
  go_wp2
  exact fin0 h Tryz.results142 rfl rfl fun S T=>⟨rfl,S,T⟩
 ·
  obtain⟨hlt,hgn,hgn',hgn2,S0,T0,G0⟩:=h.start
  obtain⟨R,hR,HR⟩:=hide (escOut f n st 57 a)
  rw[hR]
  clear hR
  go_enter Tryz.func142,Tryz.ntmps142
  obtain rfl:R=.ok (⟨9,0,9,0,[],false,0,0⟩) (a):=by rw[←HR.out];simp[escOut,bind_ok,bind_no]
  clear HR
  go_wp2
  exact fin0 h Tryz.results142 rfl rfl fun S T=>⟨rfl,S,T⟩
 ·
  have m0:(r==65)=false:=by simp[n0]
  have m1:(r==122)=false:=by simp[n1]
  have m2:(r==98)=false:=by simp[n2]
  have m3:(r==66)=false:=by simp[n3]
  have m4:(r==88)=false:=by simp[n4]
  have m5:(r==107)=false:=by simp[n5]
  have m6:(r==49)=false:=by simp[n6]
  have m7:(r==50)=false:=by simp[n7]
  have m8:(r==51)=false:=by simp[n8]
  have m9:(r==52)=false:=by simp[n9]
  have m10:(r==53)=false:=by simp[n10]
  have m11:(r==54)=false:=by simp[n11]
  have m12:(r==55)=false:=by simp[n12]
  have m13:(r==56)=false:=by simp[n13]
  have m14:(r==57)=false:=by simp[n14]
  have hnr:¬(49≤r∧r≤57):=by omega
  obtain⟨hlt,hgn,hgn',hgn2,S0,T0,G0⟩:=h.start
  obtain⟨R,hR,HR⟩:=hide (escOut f n st r a)
  rw[hR]
  clear hR
  go_enter Tryz.func142,Tryz.ntmps142
  obtain rfl:R=nope f st:=by rw[←HR.out];simp[escOut,bind_ok,bind_no,n0,n1,n2,n3,n4,n5,n6,n7,n8,n9,n10,n11,n12,n13,n14,hnr]
  have C:=none_any sb ao n cap f (a) st k tv _ S0
  clear HR
  go_wp2_with fail
  refine C.mono ?_
  rintro e w'⟨rfl,hb⟩
  have S':=S0.below hb
  have T':=Tn.beyond T0 hb
  go_wp2
  exact⟨rfl,rfl,⟨_,_,S'⟩,T'⟩
theorem escape_any(sb:Nat)(ao:Option Addr)(n cap:Nat)(f:Nat→Int)(a st k:Nat)(tv:Value)(w:World)(h:Sc w sb ao n cap f a st k tv):
  Calls Tryz.prog 128 #[.pointer (some ⟨sb,0,none⟩)] w (End w sb ao n cap f st k tv Tk.val (escape f n st a k)):=by
 obtain⟨hlt,hgn,hgn',hgn2,S0,T0,G0⟩:=h.start
 obtain⟨R,hR,HR⟩:=hide (escape f n st a k)
 rw[hR]
 clear hR
 go_enter Tryz.func128,Tryz.ntmps128
 have C:=point_any sb ao n cap f a st k tv _ S0
 obtain⟨o,ho,O01⟩:=hide (point f n a)
 rw[ho]at C
 clear ho
 go_wp2_with fail
 refine C.mono ?_
 intro e w1 H
 clear C
 cases o with
 |no q p=>
  obtain⟨rfl,⟨a',k',S'⟩,T'⟩:=H
  obtain rfl:R=.no q p:=by rw[←HR.out];simp[escape,bind_ok,bind_no,O01.out]
  have T'':=T0.trans T'
  go_wp2
  exact⟨rfl,rfl,⟨_,_,S'⟩,T''⟩
 |ok r a1=>
  obtain⟨rfl,S1,T'⟩:=H
  have T1:=T0.trans T'
  have G1:=Tn.blk T' G0 hgn
  clear T' S0 T0 G0
  unfold iv
  rcases(show r=100∨r=119∨r=115∨r=68∨r=87∨r=83∨r=112∨r=80∨r=110∨r=116∨r=114∨r=120∨(¬r=100∧¬r=119∧¬r=115∧¬r=68∧¬r=87∧¬r=83∧¬r=112∧¬r=80∧¬r=110∧¬r=116∧¬r=114∧¬r=120)from by omega)with rfl|rfl|rfl|rfl|rfl|rfl|rfl|rfl|rfl|rfl|rfl|rfl|⟨n0,n1,n2,n3,n4,n5,n6,n7,n8,n9,n10,n11⟩
  ·
   have hcv:∀W,(convert 21 9 (.int .i32 100)).run Tryz.prog W=.ok (.string ⟨#[100]⟩) W:=fun _=>by kernel_rfl
   obtain rfl:R=.ok (prop [100] false) (a1):=by rw[←HR.out];simp[escape,bind_ok,bind_no,O01.out]
   clear HR
   have C:=property_any [100] false w1
   go_wp2_with fail
   refine C.mono ?_
   rintro e w2⟨rfl,hb⟩
   clear C
   obtain⟨S2,T2,G2⟩:=nxt S1 T1 G1 hb
   clear hb S1 T1 G1
   rw[show(prop [100] false).val=.agg #[.int .i64 8,.int .i64 (0),.int .i64 (0),.int .i64 (0),.string ⟨#[100]⟩,.bool false,.int .i64 (0),.int .i64 (0)]from rfl]
   obtain⟨⟨k0,k1,k2,k3,k4,k5,k6,k7⟩,⟨f0,f1,f2,f3,f4,f5,f6,f7⟩⟩:=blk8 G2
   go_wp2
   exact fin8 h S2 T2 Tryz.results128 G2 rfl rfl fun S T=>⟨rfl,S,T⟩
  ·
   have hcv:∀W,(convert 21 9 (.int .i32 119)).run Tryz.prog W=.ok (.string ⟨#[119]⟩) W:=fun _=>by kernel_rfl
   obtain rfl:R=.ok (prop [119] false) (a1):=by rw[←HR.out];simp[escape,bind_ok,bind_no,O01.out]
   clear HR
   have C:=property_any [119] false w1
   go_wp2_with fail
   refine C.mono ?_
   rintro e w2⟨rfl,hb⟩
   clear C
   obtain⟨S2,T2,G2⟩:=nxt S1 T1 G1 hb
   clear hb S1 T1 G1
   rw[show(prop [119] false).val=.agg #[.int .i64 8,.int .i64 (0),.int .i64 (0),.int .i64 (0),.string ⟨#[119]⟩,.bool false,.int .i64 (0),.int .i64 (0)]from rfl]
   obtain⟨⟨k0,k1,k2,k3,k4,k5,k6,k7⟩,⟨f0,f1,f2,f3,f4,f5,f6,f7⟩⟩:=blk8 G2
   go_wp2
   exact fin8 h S2 T2 Tryz.results128 G2 rfl rfl fun S T=>⟨rfl,S,T⟩
  ·
   have hcv:∀W,(convert 21 9 (.int .i32 115)).run Tryz.prog W=.ok (.string ⟨#[115]⟩) W:=fun _=>by kernel_rfl
   obtain rfl:R=.ok (prop [115] false) (a1):=by rw[←HR.out];simp[escape,bind_ok,bind_no,O01.out]
   clear HR
   have C:=property_any [115] false w1
   go_wp2_with fail
   refine C.mono ?_
   rintro e w2⟨rfl,hb⟩
   clear C
   obtain⟨S2,T2,G2⟩:=nxt S1 T1 G1 hb
   clear hb S1 T1 G1
   rw[show(prop [115] false).val=.agg #[.int .i64 8,.int .i64 (0),.int .i64 (0),.int .i64 (0),.string ⟨#[115]⟩,.bool false,.int .i64 (0),.int .i64 (0)]from rfl]
   obtain⟨⟨k0,k1,k2,k3,k4,k5,k6,k7⟩,⟨f0,f1,f2,f3,f4,f5,f6,f7⟩⟩:=blk8 G2
   go_wp2
   exact fin8 h S2 T2 Tryz.results128 G2 rfl rfl fun S T=>⟨rfl,S,T⟩
  ·
   have hcv:∀W,(convert 21 9 (.int .i32 100)).run Tryz.prog W=.ok (.string ⟨#[100]⟩) W:=fun _=>by kernel_rfl
   obtain rfl:R=.ok (prop [100] true) (a1):=by rw[←HR.out];simp[escape,bind_ok,bind_no,O01.out]
   clear HR
   have C:=property_any [100] true w1
   go_wp2_with fail
   refine C.mono ?_
   rintro e w2⟨rfl,hb⟩
   clear C
   obtain⟨S2,T2,G2⟩:=nxt S1 T1 G1 hb
   clear hb S1 T1 G1
   rw[show(prop [100] true).val=.agg #[.int .i64 8,.int .i64 (0),.int .i64 (0),.int .i64 (0),.string ⟨#[100]⟩,.bool true,.int .i64 (0),.int .i64 (0)]from rfl]
   obtain⟨⟨k0,k1,k2,k3,k4,k5,k6,k7⟩,⟨f0,f1,f2,f3,f4,f5,f6,f7⟩⟩:=blk8 G2
   go_wp2
   exact fin8 h S2 T2 Tryz.results128 G2 rfl rfl fun S T=>⟨rfl,S,T⟩
  ·
   have hcv:∀W,(convert 21 9 (.int .i32 119)).run Tryz.prog W=.ok (.string ⟨#[119]⟩) W:=fun _=>by kernel_rfl
   obtain rfl:R=.ok (prop [119] true) (a1):=by rw[←HR.out];simp[escape,bind_ok,bind_no,O01.out]
   clear HR
   have C:=property_any [119] true w1
   go_wp2_with fail
   refine C.mono ?_
   rintro e w2⟨rfl,hb⟩
   clear C
   obtain⟨S2,T2,G2⟩:=nxt S1 T1 G1 hb
   clear hb S1 T1 G1
   rw[show(prop [119] true).val=.agg #[.int .i64 8,.int .i64 (0),.int .i64 (0),.int .i64 (0),.string ⟨#[119]⟩,.bool true,.int .i64 (0),.int .i64 (0)]from rfl]
   obtain⟨⟨k0,k1,k2,k3,k4,k5,k6,k7⟩,⟨f0,f1,f2,f3,f4,f5,f6,f7⟩⟩:=blk8 G2
   go_wp2
   exact fin8 h S2 T2 Tryz.results128 G2 rfl rfl fun S T=>⟨rfl,S,T⟩
  ·
   have hcv:∀W,(convert 21 9 (.int .i32 115)).run Tryz.prog W=.ok (.string ⟨#[115]⟩) W:=fun _=>by kernel_rfl
   obtain rfl:R=.ok (prop [115] true) (a1):=by rw[←HR.out];simp[escape,bind_ok,bind_no,O01.out]
   clear HR
   have C:=property_any [115] true w1
   go_wp2_with fail
   refine C.mono ?_
   rintro e w2⟨rfl,hb⟩
   clear C
   obtain⟨S2,T2,G2⟩:=nxt S1 T1 G1 hb
   clear hb S1 T1 G1
   rw[show(prop [115] true).val=.agg #[.int .i64 8,.int .i64 (0),.int .i64 (0),.int .i64 (0),.string ⟨#[115]⟩,.bool true,.int .i64 (0),.int .i64 (0)]from rfl]
   obtain⟨⟨k0,k1,k2,k3,k4,k5,k6,k7⟩,⟨f0,f1,f2,f3,f4,f5,f6,f7⟩⟩:=blk8 G2
   go_wp2
   exact fin8 h S2 T2 Tryz.results128 G2 rfl rfl fun S T=>⟨rfl,S,T⟩
  ·
   have C:=expression_any sb ao n cap f a1 st k tv _ S1
   obtain⟨o,ho,O12⟩:=hide (expr f n st a1)
   rw[ho]at C
   clear ho
   go_wp2_with fail
   refine C.mono ?_
   intro e w2 H
   clear C
   cases o with
   |no q p=>
    obtain⟨rfl,⟨a',k',S'⟩,T'⟩:=H
    obtain rfl:R=.no q p:=by rw[←HR.out];simp[escape,bind_ok,bind_no,O01.out,O12.out]
    have T'':=T1.trans T'
    go_wp2
    exact⟨rfl,rfl,⟨_,_,S'⟩,T''⟩
   |ok s a2=>
    obtain⟨rfl,S2,T'⟩:=H
    have T2:=T1.trans T'
    have G2:=Tn.blk T' G1 hgn
    clear T' S1 T1 G1
    unfold sv
    obtain rfl:R=.ok (prop s false) (a2):=by rw[←HR.out];simp[escape,bind_ok,bind_no,O01.out,O12.out]
    clear HR
    have C:=property_any s false w2
    go_wp2_with fail
    refine C.mono ?_
    rintro e w3⟨rfl,hb⟩
    clear C
    obtain⟨S3,T3,G3⟩:=nxt S2 T2 G2 hb
    clear hb S2 T2 G2
    rw[show(prop s false).val=.agg #[.int .i64 8,.int .i64 (0),.int .i64 (0),.int .i64 (0),.string (BA s),.bool false,.int .i64 (0),.int .i64 (0)]from rfl]
    obtain⟨⟨k0,k1,k2,k3,k4,k5,k6,k7⟩,⟨f0,f1,f2,f3,f4,f5,f6,f7⟩⟩:=blk8 G3
    go_wp2
    exact fin8 h S3 T3 Tryz.results128 G3 rfl rfl fun S T=>⟨rfl,S,T⟩
  ·
   have C:=expression_any sb ao n cap f a1 st k tv _ S1
   obtain⟨o,ho,O12⟩:=hide (expr f n st a1)
   rw[ho]at C
   clear ho
   go_wp2_with fail
   refine C.mono ?_
   intro e w2 H
   clear C
   cases o with
   |no q p=>
    obtain⟨rfl,⟨a',k',S'⟩,T'⟩:=H
    obtain rfl:R=.no q p:=by rw[←HR.out];simp[escape,bind_ok,bind_no,O01.out,O12.out]
    have T'':=T1.trans T'
    go_wp2
    exact⟨rfl,rfl,⟨_,_,S'⟩,T''⟩
   |ok s a2=>
    obtain⟨rfl,S2,T'⟩:=H
    have T2:=T1.trans T'
    have G2:=Tn.blk T' G1 hgn
    clear T' S1 T1 G1
    unfold sv
    obtain rfl:R=.ok (prop s true) (a2):=by rw[←HR.out];simp[escape,bind_ok,bind_no,O01.out,O12.out]
    clear HR
    have C:=property_any s true w2
    go_wp2_with fail
    refine C.mono ?_
    rintro e w3⟨rfl,hb⟩
    clear C
    obtain⟨S3,T3,G3⟩:=nxt S2 T2 G2 hb
    clear hb S2 T2 G2
    rw[show(prop s true).val=.agg #[.int .i64 8,.int .i64 (0),.int .i64 (0),.int .i64 (0),.string (BA s),.bool true,.int .i64 (0),.int .i64 (0)]from rfl]
    obtain⟨⟨k0,k1,k2,k3,k4,k5,k6,k7⟩,⟨f0,f1,f2,f3,f4,f5,f6,f7⟩⟩:=blk8 G3
    go_wp2
    exact fin8 h S3 T3 Tryz.results128 G3 rfl rfl fun S T=>⟨rfl,S,T⟩
  ·
   obtain rfl:R=.ok (char 10) (a1):=by rw[←HR.out];simp[escape,bind_ok,bind_no,O01.out]
   clear HR
   have C:=char_any 10 w1
   go_wp2_with fail
   refine C.mono ?_
   rintro e w2⟨rfl,hb⟩
   clear C
   obtain⟨S2,T2,G2⟩:=nxt S1 T1 G1 hb
   clear hb S1 T1 G1
   rw[show(char 10).val=.agg #[.int .i64 1,.int .i64 (0),.int .i64 10,.int .i64 (0),.string ⟨#[]⟩,.bool false,.int .i64 (0),.int .i64 (0)]from rfl]
   obtain⟨⟨k0,k1,k2,k3,k4,k5,k6,k7⟩,⟨f0,f1,f2,f3,f4,f5,f6,f7⟩⟩:=blk8 G2
   go_wp2
   exact fin8 h S2 T2 Tryz.results128 G2 rfl rfl fun S T=>⟨rfl,S,T⟩
  ·
   obtain rfl:R=.ok (char 9) (a1):=by rw[←HR.out];simp[escape,bind_ok,bind_no,O01.out]
   clear HR
   have C:=char_any 9 w1
   go_wp2_with fail
   refine C.mono ?_
   rintro e w2⟨rfl,hb⟩
   clear C
   obtain⟨S2,T2,G2⟩:=nxt S1 T1 G1 hb
   clear hb S1 T1 G1
   rw[show(char 9).val=.agg #[.int .i64 1,.int .i64 (0),.int .i64 9,.int .i64 (0),.string ⟨#[]⟩,.bool false,.int .i64 (0),.int .i64 (0)]from rfl]
   obtain⟨⟨k0,k1,k2,k3,k4,k5,k6,k7⟩,⟨f0,f1,f2,f3,f4,f5,f6,f7⟩⟩:=blk8 G2
   go_wp2
   exact fin8 h S2 T2 Tryz.results128 G2 rfl rfl fun S T=>⟨rfl,S,T⟩
  ·
   obtain rfl:R=.ok (char 13) (a1):=by rw[←HR.out];simp[escape,bind_ok,bind_no,O01.out]
   clear HR
   have C:=char_any 13 w1
   go_wp2_with fail
   refine C.mono ?_
   rintro e w2⟨rfl,hb⟩
   clear C
   obtain⟨S2,T2,G2⟩:=nxt S1 T1 G1 hb
   clear hb S1 T1 G1
   rw[show(char 13).val=.agg #[.int .i64 1,.int .i64 (0),.int .i64 13,.int .i64 (0),.string ⟨#[]⟩,.bool false,.int .i64 (0),.int .i64 (0)]from rfl]
   obtain⟨⟨k0,k1,k2,k3,k4,k5,k6,k7⟩,⟨f0,f1,f2,f3,f4,f5,f6,f7⟩⟩:=blk8 G2
   go_wp2
   exact fin8 h S2 T2 Tryz.results128 G2 rfl rfl fun S T=>⟨rfl,S,T⟩
  ·
   have C:=hex_any sb ao n cap f a1 st k tv _ S1
   obtain⟨o,ho⟩:∃o,hex f n st a1=o:=⟨_,rfl⟩
   rw[ho]at C
   obtain rfl:R=o:=by rw[←HR.out,←ho];simp[escape,bind_ok,bind_no,O01.out]
   clear HR ho
   go_wp2_with fail
   refine C.mono ?_
   intro e w2 H
   clear C
   cases R with
   |no q p=>
    obtain⟨rfl,⟨a',k',S'⟩,T'⟩:=H
    have T'':=T1.trans T'
    go_wp2
    exact⟨rfl,rfl,⟨_,_,S'⟩,T''⟩
   |ok t a9=>
    obtain⟨rfl,S2,T'⟩:=H
    have T2:=T1.trans T'
    have G2:=Tn.blk T' G1 hgn
    clear T' S1 T1 G1
    obtain⟨t1,t2,t3,t4,t5,t6,t7,t8⟩:=t
    unfold Tk.val
    obtain⟨⟨k0,k1,k2,k3,k4,k5,k6,k7⟩,⟨f0,f1,f2,f3,f4,f5,f6,f7⟩⟩:=blk8 G2
    go_wp2
    exact fin8 h S2 T2 Tryz.results128 G2 rfl rfl fun S T=>⟨rfl,S,T⟩
  ·
   have m0:(r==100)=false:=by simp[n0]
   have m1:(r==119)=false:=by simp[n1]
   have m2:(r==115)=false:=by simp[n2]
   have m3:(r==68)=false:=by simp[n3]
   have m4:(r==87)=false:=by simp[n4]
   have m5:(r==83)=false:=by simp[n5]
   have m6:(r==112)=false:=by simp[n6]
   have m7:(r==80)=false:=by simp[n7]
   have m8:(r==110)=false:=by simp[n8]
   have m9:(r==116)=false:=by simp[n9]
   have m10:(r==114)=false:=by simp[n10]
   have m11:(r==120)=false:=by simp[n11]
   have C:=isLetter_any r w1
   go_wp2_with fail
   refine C.mono ?_
   rintro e w2⟨rfl,rfl⟩
   clear C
   cases hlt1:letterB r with
   |false=>
    have C:=isDigit_any r w2
    go_wp2_with fail
    refine C.mono ?_
    rintro e w3⟨rfl,rfl⟩
    clear C
    cases hdg:digitB r with
    |false=>
     obtain rfl:R=.ok (char r) (a1):=by rw[←HR.out];simp[escape,bind_ok,bind_no,O01.out,n0,n1,n2,n3,n4,n5,n6,n7,n8,n9,n10,n11,hlt1,hdg]
     clear HR
     have C:=char_any r w3
     go_wp2_with fail
     refine C.mono ?_
     rintro e w2⟨rfl,hb⟩
     clear C
     obtain⟨S2,T2,G2⟩:=nxt S1 T1 G1 hb
     clear hb S1 T1 G1
     rw[show(char r).val=.agg #[.int .i64 1,.int .i64 (0),.int .i64 r,.int .i64 (0),.string ⟨#[]⟩,.bool false,.int .i64 (0),.int .i64 (0)]from rfl]
     obtain⟨⟨k0,k1,k2,k3,k4,k5,k6,k7⟩,⟨f0,f1,f2,f3,f4,f5,f6,f7⟩⟩:=blk8 G2
     go_wp2
     exact fin8 h S2 T2 Tryz.results128 G2 rfl rfl fun S T=>⟨rfl,S,T⟩
    |true=>
     by_cases hk:0<k
     ·
      have hk2:(0:Int)<(k:Int):=by omega
      obtain⟨-,-,-,c3,-⟩:=S1.cells
      obtain rfl:R=nope f st:=by rw[←HR.out];simp[escape,bind_ok,bind_no,O01.out,n0,n1,n2,n3,n4,n5,n6,n7,n8,n9,n10,n11,hlt1,hdg,hk]
      have C:=none_any sb ao n cap f (a1) st k tv _ S1
      clear HR
      go_wp2_with fail
      refine C.mono ?_
      rintro e w'⟨rfl,hb⟩
      have S':=S1.below hb
      have T':=Tn.beyond T1 hb
      go_wp2
      exact⟨rfl,rfl,⟨_,_,S'⟩,T'⟩
     ·
      have hk2:¬(0:Int)<(k:Int):=by omega
      obtain⟨-,-,-,c3,-⟩:=S1.cells
      have C:=escOut_any sb ao n cap f a1 st k tv _ S1 r
      obtain⟨o,ho⟩:∃o,escOut f n st r a1=o:=⟨_,rfl⟩
      rw[ho]at C
      obtain rfl:R=o:=by rw[←HR.out,←ho];simp[escape,bind_ok,bind_no,O01.out,n0,n1,n2,n3,n4,n5,n6,n7,n8,n9,n10,n11,hlt1,hdg,hk]
      clear HR ho
      go_wp2_with fail
      refine C.mono ?_
      intro e w2 H
      clear C
      cases R with
      |no q p=>
       obtain⟨rfl,⟨a',k',S'⟩,T'⟩:=H
       have T'':=T1.trans T'
       go_wp2
       exact⟨rfl,rfl,⟨_,_,S'⟩,T''⟩
      |ok t a9=>
       obtain⟨rfl,S2,T'⟩:=H
       have T2:=T1.trans T'
       have G2:=Tn.blk T' G1 hgn
       clear T' S1 T1 G1
       obtain⟨t1,t2,t3,t4,t5,t6,t7,t8⟩:=t
       unfold Tk.val
       obtain⟨⟨k0,k1,k2,k3,k4,k5,k6,k7⟩,⟨f0,f1,f2,f3,f4,f5,f6,f7⟩⟩:=blk8 G2
       go_wp2
       exact fin8 h S2 T2 Tryz.results128 G2 rfl rfl fun S T=>⟨rfl,S,T⟩
   |true=>
    by_cases hk:0<k
    ·
     have hk2:(0:Int)<(k:Int):=by omega
     obtain⟨-,-,-,c3,-⟩:=S1.cells
     obtain rfl:R=nope f st:=by rw[←HR.out];simp[escape,bind_ok,bind_no,O01.out,n0,n1,n2,n3,n4,n5,n6,n7,n8,n9,n10,n11,hlt1,hk]
     have C:=none_any sb ao n cap f (a1) st k tv _ S1
     clear HR
     go_wp2_with fail
     refine C.mono ?_
     rintro e w'⟨rfl,hb⟩
     have S':=S1.below hb
     have T':=Tn.beyond T1 hb
     go_wp2
     exact⟨rfl,rfl,⟨_,_,S'⟩,T'⟩
    ·
     have hk2:¬(0:Int)<(k:Int):=by omega
     obtain⟨-,-,-,c3,-⟩:=S1.cells
     have C:=escOut_any sb ao n cap f a1 st k tv _ S1 r
     obtain⟨o,ho⟩:∃o,escOut f n st r a1=o:=⟨_,rfl⟩
     rw[ho]at C
     obtain rfl:R=o:=by rw[←HR.out,←ho];simp[escape,bind_ok,bind_no,O01.out,n0,n1,n2,n3,n4,n5,n6,n7,n8,n9,n10,n11,hlt1,hk]
     clear HR ho
     go_wp2_with fail
     refine C.mono ?_
     intro e w2 H
     clear C
     cases R with
     |no q p=>
      obtain⟨rfl,⟨a',k',S'⟩,T'⟩:=H
      have T'':=T1.trans T'
      go_wp2
      exact⟨rfl,rfl,⟨_,_,S'⟩,T''⟩
     |ok t a9=>
      obtain⟨rfl,S2,T'⟩:=H
      have T2:=T1.trans T'
      have G2:=Tn.blk T' G1 hgn
      clear T' S1 T1 G1
      obtain⟨t1,t2,t3,t4,t5,t6,t7,t8⟩:=t
      unfold Tk.val
      obtain⟨⟨k0,k1,k2,k3,k4,k5,k6,k7⟩,⟨f0,f1,f2,f3,f4,f5,f6,f7⟩⟩:=blk8 G2
      go_wp2
      exact fin8 h S2 T2 Tryz.results128 G2 rfl rfl fun S T=>⟨rfl,S,T⟩
end Go.Proofs.YtbbeciofgnkggaaGreatDoor.tok
