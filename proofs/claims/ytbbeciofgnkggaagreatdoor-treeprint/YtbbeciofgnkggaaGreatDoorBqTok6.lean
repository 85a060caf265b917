import Derived.Test.YtbbeciofgnkggaaGreatDoorBqTok5
set_option linter.unusedSimpArgs false
set_option linter.unusedVariables false
set_option maxRecDepth 100000
set_option maxHeartbeats 8000000
namespace Go.Proofs.YtbbeciofgnkggaaGreatDoor.tok
open Go.RowKit
open lin(BA Turns)
def EndK(w:World)(sb:Nat)(ao:Option Addr)(n cap:Nat)(f:Nat→Int)(st:Nat)(tv:Value):Out (Tk×Nat)→Ending→World→Prop
 |.ok t a,e,w'=>e=.returned t.1.val∧Sc w' sb ao n cap f a st t.2 tv∧Turns (fun k=>k=sb) w w'
 |.no c p,e,w'=>e=.panicked [{v:=fv c p,recovered:=false}]∧(∃a k,Sc w' sb ao n cap f a st k tv)∧Turns (fun k=>k=sb) w w'
theorem within_any(sb:Nat)(ao:Option Addr)(n cap:Nat)(f:Nat→Int)(a st k:Nat)(tv:Value)(w:World)(h:Sc w sb ao n cap f a st k tv)(r:Int)(hk:0<k)(hk2:k+1≤1000000):
  Calls Tryz.prog 129 #[.pointer (some ⟨sb,0,none⟩),.int .i64 r] w (EndK w sb ao n cap f st tv (within f n r a k)):=by
 rcases(show r=91∨r=93∨r=38∨r=45∨r=126∨(¬r=91∧¬r=93∧¬r=38∧¬r=45∧¬r=126)from by omega)with rfl|rfl|rfl|rfl|rfl|⟨n0,n1,n2,n3,n4⟩
 ·
  obtain⟨hlt,hgn,hgn',hgn2,S0,T0,G0⟩:=h.start
  obtain⟨R,hR,HR⟩:=hide (within f n 91 a k)
  rw[hR]
  clear hR
  go_enter Tryz.func129,Tryz.ntmps129
  have C:=class_any sb ao n cap f a st k tv _ S0 hk2
  obtain⟨o,ho⟩:∃o,class_ f n a=o:=⟨_,rfl⟩
  rw[ho]at C
  have HO:Hid (R=o.with_ (k+1)):=by unfold Hid;rw[←HR.out,←ho];simp[within,bind_ok,bind_no]
  clear HR ho
  go_wp2_with fail
  refine C.mono ?_
  intro e w1 H
  clear C
  cases o with
  |no q p=>
   obtain⟨rfl,⟨a',k',S'⟩,T'⟩:=H
   obtain rfl:R=.no q p:=HO.out
   have T'':=T0.trans T'
   go_wp2
   exact⟨rfl,rfl,⟨_,_,S'⟩,T''⟩
  |ok t a9=>
   obtain rfl:R=.ok (t,k+1) a9:=HO.out
   obtain⟨rfl,S1,T'⟩:=H
   have T1:=T0.trans T'
   have G1:=Tn.blk T' G0 hgn
   clear T' S0 T0 G0 HO
   obtain⟨t1,t2,t3,t4,t5,t6,t7,t8⟩:=t
   unfold Tk.val
   obtain⟨⟨k0,k1,k2,k3,k4,k5,k6,k7⟩,⟨f0,f1,f2,f3,f4,f5,f6,f7⟩⟩:=blk8 G1
   go_wp2
   exact fin8 h S1 T1 Tryz.results129 G1 rfl rfl fun S T=>⟨rfl,S,T⟩
 ·
  have hlt:=h.lt
  have hgn2:¬sb=w.heap.size:=by omega
  have hgn':¬w.heap.size=sb:=by omega
  obtain⟨c0,c1,c2,c3,c4,z0,z1,z2,z3,z4⟩:=h.cells
  have e1:((k-1:Nat):Int)=(k:Int)-1:=by omega
  have hkk:=h.kk
  have S1:=h.put3 (k':=k-1) (by omega)
  have T1:Tn sb w _:=Tn.put (lin.Turns.refl _ w) 3 (.int .i64 ((k-1:Nat):Int))
  have SF:=S1.alloc (.cells #[.int .i64 12,.int .i64 (0),.int .i64 (0),.int .i64 (0),.string ⟨#[]⟩,.bool false,.int .i64 (0),.int .i64 (0)] 97)
  have TF:=Tn.more T1 (.cells #[.int .i64 12,.int .i64 (0),.int .i64 (0),.int .i64 (0),.string ⟨#[]⟩,.bool false,.int .i64 (0),.int .i64 (0)] 97)
  have GF:((w.setCell ⟨sb,3,none⟩ (.int .i64 ((k-1:Nat):Int))).alloc (.cells #[.int .i64 12,.int .i64 (0),.int .i64 (0),.int .i64 (0),.string ⟨#[]⟩,.bool false,.int .i64 (0),.int .i64 (0)] 97)).heap[w.heap.size]?=some (.cells #[.int .i64 12,.int .i64 (0),.int .i64 (0),.int .i64 (0),.string ⟨#[]⟩,.bool false,.int .i64 (0),.int .i64 (0)] 97 (0,0)):=by
   have:=World.alloc_heap_new (w.setCell ⟨sb,3,none⟩ (.int .i64 ((k-1:Nat):Int))) (.cells #[.int .i64 12,.int .i64 (0),.int .i64 (0),.int .i64 (0),.string ⟨#[]⟩,.bool false,.int .i64 (0),.int .i64 (0)] 97)
   simpa using this
  have HR:within f n 93 a k=.ok (bare 12,k-1) a:=by simp[within]
  rw[HR]
  rw[e1]at SF TF GF
  clear S1 T1 HR
  go_enter Tryz.func129,Tryz.ntmps129
  go_wp2
  exact bodyPost_ret (results_cell_row Tryz.results129 _ _ w.heap.size _ _ _ _ rfl GF Tryz.underlying97 rfl infoTok) rfl ⟨rfl,SF,TF⟩
 ·
  obtain⟨hlt,hgn,hgn',hgn2,S0,T0,G0⟩:=h.start
  obtain⟨R,hR,HR⟩:=hide (within f n 38 a k)
  rw[hR]
  clear hR
  go_enter Tryz.func129,Tryz.ntmps129
  have C:=accept_any sb ao n cap f (a) st k tv _ S0 38
  obtain⟨b,hq,Q01⟩:=hide (at_ f n (a) 38)
  rw[hq]at C
  clear hq
  go_wp2_with fail
  refine C.mono ?_
  rintro e w1⟨rfl,S1,T⟩
  have T1:=T0.trans T
  have G1:=Tn.blk T G0 hgn
  clear C T S0 T0 G0
  cases b with
  |true=>
   rw[if_pos rfl]at S1
   obtain rfl:R=.ok (setT 1,k) (a+1):=by rw[←HR.out];simp[within,bind_ok,bind_no,Q01.out]
   clear HR
   obtain⟨⟨k0,k1,k2,k3,k4,k5,k6,k7⟩,⟨f0,f1,f2,f3,f4,f5,f6,f7⟩⟩:=blk8 G1
   go_wp2
   exact fin8 h S1 T1 Tryz.results129 G1 rfl rfl fun S T=>⟨rfl,S,T⟩
  |false=>
   rw[if_neg (by decide)]at S1
   obtain rfl:R=.ok (char 38,k) (a):=by rw[←HR.out];simp[within,bind_ok,bind_no,Q01.out]
   clear HR
   have C:=char_any 38 w1
   go_wp2_with fail
   refine C.mono ?_
   rintro e w2⟨rfl,hb⟩
   clear C
   obtain⟨S2,T2,G2⟩:=nxt S1 T1 G1 hb
   clear hb S1 T1 G1
   rw[show(char 38).val=.agg #[.int .i64 1,.int .i64 (0),.int .i64 38,.int .i64 (0),.string ⟨#[]⟩,.bool false,.int .i64 (0),.int .i64 (0)]from rfl]
   obtain⟨⟨k0,k1,k2,k3,k4,k5,k6,k7⟩,⟨f0,f1,f2,f3,f4,f5,f6,f7⟩⟩:=blk8 G2
   go_wp2
   exact fin8 h S2 T2 Tryz.results129 G2 rfl rfl fun S T=>⟨rfl,S,T⟩
 ·
  obtain⟨hlt,hgn,hgn',hgn2,S0,T0,G0⟩:=h.start
  obtain⟨R,hR,HR⟩:=hide (within f n 45 a k)
  rw[hR]
  clear hR
  go_enter Tryz.func129,Tryz.ntmps129
  have C:=accept_any sb ao n cap f (a) st k tv _ S0 45
  obtain⟨b,hq,Q01⟩:=hide (at_ f n (a) 45)
  rw[hq]at C
  clear hq
  go_wp2_with fail
  refine C.mono ?_
  rintro e w1⟨rfl,S1,T⟩
  have T1:=T0.trans T
  have G1:=Tn.blk T G0 hgn
  clear C T S0 T0 G0
  cases b with
  |true=>
   rw[if_pos rfl]at S1
   obtain rfl:R=.ok (setT 2,k) (a+1):=by rw[←HR.out];simp[within,bind_ok,bind_no,Q01.out]
   clear HR
   obtain⟨⟨k0,k1,k2,k3,k4,k5,k6,k7⟩,⟨f0,f1,f2,f3,f4,f5,f6,f7⟩⟩:=blk8 G1
   go_wp2
   exact fin8 h S1 T1 Tryz.results129 G1 rfl rfl fun S T=>⟨rfl,S,T⟩
  |false=>
   rw[if_neg (by decide)]at S1
   obtain rfl:R=.ok (bare 13,k) (a):=by rw[←HR.out];simp[within,bind_ok,bind_no,Q01.out]
   clear HR
   obtain⟨⟨k0,k1,k2,k3,k4,k5,k6,k7⟩,⟨f0,f1,f2,f3,f4,f5,f6,f7⟩⟩:=blk8 G1
   go_wp2
   exact fin8 h S1 T1 Tryz.results129 G1 rfl rfl fun S T=>⟨rfl,S,T⟩
 ·
  obtain⟨hlt,hgn,hgn',hgn2,S0,T0,G0⟩:=h.start
  obtain⟨R,hR,HR⟩:=hide (within f n 126 a k)
  rw[hR]
  clear hR
  go_enter Tryz.func129,Tryz.ntmps129
  have C:=accept_any sb ao n cap f (a) st k tv _ S0 126
  obtain⟨b,hq,Q01⟩:=hide (at_ f n (a) 126)
  rw[hq]at C
  clear hq
  go_wp2_with fail
  refine C.mono ?_
  rintro e w1⟨rfl,S1,T⟩
  have T1:=T0.trans T
  have G1:=Tn.blk T G0 hgn
  clear C T S0 T0 G0
  cases b with
  |true=>
   rw[if_pos rfl]at S1
   obtain rfl:R=.ok (setT 3,k) (a+1):=by rw[←HR.out];simp[within,bind_ok,bind_no,Q01.out]
   clear HR
   obtain⟨⟨k0,k1,k2,k3,k4,k5,k6,k7⟩,⟨f0,f1,f2,f3,f4,f5,f6,f7⟩⟩:=blk8 G1
   go_wp2
   exact fin8 h S1 T1 Tryz.results129 G1 rfl rfl fun S T=>⟨rfl,S,T⟩
  |false=>
   rw[if_neg (by decide)]at S1
   obtain rfl:R=.ok (char 126,k) (a):=by rw[←HR.out];simp[within,bind_ok,bind_no,Q01.out]
   clear HR
   have C:=char_any 126 w1
   go_wp2_with fail
   refine C.mono ?_
   rintro e w2⟨rfl,hb⟩
   clear C
   obtain⟨S2,T2,G2⟩:=nxt S1 T1 G1 hb
   clear hb S1 T1 G1
   rw[show(char 126).val=.agg #[.int .i64 1,.int .i64 (0),.int .i64 126,.int .i64 (0),.string ⟨#[]⟩,.bool false,.int .i64 (0),.int .i64 (0)]from rfl]
   obtain⟨⟨k0,k1,k2,k3,k4,k5,k6,k7⟩,⟨f0,f1,f2,f3,f4,f5,f6,f7⟩⟩:=blk8 G2
   go_wp2
   exact fin8 h S2 T2 Tryz.results129 G2 rfl rfl fun S T=>⟨rfl,S,T⟩
 ·
  have m0:(r==91)=false:=by simp[n0]
  have m1:(r==93)=false:=by simp[n1]
  have m2:(r==38)=false:=by simp[n2]
  have m3:(r==45)=false:=by simp[n3]
  have m4:(r==126)=false:=by simp[n4]
  obtain⟨hlt,hgn,hgn',hgn2,S0,T0,G0⟩:=h.start
  obtain⟨R,hR,HR⟩:=hide (within f n r a k)
  rw[hR]
  clear hR
  go_enter Tryz.func129,Tryz.ntmps129
  obtain rfl:R=.ok (char r,k) (a):=by rw[←HR.out];simp[within,bind_ok,bind_no,n0,n1,n2,n3,n4]
  clear HR
  have C:=char_any r (w.alloc (.cells #[.int .i64 0,.int .i64 0,.int .i64 0,.int .i64 0,.string ⟨#[]⟩,.bool false,.int .i64 0,.int .i64 0] 97))
  go_wp2_with fail
  refine C.mono ?_
  rintro e w1⟨rfl,hb⟩
  clear C
  obtain⟨S1,T1,G1⟩:=nxt S0 T0 G0 hb
  clear hb S0 T0 G0
  rw[show(char r).val=.agg #[.int .i64 1,.int .i64 (0),.int .i64 r,.int .i64 (0),.string ⟨#[]⟩,.bool false,.int .i64 (0),.int .i64 (0)]from rfl]
  obtain⟨⟨k0,k1,k2,k3,k4,k5,k6,k7⟩,⟨f0,f1,f2,f3,f4,f5,f6,f7⟩⟩:=blk8 G1
  go_wp2
  exact fin8 h S1 T1 Tryz.results129 G1 rfl rfl fun S T=>⟨rfl,S,T⟩
theorem outside_any(sb:Nat)(ao:Option Addr)(n cap:Nat)(f:Nat→Int)(a st k:Nat)(tv:Value)(w:World)(h:Sc w sb ao n cap f a st k tv)(r:Int)(hk2:k+1≤1000000):
  Calls Tryz.prog 130 #[.pointer (some ⟨sb,0,none⟩),.int .i64 r] w (EndK w sb ao n cap f st tv (outside f n st r a k)):=by
 rcases(show r=46∨r=124∨r=40∨r=41∨r=42∨r=43∨r=63∨r=123∨r=94∨r=36∨r=91∨(¬r=46∧¬r=124∧¬r=40∧¬r=41∧¬r=42∧¬r=43∧¬r=63∧¬r=123∧¬r=94∧¬r=36∧¬r=91)from by omega)with rfl|rfl|rfl|rfl|rfl|rfl|rfl|rfl|rfl|rfl|rfl|⟨n0,n1,n2,n3,n4,n5,n6,n7,n8,n9,n10⟩
 ·
  obtain⟨hlt,hgn,hgn',hgn2,S0,T0,G0⟩:=h.start
  obtain⟨R,hR,HR⟩:=hide (outside f n st 46 a k)
  rw[hR]
  clear hR
  go_enter Tryz.func130,Tryz.ntmps130
  obtain rfl:R=.ok (bare 2,k) (a):=by rw[←HR.out];simp[outside,mark,Out.with_,bind_ok,bind_no]
  clear HR
  go_wp2
  exact fin0 h Tryz.results130 rfl rfl fun S T=>⟨rfl,S,T⟩
 ·
  obtain⟨hlt,hgn,hgn',hgn2,S0,T0,G0⟩:=h.start
  obtain⟨R,hR,HR⟩:=hide (outside f n st 124 a k)
  rw[hR]
  clear hR
  go_enter Tryz.func130,Tryz.ntmps130
  obtain rfl:R=.ok (bare 5,k) (a):=by rw[←HR.out];simp[outside,mark,Out.with_,bind_ok,bind_no]
  clear HR
  go_wp2
  exact fin0 h Tryz.results130 rfl rfl fun S T=>⟨rfl,S,T⟩
 ·
  obtain⟨hlt,hgn,hgn',hgn2,S0,T0,G0⟩:=h.start
  obtain⟨R,hR,HR⟩:=hide (outside f n st 40 a k)
  rw[hR]
  clear hR
  go_enter Tryz.func130,Tryz.ntmps130
  have C:=open_any sb ao n cap f a st k tv _ S0
  obtain⟨o,ho⟩:∃o,open_ f n st a=o:=⟨_,rfl⟩
  rw[ho]at C
  have HO:Hid (R=o.with_ (k)):=by unfold Hid;rw[←HR.out,←ho];simp[outside,mark,Out.with_,bind_ok,bind_no]
  clear HR ho
  go_wp2_with fail
  refine C.mono ?_
  intro e w1 H
  clear C
  cases o with
  |no q p=>
   obtain⟨rfl,⟨a',k',S'⟩,T'⟩:=H
   obtain rfl:R=.no q p:=HO.out
   have T'':=T0.trans T'
   go_wp2
   exact⟨rfl,rfl,⟨_,_,S'⟩,T''⟩
  |ok t a9=>
   obtain rfl:R=.ok (t,k) a9:=HO.out
   obtain⟨rfl,S1,T'⟩:=H
   have T1:=T0.trans T'
   have G1:=Tn.blk T' G0 hgn
   clear T' S0 T0 G0 HO
   obtain⟨t1,t2,t3,t4,t5,t6,t7,t8⟩:=t
   unfold Tk.val
   obtain⟨⟨k0,k1,k2,k3,k4,k5,k6,k7⟩,⟨f0,f1,f2,f3,f4,f5,f6,f7⟩⟩:=blk8 G1
   go_wp2
   exact fin8 h S1 T1 Tryz.results130 G1 rfl rfl fun S T=>⟨rfl,S,T⟩
 ·
  obtain⟨hlt,hgn,hgn',hgn2,S0,T0,G0⟩:=h.start
  obtain⟨R,hR,HR⟩:=hide (outside f n st 41 a k)
  rw[hR]
  clear hR
  go_enter Tryz.func130,Tryz.ntmps130
  obtain rfl:R=.ok (bare 4,k) (a):=by rw[←HR.out];simp[outside,mark,Out.with_,bind_ok,bind_no]
  clear HR
  go_wp2
  exact fin0 h Tryz.results130 rfl rfl fun S T=>⟨rfl,S,T⟩
 ·
  obtain⟨hlt,hgn,hgn',hgn2,S0,T0,G0⟩:=h.start
  obtain⟨R,hR,HR⟩:=hide (outside f n st 42 a k)
  rw[hR]
  clear hR
  go_enter Tryz.func130,Tryz.ntmps130
  have C:=repeat_any sb ao n cap f a st k tv _ S0 0 (-1)
  obtain⟨o,ho⟩:∃o,rep f n 0 (-1) a=o:=⟨_,rfl⟩
  rw[ho]at C
  have HO:Hid (R=o.with_ (k)):=by unfold Hid;rw[←HR.out,←ho];simp[outside,mark,Out.with_,bind_ok,bind_no]
  clear HR ho
  go_wp2_with fail
  refine C.mono ?_
  intro e w1 H
  clear C
  cases o with
  |no q p=>
   obtain⟨rfl,⟨a',k',S'⟩,T'⟩:=H
   obtain rfl:R=.no q p:=HO.out
   have T'':=T0.trans T'
   go_wp2
   exact⟨rfl,rfl,⟨_,_,S'⟩,T''⟩
  |ok t a9=>
   obtain rfl:R=.ok (t,k) a9:=HO.out
   obtain⟨rfl,S1,T'⟩:=H
   have T1:=T0.trans T'
   have G1:=Tn.blk T' G0 hgn
   clear T' S0 T0 G0 HO
   obtain⟨t1,t2,t3,t4,t5,t6,t7,t8⟩:=t
   unfold Tk.val
   obtain⟨⟨k0,k1,k2,k3,k4,k5,k6,k7⟩,⟨f0,f1,f2,f3,f4,f5,f6,f7⟩⟩:=blk8 G1
   go_wp2
   exact fin8 h S1 T1 Tryz.results130 G1 rfl rfl fun S T=>⟨rfl,S,T⟩
 ·
  obtain⟨hlt,hgn,hgn',hgn2,S0,T0,G0⟩:=h.start
  obtain⟨R,hR,HR⟩:=hide (outside f n st 43 a k)
  rw[hR]
  clear hR
  go_enter Tryz.func130,Tryz.ntmps130
  have C:=repeat_any sb ao n cap f a st k tv _ S0 1 (-1)
  obtain⟨o,ho⟩:∃o,rep f n 1 (-1) a=o:=⟨_,rfl⟩
  rw[ho]at C
  have HO:Hid (R=o.with_ (k)):=by unfold Hid;rw[←HR.out,←ho];simp[outside,mark,Out.with_,bind_ok,bind_no]
  clear HR ho
  go_wp2_with fail
  refine C.mono ?_
  intro e w1 H
  clear C
  cases o with
  |no q p=>
   obtain⟨rfl,⟨a',k',S'⟩,T'⟩:=H
   obtain rfl:R=.no q p:=HO.out
   have T'':=T0.trans T'
   go_wp2
   exact⟨rfl,rfl,⟨_,_,S'⟩,T''⟩
  |ok t a9=>
   obtain rfl:R=.ok (t,k) a9:=HO.out
   obtain⟨rfl,S1,T'⟩:=H
   have T1:=T0.trans T'
   have G1:=Tn.blk T' G0 hgn
   clear T' S0 T0 G0 HO
   obtain⟨t1,t2,t3,t4,t5,t6,t7,t8⟩:=t
   unfold Tk.val
   obtain⟨⟨k0,k1,k2,k3,k4,k5,k6,k7⟩,⟨f0,f1,f2,f3,f4,f5,f6,f7⟩⟩:=blk8 G1
   go_wp2
   exact fin8 h S1 T1 Tryz.results130 G1 rfl rfl fun S T=>⟨rfl,S,T⟩
 ·
  obtain⟨hlt,hgn,hgn',hgn2,S0,T0,G0⟩:=h.start
  obtain⟨R,hR,HR⟩:=hide (outside f n st 63 a k)
  rw[hR]
  clear hR
  go_enter Tryz.func130,Tryz.ntmps130
  have C:=repeat_any sb ao n cap f a st k tv _ S0 0 1
  obtain⟨o,ho⟩:∃o,rep f n 0 1 a=o:=⟨_,rfl⟩
  rw[ho]at C
  have HO:Hid (R=o.with_ (k)):=by unfold Hid;rw[←HR.out,←ho];simp[outside,mark,Out.with_,bind_ok,bind_no]
  clear HR ho
  go_wp2_with fail
  refine C.mono ?_
  intro e w1 H
  clear C
  cases o with
  |no q p=>
   obtain⟨rfl,⟨a',k',S'⟩,T'⟩:=H
   obtain rfl:R=.no q p:=HO.out
   have T'':=T0.trans T'
   go_wp2
   exact⟨rfl,rfl,⟨_,_,S'⟩,T''⟩
  |ok t a9=>
   obtain rfl:R=.ok (t,k) a9:=HO.out
   obtain⟨rfl,S1,T'⟩:=H
   have T1:=T0.trans T'
   have G1:=Tn.blk T' G0 hgn
   clear T' S0 T0 G0 HO
   obtain⟨t1,t2,t3,t4,t5,t6,t7,t8⟩:=t
   unfold Tk.val
   obtain⟨⟨k0,k1,k2,k3,k4,k5,k6,k7⟩,⟨f0,f1,f2,f3,f4,f5,f6,f7⟩⟩:=blk8 G1
   go_wp2
   exact fin8 h S1 T1 Tryz.results130 G1 rfl rfl fun S T=>⟨rfl,S,T⟩
 ·
  obtain⟨hlt,hgn,hgn',hgn2,S0,T0,G0⟩:=h.start
  obtain⟨R,hR,HR⟩:=hide (outside f n st 123 a k)
  rw[hR]
  clear hR
  go_enter Tryz.func130,Tryz.ntmps130
  have C:=counted_any sb ao n cap f a st k tv _ S0
  obtain⟨o,ho⟩:∃o,counted f n st a=o:=⟨_,rfl⟩
  rw[ho]at C
  have HO:Hid (R=o.with_ (k)):=by unfold Hid;rw[←HR.out,←ho];simp[outside,mark,Out.with_,bind_ok,bind_no]
  clear HR ho
  go_wp2_with fail
  refine C.mono ?_
  intro e w1 H
  clear C
  cases o with
  |no q p=>
   obtain⟨rfl,⟨a',k',S'⟩,T'⟩:=H
   obtain rfl:R=.no q p:=HO.out
   have T'':=T0.trans T'
   go_wp2
   exact⟨rfl,rfl,⟨_,_,S'⟩,T''⟩
  |ok t a9=>
   obtain rfl:R=.ok (t,k) a9:=HO.out
   obtain⟨rfl,S1,T'⟩:=H
   have T1:=T0.trans T'
   have G1:=Tn.blk T' G0 hgn
   clear T' S0 T0 G0 HO
   obtain⟨t1,t2,t3,t4,t5,t6,t7,t8⟩:=t
   unfold Tk.val
   obtain⟨⟨k0,k1,k2,k3,k4,k5,k6,k7⟩,⟨f0,f1,f2,f3,f4,f5,f6,f7⟩⟩:=blk8 G1
   go_wp2
   exact fin8 h S1 T1 Tryz.results130 G1 rfl rfl fun S T=>⟨rfl,S,T⟩
 ·
  obtain⟨hlt,hgn,hgn',hgn2,S0,T0,G0⟩:=h.start
  obtain⟨R,hR,HR⟩:=hide (outside f n st 94 a k)
  rw[hR]
  clear hR
  go_enter Tryz.func130,Tryz.ntmps130
  obtain rfl:R=.ok (asrt 1,k) (a):=by rw[←HR.out];simp[outside,mark,Out.with_,bind_ok,bind_no]
  clear HR
  have C:=assertion_any 1 (w.alloc (.cells #[.int .i64 0,.int .i64 0,.int .i64 0,.int .i64 0,.string ⟨#[]⟩,.bool false,.int .i64 0,.int .i64 0] 97))
  go_wp2_with fail
  refine C.mono ?_
  rintro e w1⟨rfl,hb⟩
  clear C
  obtain⟨S1,T1,G1⟩:=nxt S0 T0 G0 hb
  clear hb S0 T0 G0
  rw[show(asrt 1).val=.agg #[.int .i64 7,.int .i64 1,.int .i64 (0),.int .i64 (0),.string ⟨#[]⟩,.bool false,.int .i64 (0),.int .i64 (0)]from rfl]
  obtain⟨⟨k0,k1,k2,k3,k4,k5,k6,k7⟩,⟨f0,f1,f2,f3,f4,f5,f6,f7⟩⟩:=blk8 G1
  go_wp2
  exact fin8 h S1 T1 Tryz.results130 G1 rfl rfl fun S T=>⟨rfl,S,T⟩
 ·
  obtain⟨hlt,hgn,hgn',hgn2,S0,T0,G0⟩:=h.start
  obtain⟨R,hR,HR⟩:=hide (outside f n st 36 a k)
  rw[hR]
  clear hR
  go_enter Tryz.func130,Tryz.ntmps130
  obtain rfl:R=.ok (asrt 2,k) (a):=by rw[←HR.out];simp[outside,mark,Out.with_,bind_ok,bind_no]
  clear HR
  have C:=assertion_any 2 (w.alloc (.cells #[.int .i64 0,.int .i64 0,.int .i64 0,.int .i64 0,.string ⟨#[]⟩,.bool false,.int .i64 0,.int .i64 0] 97))
  go_wp2_with fail
  refine C.mono ?_
  rintro e w1⟨rfl,hb⟩
  clear C
  obtain⟨S1,T1,G1⟩:=nxt S0 T0 G0 hb
  clear hb S0 T0 G0
  rw[show(asrt 2).val=.agg #[.int .i64 7,.int .i64 2,.int .i64 (0),.int .i64 (0),.string ⟨#[]⟩,.bool false,.int .i64 (0),.int .i64 (0)]from rfl]
  obtain⟨⟨k0,k1,k2,k3,k4,k5,k6,k7⟩,⟨f0,f1,f2,f3,f4,f5,f6,f7⟩⟩:=blk8 G1
  go_wp2
  exact fin8 h S1 T1 Tryz.results130 G1 rfl rfl fun S T=>⟨rfl,S,T⟩
 ·
  obtain⟨hlt,hgn,hgn',hgn2,S0,T0,G0⟩:=h.start
  obtain⟨R,hR,HR⟩:=hide (outside f n st 91 a k)
  rw[hR]
  clear hR
  go_enter Tryz.func130,Tryz.ntmps130
  have C:=class_any sb ao n cap f a st k tv _ S0 hk2
  obtain⟨o,ho⟩:∃o,class_ f n a=o:=⟨_,rfl⟩
  rw[ho]at C
  have HO:Hid (R=o.with_ (k+1)):=by unfold Hid;rw[←HR.out,←ho];simp[outside,mark,Out.with_,bind_ok,bind_no]
  clear HR ho
  go_wp2_with fail
  refine C.mono ?_
  intro e w1 H
  clear C
  cases o with
  |no q p=>
   obtain⟨rfl,⟨a',k',S'⟩,T'⟩:=H
   obtain rfl:R=.no q p:=HO.out
   have T'':=T0.trans T'
   go_wp2
   exact⟨rfl,rfl,⟨_,_,S'⟩,T''⟩
  |ok t a9=>
   obtain rfl:R=.ok (t,k+1) a9:=HO.out
   obtain⟨rfl,S1,T'⟩:=H
   have T1:=T0.trans T'
   have G1:=Tn.blk T' G0 hgn
   clear T' S0 T0 G0 HO
   obtain⟨t1,t2,t3,t4,t5,t6,t7,t8⟩:=t
   unfold Tk.val
   obtain⟨⟨k0,k1,k2,k3,k4,k5,k6,k7⟩,⟨f0,f1,f2,f3,f4,f5,f6,f7⟩⟩:=blk8 G1
   go_wp2
   exact fin8 h S1 T1 Tryz.results130 G1 rfl rfl fun S T=>⟨rfl,S,T⟩
 ·
  have m0:(r==46)=false:=by simp[n0]
  have m1:(r==124)=false:=by simp[n1]
  have m2:(r==40)=false:=by simp[n2]
  have m3:(r==41)=false:=by simp[n3]
  have m4:(r==42)=false:=by simp[n4]
  have m5:(r==43)=false:=by simp[n5]
  have m6:(r==63)=false:=by simp[n6]
  have m7:(r==123)=false:=by simp[n7]
  have m8:(r==94)=false:=by simp[n8]
  have m9:(r==36)=false:=by simp[n9]
  have m10:(r==91)=false:=by simp[n10]
  obtain⟨hlt,hgn,hgn',hgn2,S0,T0,G0⟩:=h.start
  obtain⟨R,hR,HR⟩:=hide (outside f n st r a k)
  rw[hR]
  clear hR
  go_enter Tryz.func130,Tryz.ntmps130
  obtain rfl:R=.ok (char r,k) (a):=by rw[←HR.out];simp[outside,mark,Out.with_,bind_ok,bind_no,n0,n1,n2,n3,n4,n5,n6,n7,n8,n9,n10]
  clear HR
  have C:=char_any r (w.alloc (.cells #[.int .i64 0,.int .i64 0,.int .i64 0,.int .i64 0,.string ⟨#[]⟩,.bool false,.int .i64 0,.int .i64 0] 97))
  go_wp2_with fail
  refine C.mono ?_
  rintro e w1⟨rfl,hb⟩
  clear C
  obtain⟨S1,T1,G1⟩:=nxt S0 T0 G0 hb
  clear hb S0 T0 G0
  rw[show(char r).val=.agg #[.int .i64 1,.int .i64 (0),.int .i64 r,.int .i64 (0),.string ⟨#[]⟩,.bool false,.int .i64 (0),.int .i64 (0)]from rfl]
  obtain⟨⟨k0,k1,k2,k3,k4,k5,k6,k7⟩,⟨f0,f1,f2,f3,f4,f5,f6,f7⟩⟩:=blk8 G1
  go_wp2
  exact fin8 h S1 T1 Tryz.results130 G1 rfl rfl fun S T=>⟨rfl,S,T⟩
theorem token_any(sb:Nat)(ao:Option Addr)(n cap:Nat)(f:Nat→Int)(a st k:Nat)(tv:Value)(w:World)(h:Sc w sb ao n cap f a st k tv)(hst:st=a)(hk2:k+1≤1000000):
  Calls Tryz.prog 117 #[.pointer (some ⟨sb,0,none⟩)] w (EndK w sb ao n cap f st tv (token f n a k)):=by
 subst hst
 obtain⟨hlt,hgn,hgn',hgn2,S0,T0,G0⟩:=h.start
 obtain⟨R,hR,HR⟩:=hide (token f n st k)
 rw[hR]
 clear hR
 go_enter Tryz.func117,Tryz.ntmps117
 have C:=point_any sb ao n cap f st st k tv _ S0
 obtain⟨o,ho,O01⟩:=hide (point f n st)
 rw[ho]at C
 clear ho
 go_wp2_with fail
 refine C.mono ?_
 intro e w1 H
 clear C
 cases o with
 |no q p=>
  obtain⟨rfl,⟨a',k',S'⟩,T'⟩:=H
  obtain rfl:R=.no q p:=by rw[←HR.out];simp[token,bind_ok,bind_no,O01.out]
  have T'':=T0.trans T'
  go_wp2
  exact⟨rfl,rfl,⟨_,_,S'⟩,T''⟩
 |ok r a1=>
  obtain⟨rfl,S1,T'⟩:=H
  have T1:=T0.trans T'
  have G1:=Tn.blk T' G0 hgn
  clear T' S0 T0 G0
  unfold iv
  by_cases h92:r=92
  ·
   subst h92
   have C:=escape_any sb ao n cap f a1 st k tv _ S1
   obtain⟨o,ho⟩:∃o,escape f n st a1 k=o:=⟨_,rfl⟩
   rw[ho]at C
   have HO:Hid (R=o.with_ (k)):=by unfold Hid;rw[←HR.out,←ho];simp[token,bind_ok,bind_no,O01.out]
   clear HR ho
   go_wp2_with fail
   refine C.mono ?_
   intro e w2 H
   clear C
   cases o with
   |no q p=>
    obtain⟨rfl,⟨a',k',S'⟩,T'⟩:=H
    obtain rfl:R=.no q p:=HO.out
    have T'':=T1.trans T'
    go_wp2
    exact⟨rfl,rfl,⟨_,_,S'⟩,T''⟩
   |ok t a9=>
    obtain rfl:R=.ok (t,k) a9:=HO.out
    obtain⟨rfl,S2,T'⟩:=H
    have T2:=T1.trans T'
    have G2:=Tn.blk T' G1 hgn
    clear T' S1 T1 G1 HO
    obtain⟨t1,t2,t3,t4,t5,t6,t7,t8⟩:=t
    unfold Tk.val
    obtain⟨⟨k0,k1,k2,k3,k4,k5,k6,k7⟩,⟨f0,f1,f2,f3,f4,f5,f6,f7⟩⟩:=blk8 G2
    go_wp2
    exact fin8 h S2 T2 Tryz.results117 G2 rfl rfl fun S T=>⟨rfl,S,T⟩
  ·
   have m0:(r==92)=false:=by simp[h92]
   obtain⟨-,-,-,c3,-⟩:=S1.cells
   by_cases hk:0<k
   ·
    have hk3:(0:Int)<(k:Int):=by omega
    have C:=within_any sb ao n cap f a1 st k tv _ S1 r hk hk2
    obtain⟨o,ho⟩:∃o,within f n r a1 k=o:=⟨_,rfl⟩
    rw[ho]at C
    obtain rfl:R=o:=by rw[←HR.out,←ho];simp[token,bind_ok,bind_no,O01.out,h92,hk]
    clear HR ho
    go_wp2_with fail
    refine C.mono ?_
    intro e w2 H
    clear C
    cases R with
    |no q p=>
     obtain⟨rfl,⟨a',k',S'⟩,T'⟩:=H
     have T'':=T1.trans T'
     go_wp2
     exact⟨rfl,rfl,⟨_,_,S'⟩,T''⟩
    |ok t a9=>
     obtain⟨rfl,S2,T'⟩:=H
     have T2:=T1.trans T'
     have G2:=Tn.blk T' G1 hgn
     clear T' S1 T1 G1
     obtain⟨⟨t1,t2,t3,t4,t5,t6,t7,t8⟩,tk⟩:=t
     unfold Tk.val
     simp only[]at S2⊢
     obtain⟨⟨k0,k1,k2,k3,k4,k5,k6,k7⟩,⟨f0,f1,f2,f3,f4,f5,f6,f7⟩⟩:=blk8 G2
     go_wp2
     exact fin8 h S2 T2 Tryz.results117 G2 rfl rfl fun S T=>⟨rfl,S,T⟩
   ·
    have hk3:¬(0:Int)<(k:Int):=by omega
    have C:=outside_any sb ao n cap f a1 st k tv _ S1 r hk2
    obtain⟨o,ho⟩:∃o,outside f n st r a1 k=o:=⟨_,rfl⟩
    rw[ho]at C
    obtain rfl:R=o:=by rw[←HR.out,←ho];simp[token,bind_ok,bind_no,O01.out,h92,hk]
    clear HR ho
    go_wp2_with fail
    refine C.mono ?_
    intro e w2 H
    clear C
    cases R with
    |no q p=>
     obtain⟨rfl,⟨a',k',S'⟩,T'⟩:=H
     have T'':=T1.trans T'
     go_wp2
     exact⟨rfl,rfl,⟨_,_,S'⟩,T''⟩
    |ok t a9=>
     obtain⟨rfl,S2,T'⟩:=H
     have T2:=T1.trans T'
     have G2:=Tn.blk T' G1 hgn
     clear T' S1 T1 G1
     obtain⟨⟨t1,t2,t3,t4,t5,t6,t7,t8⟩,tk⟩:=t
     unfold Tk.val
     simp only[]at S2⊢
     obtain⟨⟨k0,k1,k2,k3,k4,k5,k6,k7⟩,⟨f0,f1,f2,f3,f4,f5,f6,f7⟩⟩:=blk8 G2
     go_wp2
     exact fin8 h S2 T2 Tryz.results117 G2 rfl rfl fun S T=>⟨rfl,S,T⟩
end Go.Proofs.YtbbeciofgnkggaaGreatDoor.tok
