import Derived.Test.YtgbkolonhddolaaGreatDoorBpTok4
import Derived.Test.YtgbkolonhddolaaGreatDoorBpTok3
set_option linter.unusedSimpArgs false
set_option linter.unusedVariables false
set_option maxRecDepth 100000
set_option maxHeartbeats 8000000
namespace Go.Proofs.YtgbkolonhddolaaGreatDoor.tok
open Go.RowKit
open lin(BA aj)
/--How a method ends that may open or close a class. -/
def EndK(w:World)(sb:Nat)(ao:Option Addr)(n cap:Nat)(f:Nat→Int)(st:Nat)(tv:Value):Out (Tk×Nat)→Ending→World→Prop
 |.ok t a,e,w'=>e=.returned t.1.val∧Sc w' sb ao n cap f a st t.2 tv∧aj (fun k=>k=sb) w w'
 |.no c p,e,w'=>e=.panicked [{v:=fv c p,recovered:=false}]∧(∃a k,Sc w' sb ao n cap f a st k tv)∧aj (fun k=>k=sb) w w'
theorem Bg(sb:Nat)(ao:Option Addr)(n cap:Nat)(f:Nat→Int)(a st k:Nat)(tv:Value)(w:World)(h:Sc w sb ao n cap f a st k tv)(r:Int)(hk:0<k)(hk2:k+1≤1000000):
  Calls Tryz.prog 38 #[.pointer (some ⟨sb,0,none⟩),.int .i64 r] w (EndK w sb ao n cap f st tv (within f n r a k)):=by
 rcases(show r=91∨r=93∨r=38∨r=45∨r=126∨(¬r=91∧¬r=93∧¬r=38∧¬r=45∧¬r=126)from by omega)with rfl|rfl|rfl|rfl|rfl|⟨n0,n1,n2,n3,n4⟩
 ·
  obtain⟨hlt,hgn,dx,hgn2,S0,T0,G0⟩:=h.start
  obtain⟨R,hR,HR⟩:=hide (within f n 91 a k)
  rw[hR]
  clear hR
  go_enter Tryz.func38,Tryz.ntmps38
  have C:=iO sb ao n cap f a st k tv _ S0 hk2
  obtain⟨o,ho⟩:∃o,dV f n a=o:=⟨_,rfl⟩
  rw[ho]at C
  have HO:Hid (R=o.with_ (k+1)):=by unfold Hid;rw[←HR.out,←ho];simp[within,bind_ok,af]
  clear HR ho
  go_wp2_with fail
  refine C.mono ?_
  intro e w1 H
  clear C
  cases o with
  |no q p=>
   obtain⟨rfl,⟨a',k',S'⟩,T'⟩:=H
   obtain rfl:R=.no q p:=HO.out
   have T'':=T0.trans T'
   go_wp2
   exact⟨rfl,rfl,⟨_,_,S'⟩,T''⟩
  |ok t a9=>
   obtain rfl:R=.ok (t,k+1) a9:=HO.out
   obtain⟨rfl,S1,T'⟩:=H
   have T1:=T0.trans T'
   have G1:=Tn.blk T' G0 hgn
   clear T' S0 T0 G0 HO
   obtain⟨t1,t2,t3,t4,t5,t6,t7,t8⟩:=t
   unfold Tk.val
   obtain⟨⟨k0,k1,k2,k3,k4,k5,k6,k7⟩,⟨f0,f1,f2,f3,f4,f5,f6,f7⟩⟩:=aS G1
   go_wp2
   exact bK h S1 T1 Tryz.results38 G1 rfl rfl fun S T=>⟨rfl,S,T⟩
 ·
  have hlt:=h.lt
  have hgn2:¬sb=w.heap.size:=by omega
  have dx:¬w.heap.size=sb:=by omega
  obtain⟨c0,c1,c2,c3,c4,z0,z1,z2,z3,z4⟩:=h.cells
  have e1:((k-1:Nat):Int)=(k:Int)-1:=by omega
  have hkk:=h.kk
  have S1:=h.put3 (k':=k-1) (by omega)
  have T1:Tn sb w _:=Tn.put (lin.aj.refl _ w) 3 (.int .i64 ((k-1:Nat):Int))
  have SF:=S1.alloc (.cells #[.int .i64 12,.int .i64 (0),.int .i64 (0),.int .i64 (0),.string ⟨#[]⟩,.bool false,.int .i64 (0),.int .i64 (0)] 66)
  have TF:=Tn.more T1 (.cells #[.int .i64 12,.int .i64 (0),.int .i64 (0),.int .i64 (0),.string ⟨#[]⟩,.bool false,.int .i64 (0),.int .i64 (0)] 66)
  have GF:((w.setCell ⟨sb,3,none⟩ (.int .i64 ((k-1:Nat):Int))).alloc (.cells #[.int .i64 12,.int .i64 (0),.int .i64 (0),.int .i64 (0),.string ⟨#[]⟩,.bool false,.int .i64 (0),.int .i64 (0)] 66)).heap[w.heap.size]?=some (.cells #[.int .i64 12,.int .i64 (0),.int .i64 (0),.int .i64 (0),.string ⟨#[]⟩,.bool false,.int .i64 (0),.int .i64 (0)] 66 (0,0)):=by
   have:=World.alloc_heap_new (w.setCell ⟨sb,3,none⟩ (.int .i64 ((k-1:Nat):Int))) (.cells #[.int .i64 12,.int .i64 (0),.int .i64 (0),.int .i64 (0),.string ⟨#[]⟩,.bool false,.int .i64 (0),.int .i64 (0)] 66)
   simpa using this
  have HR:within f n 93 a k=.ok (bare 12,k-1) a:=by simp[within]
  rw[HR]
  rw[e1]at SF TF GF
  clear S1 T1 HR
  go_enter Tryz.func38,Tryz.ntmps38
  go_wp2
  exact bodyPost_ret (results_cell_row Tryz.results38 _ _ w.heap.size _ _ _ _ rfl GF Tryz.underlying66 rfl ji) rfl ⟨rfl,SF,TF⟩
 ·
  obtain⟨hlt,hgn,dx,hgn2,S0,T0,G0⟩:=h.start
  obtain⟨R,hR,HR⟩:=hide (within f n 38 a k)
  rw[hR]
  clear hR
  go_enter Tryz.func38,Tryz.ntmps38
  have C:=bZ sb ao n cap f (a) st k tv _ S0 38
  obtain⟨b,hq,mM⟩:=hide (at_ f n (a) 38)
  rw[hq]at C
  clear hq
  go_wp2_with fail
  refine C.mono ?_
  rintro e w1⟨rfl,S1,T⟩
  have T1:=T0.trans T
  have G1:=Tn.blk T G0 hgn
  clear C T S0 T0 G0
  cases b with
  |true=>
   rw[if_pos rfl]at S1
   obtain rfl:R=.ok (FB 1,k) (a+1):=by rw[←HR.out];simp[within,bind_ok,af,mM.out]
   clear HR
   obtain⟨⟨k0,k1,k2,k3,k4,k5,k6,k7⟩,⟨f0,f1,f2,f3,f4,f5,f6,f7⟩⟩:=aS G1
   go_wp2
   exact bK h S1 T1 Tryz.results38 G1 rfl rfl fun S T=>⟨rfl,S,T⟩
  |false=>
   rw[if_neg (by decide)]at S1
   obtain rfl:R=.ok (char 38,k) (a):=by rw[←HR.out];simp[within,bind_ok,af,mM.out]
   clear HR
   have C:=gy 38 w1
   go_wp2_with fail
   refine C.mono ?_
   rintro e w2⟨rfl,hb⟩
   clear C
   obtain⟨S2,T2,G2⟩:=kR S1 T1 G1 hb
   clear hb S1 T1 G1
   rw[show(char 38).val=.agg #[.int .i64 1,.int .i64 (0),.int .i64 38,.int .i64 (0),.string ⟨#[]⟩,.bool false,.int .i64 (0),.int .i64 (0)]from rfl]
   obtain⟨⟨k0,k1,k2,k3,k4,k5,k6,k7⟩,⟨f0,f1,f2,f3,f4,f5,f6,f7⟩⟩:=aS G2
   go_wp2
   exact bK h S2 T2 Tryz.results38 G2 rfl rfl fun S T=>⟨rfl,S,T⟩
 ·
  obtain⟨hlt,hgn,dx,hgn2,S0,T0,G0⟩:=h.start
  obtain⟨R,hR,HR⟩:=hide (within f n 45 a k)
  rw[hR]
  clear hR
  go_enter Tryz.func38,Tryz.ntmps38
  have C:=bZ sb ao n cap f (a) st k tv _ S0 45
  obtain⟨b,hq,mM⟩:=hide (at_ f n (a) 45)
  rw[hq]at C
  clear hq
  go_wp2_with fail
  refine C.mono ?_
  rintro e w1⟨rfl,S1,T⟩
  have T1:=T0.trans T
  have G1:=Tn.blk T G0 hgn
  clear C T S0 T0 G0
  cases b with
  |true=>
   rw[if_pos rfl]at S1
   obtain rfl:R=.ok (FB 2,k) (a+1):=by rw[←HR.out];simp[within,bind_ok,af,mM.out]
   clear HR
   obtain⟨⟨k0,k1,k2,k3,k4,k5,k6,k7⟩,⟨f0,f1,f2,f3,f4,f5,f6,f7⟩⟩:=aS G1
   go_wp2
   exact bK h S1 T1 Tryz.results38 G1 rfl rfl fun S T=>⟨rfl,S,T⟩
  |false=>
   rw[if_neg (by decide)]at S1
   obtain rfl:R=.ok (bare 13,k) (a):=by rw[←HR.out];simp[within,bind_ok,af,mM.out]
   clear HR
   obtain⟨⟨k0,k1,k2,k3,k4,k5,k6,k7⟩,⟨f0,f1,f2,f3,f4,f5,f6,f7⟩⟩:=aS G1
   go_wp2
   exact bK h S1 T1 Tryz.results38 G1 rfl rfl fun S T=>⟨rfl,S,T⟩
 ·
  obtain⟨hlt,hgn,dx,hgn2,S0,T0,G0⟩:=h.start
  obtain⟨R,hR,HR⟩:=hide (within f n 126 a k)
  rw[hR]
  clear hR
  go_enter Tryz.func38,Tryz.ntmps38
  have C:=bZ sb ao n cap f (a) st k tv _ S0 126
  obtain⟨b,hq,mM⟩:=hide (at_ f n (a) 126)
  rw[hq]at C
  clear hq
  go_wp2_with fail
  refine C.mono ?_
  rintro e w1⟨rfl,S1,T⟩
  have T1:=T0.trans T
  have G1:=Tn.blk T G0 hgn
  clear C T S0 T0 G0
  cases b with
  |true=>
   rw[if_pos rfl]at S1
   obtain rfl:R=.ok (FB 3,k) (a+1):=by rw[←HR.out];simp[within,bind_ok,af,mM.out]
   clear HR
   obtain⟨⟨k0,k1,k2,k3,k4,k5,k6,k7⟩,⟨f0,f1,f2,f3,f4,f5,f6,f7⟩⟩:=aS G1
   go_wp2
   exact bK h S1 T1 Tryz.results38 G1 rfl rfl fun S T=>⟨rfl,S,T⟩
  |false=>
   rw[if_neg (by decide)]at S1
   obtain rfl:R=.ok (char 126,k) (a):=by rw[←HR.out];simp[within,bind_ok,af,mM.out]
   clear HR
   have C:=gy 126 w1
   go_wp2_with fail
   refine C.mono ?_
   rintro e w2⟨rfl,hb⟩
   clear C
   obtain⟨S2,T2,G2⟩:=kR S1 T1 G1 hb
   clear hb S1 T1 G1
   rw[show(char 126).val=.agg #[.int .i64 1,.int .i64 (0),.int .i64 126,.int .i64 (0),.string ⟨#[]⟩,.bool false,.int .i64 (0),.int .i64 (0)]from rfl]
   obtain⟨⟨k0,k1,k2,k3,k4,k5,k6,k7⟩,⟨f0,f1,f2,f3,f4,f5,f6,f7⟩⟩:=aS G2
   go_wp2
   exact bK h S2 T2 Tryz.results38 G2 rfl rfl fun S T=>⟨rfl,S,T⟩
 ·
  have m0:(r==91)=false:=by simp[n0]
  have m1:(r==93)=false:=by simp[n1]
  have m2:(r==38)=false:=by simp[n2]
  have m3:(r==45)=false:=by simp[n3]
  have m4:(r==126)=false:=by simp[n4]
  obtain⟨hlt,hgn,dx,hgn2,S0,T0,G0⟩:=h.start
  obtain⟨R,hR,HR⟩:=hide (within f n r a k)
  rw[hR]
  clear hR
  go_enter Tryz.func38,Tryz.ntmps38
  obtain rfl:R=.ok (char r,k) (a):=by rw[←HR.out];simp[within,bind_ok,af,n0,n1,n2,n3,n4]
  clear HR
  have C:=gy r (w.alloc (.cells #[.int .i64 0,.int .i64 0,.int .i64 0,.int .i64 0,.string ⟨#[]⟩,.bool false,.int .i64 0,.int .i64 0] 66))
  go_wp2_with fail
  refine C.mono ?_
  rintro e w1⟨rfl,hb⟩
  clear C
  obtain⟨S1,T1,G1⟩:=kR S0 T0 G0 hb
  clear hb S0 T0 G0
  rw[show(char r).val=.agg #[.int .i64 1,.int .i64 (0),.int .i64 r,.int .i64 (0),.string ⟨#[]⟩,.bool false,.int .i64 (0),.int .i64 (0)]from rfl]
  obtain⟨⟨k0,k1,k2,k3,k4,k5,k6,k7⟩,⟨f0,f1,f2,f3,f4,f5,f6,f7⟩⟩:=aS G1
  go_wp2
  exact bK h S1 T1 Tryz.results38 G1 rfl rfl fun S T=>⟨rfl,S,T⟩
theorem outside_any(sb:Nat)(ao:Option Addr)(n cap:Nat)(f:Nat→Int)(a st k:Nat)(tv:Value)(w:World)(h:Sc w sb ao n cap f a st k tv)(r:Int)(hk2:k+1≤1000000):
  Calls Tryz.prog 39 #[.pointer (some ⟨sb,0,none⟩),.int .i64 r] w (EndK w sb ao n cap f st tv (outside f n st r a k)):=by
 rcases(show r=46∨r=124∨r=40∨r=41∨r=42∨r=43∨r=63∨r=123∨r=94∨r=36∨r=91∨(¬r=46∧¬r=124∧¬r=40∧¬r=41∧¬r=42∧¬r=43∧¬r=63∧¬r=123∧¬r=94∧¬r=36∧¬r=91)from by omega)with rfl|rfl|rfl|rfl|rfl|rfl|rfl|rfl|rfl|rfl|rfl|⟨n0,n1,n2,n3,n4,n5,n6,n7,n8,n9,n10⟩
 ·
  obtain⟨hlt,hgn,dx,hgn2,S0,T0,G0⟩:=h.start
  obtain⟨R,hR,HR⟩:=hide (outside f n st 46 a k)
  rw[hR]
  clear hR
  go_enter Tryz.func39,Tryz.ntmps39
  obtain rfl:R=.ok (bare 2,k) (a):=by rw[←HR.out];simp[outside,mark,Out.with_,bind_ok,af]
  clear HR
  go_wp2
  exact p8 h Tryz.results39 rfl rfl fun S T=>⟨rfl,S,T⟩
 ·
  obtain⟨hlt,hgn,dx,hgn2,S0,T0,G0⟩:=h.start
  obtain⟨R,hR,HR⟩:=hide (outside f n st 124 a k)
  rw[hR]
  clear hR
  go_enter Tryz.func39,Tryz.ntmps39
  obtain rfl:R=.ok (bare 5,k) (a):=by rw[←HR.out];simp[outside,mark,Out.with_,bind_ok,af]
  clear HR
  go_wp2
  exact p8 h Tryz.results39 rfl rfl fun S T=>⟨rfl,S,T⟩
 ·
  obtain⟨hlt,hgn,dx,hgn2,S0,T0,G0⟩:=h.start
  obtain⟨R,hR,HR⟩:=hide (outside f n st 40 a k)
  rw[hR]
  clear hR
  go_enter Tryz.func39,Tryz.ntmps39
  have C:=rX sb ao n cap f a st k tv _ S0
  obtain⟨o,ho⟩:∃o,open_ f n st a=o:=⟨_,rfl⟩
  rw[ho]at C
  have HO:Hid (R=o.with_ (k)):=by unfold Hid;rw[←HR.out,←ho];simp[outside,mark,Out.with_,bind_ok,af]
  clear HR ho
  go_wp2_with fail
  refine C.mono ?_
  intro e w1 H
  clear C
  cases o with
  |no q p=>
   obtain⟨rfl,⟨a',k',S'⟩,T'⟩:=H
   obtain rfl:R=.no q p:=HO.out
   have T'':=T0.trans T'
   go_wp2
   exact⟨rfl,rfl,⟨_,_,S'⟩,T''⟩
  |ok t a9=>
   obtain rfl:R=.ok (t,k) a9:=HO.out
   obtain⟨rfl,S1,T'⟩:=H
   have T1:=T0.trans T'
   have G1:=Tn.blk T' G0 hgn
   clear T' S0 T0 G0 HO
   obtain⟨t1,t2,t3,t4,t5,t6,t7,t8⟩:=t
   unfold Tk.val
   obtain⟨⟨k0,k1,k2,k3,k4,k5,k6,k7⟩,⟨f0,f1,f2,f3,f4,f5,f6,f7⟩⟩:=aS G1
   go_wp2
   exact bK h S1 T1 Tryz.results39 G1 rfl rfl fun S T=>⟨rfl,S,T⟩
 ·
  obtain⟨hlt,hgn,dx,hgn2,S0,T0,G0⟩:=h.start
  obtain⟨R,hR,HR⟩:=hide (outside f n st 41 a k)
  rw[hR]
  clear hR
  go_enter Tryz.func39,Tryz.ntmps39
  obtain rfl:R=.ok (bare 4,k) (a):=by rw[←HR.out];simp[outside,mark,Out.with_,bind_ok,af]
  clear HR
  go_wp2
  exact p8 h Tryz.results39 rfl rfl fun S T=>⟨rfl,S,T⟩
 ·
  obtain⟨hlt,hgn,dx,hgn2,S0,T0,G0⟩:=h.start
  obtain⟨R,hR,HR⟩:=hide (outside f n st 42 a k)
  rw[hR]
  clear hR
  go_enter Tryz.func39,Tryz.ntmps39
  have C:=eD sb ao n cap f a st k tv _ S0 0 (-1)
  obtain⟨o,ho⟩:∃o,rep f n 0 (-1) a=o:=⟨_,rfl⟩
  rw[ho]at C
  have HO:Hid (R=o.with_ (k)):=by unfold Hid;rw[←HR.out,←ho];simp[outside,mark,Out.with_,bind_ok,af]
  clear HR ho
  go_wp2_with fail
  refine C.mono ?_
  intro e w1 H
  clear C
  cases o with
  |no q p=>
   obtain⟨rfl,⟨a',k',S'⟩,T'⟩:=H
   obtain rfl:R=.no q p:=HO.out
   have T'':=T0.trans T'
   go_wp2
   exact⟨rfl,rfl,⟨_,_,S'⟩,T''⟩
  |ok t a9=>
   obtain rfl:R=.ok (t,k) a9:=HO.out
   obtain⟨rfl,S1,T'⟩:=H
   have T1:=T0.trans T'
   have G1:=Tn.blk T' G0 hgn
   clear T' S0 T0 G0 HO
   obtain⟨t1,t2,t3,t4,t5,t6,t7,t8⟩:=t
   unfold Tk.val
   obtain⟨⟨k0,k1,k2,k3,k4,k5,k6,k7⟩,⟨f0,f1,f2,f3,f4,f5,f6,f7⟩⟩:=aS G1
   go_wp2
   exact bK h S1 T1 Tryz.results39 G1 rfl rfl fun S T=>⟨rfl,S,T⟩
 ·
  obtain⟨hlt,hgn,dx,hgn2,S0,T0,G0⟩:=h.start
  obtain⟨R,hR,HR⟩:=hide (outside f n st 43 a k)
  rw[hR]
  clear hR
  go_enter Tryz.func39,Tryz.ntmps39
  have C:=eD sb ao n cap f a st k tv _ S0 1 (-1)
  obtain⟨o,ho⟩:∃o,rep f n 1 (-1) a=o:=⟨_,rfl⟩
  rw[ho]at C
  have HO:Hid (R=o.with_ (k)):=by unfold Hid;rw[←HR.out,←ho];simp[outside,mark,Out.with_,bind_ok,af]
  clear HR ho
  go_wp2_with fail
  refine C.mono ?_
  intro e w1 H
  clear C
  cases o with
  |no q p=>
   obtain⟨rfl,⟨a',k',S'⟩,T'⟩:=H
   obtain rfl:R=.no q p:=HO.out
   have T'':=T0.trans T'
   go_wp2
   exact⟨rfl,rfl,⟨_,_,S'⟩,T''⟩
  |ok t a9=>
   obtain rfl:R=.ok (t,k) a9:=HO.out
   obtain⟨rfl,S1,T'⟩:=H
   have T1:=T0.trans T'
   have G1:=Tn.blk T' G0 hgn
   clear T' S0 T0 G0 HO
   obtain⟨t1,t2,t3,t4,t5,t6,t7,t8⟩:=t
   unfold Tk.val
   obtain⟨⟨k0,k1,k2,k3,k4,k5,k6,k7⟩,⟨f0,f1,f2,f3,f4,f5,f6,f7⟩⟩:=aS G1
   go_wp2
   exact bK h S1 T1 Tryz.results39 G1 rfl rfl fun S T=>⟨rfl,S,T⟩
 ·
  obtain⟨hlt,hgn,dx,hgn2,S0,T0,G0⟩:=h.start
  obtain⟨R,hR,HR⟩:=hide (outside f n st 63 a k)
  rw[hR]
  clear hR
  go_enter Tryz.func39,Tryz.ntmps39
  have C:=eD sb ao n cap f a st k tv _ S0 0 1
  obtain⟨o,ho⟩:∃o,rep f n 0 1 a=o:=⟨_,rfl⟩
  rw[ho]at C
  have HO:Hid (R=o.with_ (k)):=by unfold Hid;rw[←HR.out,←ho];simp[outside,mark,Out.with_,bind_ok,af]
  clear HR ho
  go_wp2_with fail
  refine C.mono ?_
  intro e w1 H
  clear C
  cases o with
  |no q p=>
   obtain⟨rfl,⟨a',k',S'⟩,T'⟩:=H
   obtain rfl:R=.no q p:=HO.out
   have T'':=T0.trans T'
   go_wp2
   exact⟨rfl,rfl,⟨_,_,S'⟩,T''⟩
  |ok t a9=>
   obtain rfl:R=.ok (t,k) a9:=HO.out
   obtain⟨rfl,S1,T'⟩:=H
   have T1:=T0.trans T'
   have G1:=Tn.blk T' G0 hgn
   clear T' S0 T0 G0 HO
   obtain⟨t1,t2,t3,t4,t5,t6,t7,t8⟩:=t
   unfold Tk.val
   obtain⟨⟨k0,k1,k2,k3,k4,k5,k6,k7⟩,⟨f0,f1,f2,f3,f4,f5,f6,f7⟩⟩:=aS G1
   go_wp2
   exact bK h S1 T1 Tryz.results39 G1 rfl rfl fun S T=>⟨rfl,S,T⟩
 ·
  obtain⟨hlt,hgn,dx,hgn2,S0,T0,G0⟩:=h.start
  obtain⟨R,hR,HR⟩:=hide (outside f n st 123 a k)
  rw[hR]
  clear hR
  go_enter Tryz.func39,Tryz.ntmps39
  have C:=Ai sb ao n cap f a st k tv _ S0
  obtain⟨o,ho⟩:∃o,counted f n st a=o:=⟨_,rfl⟩
  rw[ho]at C
  have HO:Hid (R=o.with_ (k)):=by unfold Hid;rw[←HR.out,←ho];simp[outside,mark,Out.with_,bind_ok,af]
  clear HR ho
  go_wp2_with fail
  refine C.mono ?_
  intro e w1 H
  clear C
  cases o with
  |no q p=>
   obtain⟨rfl,⟨a',k',S'⟩,T'⟩:=H
   obtain rfl:R=.no q p:=HO.out
   have T'':=T0.trans T'
   go_wp2
   exact⟨rfl,rfl,⟨_,_,S'⟩,T''⟩
  |ok t a9=>
   obtain rfl:R=.ok (t,k) a9:=HO.out
   obtain⟨rfl,S1,T'⟩:=H
   have T1:=T0.trans T'
   have G1:=Tn.blk T' G0 hgn
   clear T' S0 T0 G0 HO
   obtain⟨t1,t2,t3,t4,t5,t6,t7,t8⟩:=t
   unfold Tk.val
   obtain⟨⟨k0,k1,k2,k3,k4,k5,k6,k7⟩,⟨f0,f1,f2,f3,f4,f5,f6,f7⟩⟩:=aS G1
   go_wp2
   exact bK h S1 T1 Tryz.results39 G1 rfl rfl fun S T=>⟨rfl,S,T⟩
 ·
  obtain⟨hlt,hgn,dx,hgn2,S0,T0,G0⟩:=h.start
  obtain⟨R,hR,HR⟩:=hide (outside f n st 94 a k)
  rw[hR]
  clear hR
  go_enter Tryz.func39,Tryz.ntmps39
  obtain rfl:R=.ok (gT 1,k) (a):=by rw[←HR.out];simp[outside,mark,Out.with_,bind_ok,af]
  clear HR
  have C:=dw 1 (w.alloc (.cells #[.int .i64 0,.int .i64 0,.int .i64 0,.int .i64 0,.string ⟨#[]⟩,.bool false,.int .i64 0,.int .i64 0] 66))
  go_wp2_with fail
  refine C.mono ?_
  rintro e w1⟨rfl,hb⟩
  clear C
  obtain⟨S1,T1,G1⟩:=kR S0 T0 G0 hb
  clear hb S0 T0 G0
  rw[show(gT 1).val=.agg #[.int .i64 7,.int .i64 1,.int .i64 (0),.int .i64 (0),.string ⟨#[]⟩,.bool false,.int .i64 (0),.int .i64 (0)]from rfl]
  obtain⟨⟨k0,k1,k2,k3,k4,k5,k6,k7⟩,⟨f0,f1,f2,f3,f4,f5,f6,f7⟩⟩:=aS G1
  go_wp2
  exact bK h S1 T1 Tryz.results39 G1 rfl rfl fun S T=>⟨rfl,S,T⟩
 ·
  obtain⟨hlt,hgn,dx,hgn2,S0,T0,G0⟩:=h.start
  obtain⟨R,hR,HR⟩:=hide (outside f n st 36 a k)
  rw[hR]
  clear hR
  go_enter Tryz.func39,Tryz.ntmps39
  obtain rfl:R=.ok (gT 2,k) (a):=by rw[←HR.out];simp[outside,mark,Out.with_,bind_ok,af]
  clear HR
  have C:=dw 2 (w.alloc (.cells #[.int .i64 0,.int .i64 0,.int .i64 0,.int .i64 0,.string ⟨#[]⟩,.bool false,.int .i64 0,.int .i64 0] 66))
  go_wp2_with fail
  refine C.mono ?_
  rintro e w1⟨rfl,hb⟩
  clear C
  obtain⟨S1,T1,G1⟩:=kR S0 T0 G0 hb
  clear hb S0 T0 G0
  rw[show(gT 2).val=.agg #[.int .i64 7,.int .i64 2,.int .i64 (0),.int .i64 (0),.string ⟨#[]⟩,.bool false,.int .i64 (0),.int .i64 (0)]from rfl]
  obtain⟨⟨k0,k1,k2,k3,k4,k5,k6,k7⟩,⟨f0,f1,f2,f3,f4,f5,f6,f7⟩⟩:=aS G1
  go_wp2
  exact bK h S1 T1 Tryz.results39 G1 rfl rfl fun S T=>⟨rfl,S,T⟩
 ·
  obtain⟨hlt,hgn,dx,hgn2,S0,T0,G0⟩:=h.start
  obtain⟨R,hR,HR⟩:=hide (outside f n st 91 a k)
  rw[hR]
  clear hR
  go_enter Tryz.func39,Tryz.ntmps39
  have C:=iO sb ao n cap f a st k tv _ S0 hk2
  obtain⟨o,ho⟩:∃o,dV f n a=o:=⟨_,rfl⟩
  rw[ho]at C
  have HO:Hid (R=o.with_ (k+1)):=by unfold Hid;rw[←HR.out,←ho];simp[outside,mark,Out.with_,bind_ok,af]
  clear HR ho
  go_wp2_with fail
  refine C.mono ?_
  intro e w1 H
  clear C
  cases o with
  |no q p=>
   obtain⟨rfl,⟨a',k',S'⟩,T'⟩:=H
   obtain rfl:R=.no q p:=HO.out
   have T'':=T0.trans T'
   go_wp2
   exact⟨rfl,rfl,⟨_,_,S'⟩,T''⟩
  |ok t a9=>
   obtain rfl:R=.ok (t,k+1) a9:=HO.out
   obtain⟨rfl,S1,T'⟩:=H
   have T1:=T0.trans T'
   have G1:=Tn.blk T' G0 hgn
   clear T' S0 T0 G0 HO
   obtain⟨t1,t2,t3,t4,t5,t6,t7,t8⟩:=t
   unfold Tk.val
   obtain⟨⟨k0,k1,k2,k3,k4,k5,k6,k7⟩,⟨f0,f1,f2,f3,f4,f5,f6,f7⟩⟩:=aS G1
   go_wp2
   exact bK h S1 T1 Tryz.results39 G1 rfl rfl fun S T=>⟨rfl,S,T⟩
 ·
  have m0:(r==46)=false:=by simp[n0]
  have m1:(r==124)=false:=by simp[n1]
  have m2:(r==40)=false:=by simp[n2]
  have m3:(r==41)=false:=by simp[n3]
  have m4:(r==42)=false:=by simp[n4]
  have m5:(r==43)=false:=by simp[n5]
  have m6:(r==63)=false:=by simp[n6]
  have m7:(r==123)=false:=by simp[n7]
  have m8:(r==94)=false:=by simp[n8]
  have m9:(r==36)=false:=by simp[n9]
  have m10:(r==91)=false:=by simp[n10]
  obtain⟨hlt,hgn,dx,hgn2,S0,T0,G0⟩:=h.start
  obtain⟨R,hR,HR⟩:=hide (outside f n st r a k)
  rw[hR]
  clear hR
  go_enter Tryz.func39,Tryz.ntmps39
  obtain rfl:R=.ok (char r,k) (a):=by rw[←HR.out];simp[outside,mark,Out.with_,bind_ok,af,n0,n1,n2,n3,n4,n5,n6,n7,n8,n9,n10]
  clear HR
  have C:=gy r (w.alloc (.cells #[.int .i64 0,.int .i64 0,.int .i64 0,.int .i64 0,.string ⟨#[]⟩,.bool false,.int .i64 0,.int .i64 0] 66))
  go_wp2_with fail
  refine C.mono ?_
  rintro e w1⟨rfl,hb⟩
  clear C
  obtain⟨S1,T1,G1⟩:=kR S0 T0 G0 hb
  clear hb S0 T0 G0
  rw[show(char r).val=.agg #[.int .i64 1,.int .i64 (0),.int .i64 r,.int .i64 (0),.string ⟨#[]⟩,.bool false,.int .i64 (0),.int .i64 (0)]from rfl]
  obtain⟨⟨k0,k1,k2,k3,k4,k5,k6,k7⟩,⟨f0,f1,f2,f3,f4,f5,f6,f7⟩⟩:=aS G1
  go_wp2
  exact bK h S1 T1 Tryz.results39 G1 rfl rfl fun S T=>⟨rfl,S,T⟩
theorem Fe(sb:Nat)(ao:Option Addr)(n cap:Nat)(f:Nat→Int)(a st k:Nat)(tv:Value)(w:World)(h:Sc w sb ao n cap f a st k tv)(hst:st=a)(hk2:k+1≤1000000):
  Calls Tryz.prog 25 #[.pointer (some ⟨sb,0,none⟩)] w (EndK w sb ao n cap f st tv (token f n a k)):=by
 subst hst
 obtain⟨hlt,hgn,dx,hgn2,S0,T0,G0⟩:=h.start
 obtain⟨R,hR,HR⟩:=hide (token f n st k)
 rw[hR]
 clear hR
 go_enter Tryz.func25,Tryz.ntmps25
 have C:=pI sb ao n cap f st st k tv _ S0
 obtain⟨o,ho,iA⟩:=hide (point f n st)
 rw[ho]at C
 clear ho
 go_wp2_with fail
 refine C.mono ?_
 intro e w1 H
 clear C
 cases o with
 |no q p=>
  obtain⟨rfl,⟨a',k',S'⟩,T'⟩:=H
  obtain rfl:R=.no q p:=by rw[←HR.out];simp[token,bind_ok,af,iA.out]
  have T'':=T0.trans T'
  go_wp2
  exact⟨rfl,rfl,⟨_,_,S'⟩,T''⟩
 |ok r a1=>
  obtain⟨rfl,S1,T'⟩:=H
  have T1:=T0.trans T'
  have G1:=Tn.blk T' G0 hgn
  clear T' S0 T0 G0
  unfold iv
  by_cases h92:r=92
  ·
   subst h92
   have C:=Df sb ao n cap f a1 st k tv _ S1
   obtain⟨o,ho⟩:∃o,escape f n st a1 k=o:=⟨_,rfl⟩
   rw[ho]at C
   have HO:Hid (R=o.with_ (k)):=by unfold Hid;rw[←HR.out,←ho];simp[token,bind_ok,af,iA.out]
   clear HR ho
   go_wp2_with fail
   refine C.mono ?_
   intro e w2 H
   clear C
   cases o with
   |no q p=>
    obtain⟨rfl,⟨a',k',S'⟩,T'⟩:=H
    obtain rfl:R=.no q p:=HO.out
    have T'':=T1.trans T'
    go_wp2
    exact⟨rfl,rfl,⟨_,_,S'⟩,T''⟩
   |ok t a9=>
    obtain rfl:R=.ok (t,k) a9:=HO.out
    obtain⟨rfl,S2,T'⟩:=H
    have T2:=T1.trans T'
    have G2:=Tn.blk T' G1 hgn
    clear T' S1 T1 G1 HO
    obtain⟨t1,t2,t3,t4,t5,t6,t7,t8⟩:=t
    unfold Tk.val
    obtain⟨⟨k0,k1,k2,k3,k4,k5,k6,k7⟩,⟨f0,f1,f2,f3,f4,f5,f6,f7⟩⟩:=aS G2
    go_wp2
    exact bK h S2 T2 Tryz.results25 G2 rfl rfl fun S T=>⟨rfl,S,T⟩
  ·
   have m0:(r==92)=false:=by simp[h92]
   obtain⟨-,-,-,c3,-⟩:=S1.cells
   by_cases hk:0<k
   ·
    have hk3:(0:Int)<(k:Int):=by omega
    have C:=Bg sb ao n cap f a1 st k tv _ S1 r hk hk2
    obtain⟨o,ho⟩:∃o,within f n r a1 k=o:=⟨_,rfl⟩
    rw[ho]at C
    obtain rfl:R=o:=by rw[←HR.out,←ho];simp[token,bind_ok,af,iA.out,h92,hk]
    clear HR ho
    go_wp2_with fail
    refine C.mono ?_
    intro e w2 H
    clear C
    cases R with
    |no q p=>
     obtain⟨rfl,⟨a',k',S'⟩,T'⟩:=H
     have T'':=T1.trans T'
     go_wp2
     exact⟨rfl,rfl,⟨_,_,S'⟩,T''⟩
    |ok t a9=>
     obtain⟨rfl,S2,T'⟩:=H
     have T2:=T1.trans T'
     have G2:=Tn.blk T' G1 hgn
     clear T' S1 T1 G1
     obtain⟨⟨t1,t2,t3,t4,t5,t6,t7,t8⟩,tk⟩:=t
     unfold Tk.val
     simp only[]at S2⊢
     obtain⟨⟨k0,k1,k2,k3,k4,k5,k6,k7⟩,⟨f0,f1,f2,f3,f4,f5,f6,f7⟩⟩:=aS G2
     go_wp2
     exact bK h S2 T2 Tryz.results25 G2 rfl rfl fun S T=>⟨rfl,S,T⟩
   ·
    have hk3:¬(0:Int)<(k:Int):=by omega
    have C:=outside_any sb ao n cap f a1 st k tv _ S1 r hk2
    obtain⟨o,ho⟩:∃o,outside f n st r a1 k=o:=⟨_,rfl⟩
    rw[ho]at C
    obtain rfl:R=o:=by rw[←HR.out,←ho];simp[token,bind_ok,af,iA.out,h92,hk]
    clear HR ho
    go_wp2_with fail
    refine C.mono ?_
    intro e w2 H
    clear C
    cases R with
    |no q p=>
     obtain⟨rfl,⟨a',k',S'⟩,T'⟩:=H
     have T'':=T1.trans T'
     go_wp2
     exact⟨rfl,rfl,⟨_,_,S'⟩,T''⟩
    |ok t a9=>
     obtain⟨rfl,S2,T'⟩:=H
     have T2:=T1.trans T'
     have G2:=Tn.blk T' G1 hgn
     clear T' S1 T1 G1
     obtain⟨⟨t1,t2,t3,t4,t5,t6,t7,t8⟩,tk⟩:=t
     unfold Tk.val
     simp only[]at S2⊢
     obtain⟨⟨k0,k1,k2,k3,k4,k5,k6,k7⟩,⟨f0,f1,f2,f3,f4,f5,f6,f7⟩⟩:=aS G2
     go_wp2
     exact bK h S2 T2 Tryz.results25 G2 rfl rfl fun S T=>⟨rfl,S,T⟩
end Go.Proofs.YtgbkolonhddolaaGreatDoor.tok
section
namespace Go.Proofs.YtgbkolonhddolaaGreatDoor.tok
open utf(it len gL)
open lin(BA)
/--A step that began no earlier than st ends between lo and n; its fault stands between st and n. -/
def In{α:Type}(st lo n:Nat):Out α→Prop
 |.ok _ a=>lo≤a∧a≤n
 |.no c p=>c≠0∧st≤p∧p≤n
theorem In.bind{α β:Type}{st lo n:Nat}{o:Out α}{g:α→Nat→Out β}(h:In st lo n o)(hk:∀v a,lo≤a→a≤n→In st lo n (g v a)):In st lo n (o.bind g):=by
 cases o with
 |ok v a=>exact hk v a h.1 h.2
 |no c p=>exact h
theorem In.weak{α:Type}{st lo lo' n:Nat}{o:Out α}(h:In st lo n o)(hl:lo'≤lo):In st lo' n o:=by
 cases o with
 |ok v a=>exact⟨by have:=h.1;omega,h.2⟩
 |no c p=>exact h
theorem In.ite{α:Type}{st lo n:Nat}{c:Prop}[Decidable c]{x y:Out α}(hx:In st lo n x)(hy:In st lo n y):In st lo n (if c then x else y):=by split<;>assumption
/--What comes of a step has this property. -/
def Gives{α:Type}(P:α→Prop):Out α→Prop
 |.ok v _=>P v
 |.no _ _=>True
theorem Gives.bind{α β:Type}{P:β→Prop}{o:Out α}{g:α→Nat→Out β}(hk:∀v a,Gives P (g v a)):Gives P (o.bind g):=by
 cases o with
 |ok v a=>exact hk v a
 |no c p=>trivial
theorem Gives.ite{α:Type}{P:α→Prop}{c:Prop}[Decidable c]{x y:Out α}(hx:Gives P x)(hy:Gives P y):Gives P (if c then x else y):=by split<;>assumption
section
variable(f:Nat→Int)(n:Nat)
theorem JX(st:Nat):zw f st≠0:=by unfold zw;(repeat' split)<;>decide
theorem dA{α:Type}(st lo:Nat)(h:st≤n):In st lo n (bu f st:Out α):=⟨JX f st,Nat.le_refl _,h⟩
theorem rV(st a:Nat)(h:st≤a)(hs:st≤n):In st (a+1) n (point f n a):=by
 unfold point
 split
 ·rename_i ha
  have:=gL f n a ha
  split
  ·exact⟨by omega,by omega⟩
  ·exact⟨by decide,h,by omega⟩
 ·exact⟨by decide,hs,Nat.le_refl _⟩
theorem ic(st a:Nat)(h:st≤a)(hs:st≤n):In st (a+1) n (bL f n a):=by
 unfold bL
 split
 ·exact⟨by omega,by omega⟩
 ·exact⟨by decide,hs,Nat.le_refl _⟩
theorem qO(st:Nat)(c:Int)(a:Nat)(h:st≤a)(hs:st≤n):In st (a+1) n (want f n st c a):=by
 unfold want
 refine(ic f n st a h hs).bind fun v a' h1 h2=>?_
 split
 ·exact⟨h1,h2⟩
 ·exact dA f n st _ hs
theorem numR_in(st:Nat)(base:Int)(hs:st≤n):∀left acc first a,st≤a→In st (a+1) n (numR f n st base left acc first a):=by
 intro left
 induction left with
 |zero=>
  intro acc first a h
  rw[numR_step]
  refine(ic f n st a h hs).bind fun v a' h1 h2=>?_
  split
  ·exact dA f n st _ hs
  ·split
   ·exact dA f n st _ hs
   ·exact⟨h1,h2⟩
 |succ left ih=>
  intro acc first a h
  rw[numR_step]
  refine(ic f n st a h hs).bind fun v a' h1 h2=>?_
  split
  ·exact(ih _ _ a' (by omega)).weak (by omega)
  ·split
   ·exact dA f n st _ hs
   ·exact⟨h1,h2⟩
theorem mr(st:Nat)(base:Int)(most a:Nat)(hs:st≤n)(h:st≤a):In st (a+1) n (number f n st base most a):=numR_in f n st base hs most 0 true a h
theorem jQ(st b left a:Nat):nmR f n st b left a=(bL f n a).bind fun c a'=>
  if c=62∧b<a then .ok (bytes f b a) a'
  else match left with
  |0=>bu f st
  |left+1=>if nmC c (decide (a=b))=true then nmR f n st b left a' else bu f st:=by
 cases left<;>rfl
theorem nmR_in(st b:Nat)(hs:st≤n):∀left a,st≤a→In st (a+1) n (nmR f n st b left a):=by
 intro left
 induction left with
 |zero=>
  intro a h
  rw[jQ]
  refine(ic f n st a h hs).bind fun v a' h1 h2=>?_
  split
  ·exact⟨h1,h2⟩
  ·exact dA f n st _ hs
 |succ left ih=>
  intro a h
  rw[jQ]
  refine(ic f n st a h hs).bind fun v a' h1 h2=>?_
  split
  ·exact⟨h1,h2⟩
  ·simp only[]
   split
   ·exact(ih a' (by omega)).weak (by omega)
   ·exact dA f n st _ hs
theorem Em(st a:Nat)(hs:st≤n)(h:st≤a):In st (a+1) n (name f n st a):=nmR_in f n st a hs 20 a h
theorem K7(st:Nat)(hs:st≤n):∀m a,st≤a→In st (a+1) n (exprR f n m a):=by
 intro m
 induction m with
 |zero=>intro a h;exact⟨by decide,hs,Nat.le_refl _⟩
 |succ m ih=>
  intro a h
  simp only[exprR]
  refine(rV f n st a h hs).bind fun v a' h1 h2=>?_
  split
  ·exact⟨h1,h2⟩
  ·exact(ih a' (by omega)).weak (by omega)
theorem Kb(st b e:Nat)(h:st≤n)(he:e≤n):In st e n (meant f st b e):=by
 unfold meant
 split
 ·exact⟨Nat.le_refl _,he⟩
 ·rename_i hc;exact⟨hc,Nat.le_refl _,h⟩
theorem expr_in(st a:Nat)(hs:st≤n)(h:st≤a):In st (a+1) n (expr f n st a):=by
 unfold expr
 refine(qO f n st 123 a h hs).bind fun v b h1 h2=>?_
 refine((K7 f n st hs (n+1-b) b (by omega)).weak (by omega)).bind fun u e h3 h4=>?_
 exact(Kb f n st b e hs h4).weak h3
theorem KI(st a:Nat)(hs:st≤n)(h:st≤a):In st (a+1) n (hex f n st a):=by
 unfold hex
 refine(qO f n st 123 a h hs).bind fun v b h1 h2=>?_
 refine((mr f n st 16 6 b hs (by omega)).weak (by omega)).bind fun u e h3 h4=>?_
 split
 ·exact⟨h3,h4⟩
 ·exact dA f n st _ hs
theorem oK{a:Nat}{c:Int}(h:at_ f n a c=true):a<n∧f a=c:=by unfold at_ at h;simpa using h
theorem edge_in(st:Nat)(x y z:Int)(a:Nat)(hs:st≤n)(h:st≤a)(ha:a≤n):In st a n (edge f n st x y z a):=by
 unfold edge
 split
 ·refine((ic f n st (a+1) (by omega) hs).weak (by omega)).bind fun c b h1 h2=>?_
  split
  ·exact((qO f n st 125 b (by omega) hs).weak (by omega)).bind fun u e h3 h4=>⟨h3,h4⟩
  ·split
   ·exact((qO f n st 125 b (by omega) hs).weak (by omega)).bind fun u e h3 h4=>⟨h3,h4⟩
   ·exact dA f n st _ hs
 ·exact⟨Nat.le_refl _,ha⟩
theorem back_in(st a:Nat)(hs:st≤n)(h:st≤a):In st a n (back f n st a):=by
 unfold back
 refine((ic f n st a h hs).weak (by omega)).bind fun c b h1 h2=>?_
 split
 ·exact((Em f n st b hs (by omega)).weak (by omega)).bind fun u e h3 h4=>⟨h3,h4⟩
 ·split
  ·refine((mr f n st 10 2 b hs (by omega)).weak (by omega)).bind fun u e h3 h4=>?_
   split
   ·exact⟨h3,h4⟩
   ·exact dA f n st _ hs
  ·exact dA f n st _ hs
theorem wT(st:Nat)(x y:Int)(a:Nat)(ha:a≤n):In st a n (rep f n x y a):=by
 unfold rep
 split
 ·rename_i h;have:=oK f n h;exact⟨by omega,by omega⟩
 ·split
  ·rename_i h;have:=oK f n h;exact⟨by omega,by omega⟩
  ·exact⟨Nat.le_refl _,ha⟩
theorem Dm(st a:Nat)(hs:st≤n)(h:st≤a):In st a n (counted f n st a):=by
 unfold counted
 refine((mr f n st 10 3 a hs h).weak (by omega)).bind fun q b h1 h2=>?_
 split
 ·rename_i hq
  have:=oK f n hq.2
  split
  ·exact(wT f n st _ _ (b+1) (by omega)).weak (by omega)
  ·exact dA f n st _ hs
 ·split
  ·refine((mr f n st 10 3 b hs (by omega)).weak (by omega)).bind fun p e h3 h4=>?_
   split
   ·exact(wT f n st _ _ e h4).weak h3
   ·exact dA f n st _ hs
  ·split
   ·exact(wT f n st _ _ b h2).weak h1
   ·exact dA f n st _ hs
theorem zq(st a:Nat)(hs:st≤n)(h:st≤a)(ha:a≤n):In st a n (bG f n st a):=by
 unfold bG
 split
 ·rename_i h;have:=oK f n h;exact⟨by omega,by omega⟩
 ·split
  ·rename_i h;have:=oK f n h;exact⟨by omega,by omega⟩
  ·exact((Em f n st a hs h).weak (by omega)).bind fun u e h3 h4=>⟨h3,h4⟩
theorem open_in(st a:Nat)(hs:st≤n)(h:st≤a)(ha:a≤n):In st a n (open_ f n st a):=by
 unfold open_
 split
 ·refine((ic f n st (a+1) (by omega) hs).weak (by omega)).bind fun c b h1 h2=>?_
  (repeat' split)<;>first|exact⟨h1,h2⟩|exact(zq f n st b hs (by omega) h2).weak h1|exact dA f n st _ hs
 ·exact⟨Nat.le_refl _,ha⟩
theorem Am(st a:Nat)(ha:a≤n):In st a n (dV f n a):=by
 unfold dV
 split
 ·rename_i h;have:=oK f n h;exact⟨by omega,by omega⟩
 ·exact⟨Nat.le_refl _,ha⟩
theorem qN{st lo k:Nat}{o:Out Tk}(h:In st lo n o):In st lo n (o.with_ k):=h.bind fun v a h1 h2=>⟨h1,h2⟩
theorem EZ(st:Nat)(r:Int)(a k:Nat)(ha:a≤n):In st a n (within f n r a k):=by
 unfold within
 split
 ·exact qN n (Am f n st a ha)
 ·split
  ·exact⟨Nat.le_refl _,ha⟩
  ·split
   ·rename_i h;have:=oK f n h.2;exact⟨by omega,by omega⟩
   ·split
    ·rename_i h;have:=oK f n h.2;exact⟨by omega,by omega⟩
    ·split
     ·rename_i h;have:=oK f n h.2;exact⟨by omega,by omega⟩
     ·split<;>exact⟨Nat.le_refl _,ha⟩
theorem mark_in(st:Nat)(r:Int)(a:Nat)(hs:st≤n)(h:st≤a)(ha:a≤n):In st a n (mark f n st r a):=by
 unfold mark
 (repeat' split)<;>first|exact⟨Nat.le_refl _,ha⟩|exact open_in f n st a hs h ha|exact wT f n st _ _ a ha|exact Dm f n st a hs h
theorem Ce(st:Nat)(r:Int)(a k:Nat)(hs:st≤n)(h:st≤a)(ha:a≤n):In st a n (outside f n st r a k):=by
 unfold outside
 split
 ·exact qN n (Am f n st a ha)
 ·exact qN n (mark_in f n st r a hs h ha)
theorem vU(st:Nat)(r:Int)(a:Nat)(hs:st≤n)(h:st≤a)(ha:a≤n):In st a n (aB f n st r a):=by
 unfold aB
 (repeat' split)<;>first|exact⟨Nat.le_refl _,ha⟩|exact edge_in f n st _ _ _ a hs h ha|exact back_in f n st a hs h|exact dA f n st _ hs
theorem Hf(st a k:Nat)(hs:st≤n)(h:st≤a):In st a n (escape f n st a k):=by
 unfold escape
 refine((rV f n st a h hs).weak (by omega)).bind fun r b h1 h2=>?_
 have hx:=(expr_in f n st b hs (by omega)).weak (show a≤b+1 by omega)
 repeat' first|exact(vU f n st r b hs (by omega) h2).weak h1|exact(KI f n st b hs (by omega)).weak (by omega)|refine In.ite ?_ ?_
 all_goals first|exact⟨h1,h2⟩|exact hx.bind (fun u e h3 h4=>⟨h3,h4⟩)|exact(KI f n st b hs (by omega)).weak (by omega)|exact dA f n st _ hs|exact(vU f n st r b hs (by omega) h2).weak h1
theorem yI(st k:Nat)(hs:st≤n):In st (st+1) n (token f n st k):=by
 unfold token
 refine(rV f n st st (Nat.le_refl _) hs).bind fun r a h1 h2=>?_
 split
 ·exact qN n ((Hf f n st a k hs (by omega)).weak h1)
 ·split
  ·exact(EZ f n st r a k h2).weak h1
  ·exact(Ce f n st r a k hs (by omega) h2).weak h1
/--How many classes may be open behind a token; its kind. -/
def mX(k:Nat)(t:Tk×Nat):Prop:=t.2≤k+1∧1≤t.1.kind∧t.1.kind≤14
def Kind(t:Tk):Prop:=1≤t.kind∧t.kind≤14
theorem lY{k k':Nat}{o:Out Tk}(h:Gives Kind o)(hk:k'≤k+1):Gives (mX k) (o.with_ k'):=by
 cases o with
 |ok t a=>exact⟨hk,h⟩
 |no c p=>trivial
theorem kd{t:Tk}{a:Nat}(h:Kind t):Gives Kind (Out.ok t a):=h
theorem nY(x y:Int)(a:Nat):Gives Kind (rep f n x y a):=by unfold rep;(repeat' split)<;>exact⟨by show(1:Int)≤6;decide,by show(6:Int)≤14;decide⟩
theorem tF(a:Nat):Gives Kind (dV f n a):=by unfold dV;(repeat' split)<;>exact⟨by decide,by decide⟩
theorem xJ(st a:Nat):Gives Kind (counted f n st a):=by
 unfold counted
 refine Gives.bind fun q b=>?_
 split
 ·split
  ·exact nY f n _ _ _
  ·trivial
 ·split
  ·refine Gives.bind fun p e=>?_
   split
   ·exact nY f n _ _ _
   ·trivial
  ·split
   ·exact nY f n _ _ _
   ·trivial
theorem uy(st a:Nat):Gives Kind (bG f n st a):=by
 unfold bG
 (repeat' split)<;>first|exact⟨by decide,by decide⟩|exact Gives.bind fun q b=>⟨by show(1:Int)≤3;decide,by show(3:Int)≤14;decide⟩
theorem Gi(st a:Nat):Gives Kind (open_ f n st a):=by
 unfold open_
 split
 ·refine Gives.bind fun c b=>?_
  (repeat' split)<;>first|exact⟨by decide,by decide⟩|exact uy f n st b|trivial
 ·exact⟨by decide,by decide⟩
theorem Hq(st:Nat)(x y z:Int)(a:Nat):Gives Kind (edge f n st x y z a):=by
 unfold edge
 split
 ·refine Gives.bind fun c b=>?_
  (repeat' split)<;>first|exact Gives.bind fun q b=>⟨by show(1:Int)≤7;decide,by show(7:Int)≤14;decide⟩|trivial
 ·exact⟨by show(1:Int)≤7;decide,by show(7:Int)≤14;decide⟩
theorem Ij(st a:Nat):Gives Kind (back f n st a):=by
 unfold back
 refine Gives.bind fun c b=>?_
 split
 ·exact Gives.bind fun q b=>⟨by show(1:Int)≤9;decide,by show(9:Int)≤14;decide⟩
 ·split
  ·refine Gives.bind fun q b=>?_
   split
   ·exact⟨by show(1:Int)≤9;decide,by show(9:Int)≤14;decide⟩
   ·trivial
  ·trivial
theorem zP(st a:Nat):Gives Kind (hex f n st a):=by
 unfold hex
 refine Gives.bind fun c b=>Gives.bind fun q b=>?_
 split
 ·exact⟨by show(1:Int)≤1;decide,by show(1:Int)≤14;decide⟩
 ·trivial
theorem Gx(st:Nat)(r:Int)(a:Nat):Gives Kind (mark f n st r a):=by
 unfold mark
 (repeat' split)<;>first|exact⟨by show(1:Int)≤_;decide,by show _≤(14:Int);decide⟩|exact Gi f n st a|exact nY f n _ _ _|exact xJ f n st a|exact⟨by show(1:Int)≤1;decide,by show(1:Int)≤14;decide⟩
theorem qz(st:Nat)(r:Int)(a:Nat):Gives Kind (aB f n st r a):=by
 unfold aB
 (repeat' split)<;>first|exact⟨by show(1:Int)≤7;decide,by show(7:Int)≤14;decide⟩|exact Hq f n st _ _ _ a|exact⟨by show(1:Int)≤10;decide,by show(10:Int)≤14;decide⟩|exact Ij f n st a|exact⟨by show(1:Int)≤9;decide,by show(9:Int)≤14;decide⟩|trivial
theorem zX(st a k:Nat):Gives Kind (escape f n st a k):=by
 unfold escape
 refine Gives.bind fun r b=>?_
 repeat' first|exact qz f n st r b|exact zP f n st b|refine Gives.ite ?_ ?_
 all_goals first|exact⟨by show(1:Int)≤8;decide,by show(8:Int)≤14;decide⟩|exact⟨by show(1:Int)≤1;decide,by show(1:Int)≤14;decide⟩|exact Gives.bind (fun u e=>⟨by show(1:Int)≤8;decide,by show(8:Int)≤14;decide⟩)|exact zP f n st b|exact qz f n st r b|trivial
theorem yF(r:Int)(a k:Nat):Gives (mX k) (within f n r a k):=by
 unfold within
 split
 ·exact lY (tF f n a) (Nat.le_refl _)
 ·(repeat' split)<;>first|exact⟨by show k-1≤_;omega,by show(1:Int)≤12;decide,by show(12:Int)≤14;decide⟩|exact⟨by show k≤_;omega,by show(1:Int)≤14;decide,by show(14:Int)≤14;decide⟩|exact⟨by show k≤_;omega,by show(1:Int)≤13;decide,by show(13:Int)≤14;decide⟩|exact⟨by show k≤_;omega,by show(1:Int)≤1;decide,by show(1:Int)≤14;decide⟩
theorem Bq(st k:Nat):Gives (mX k) (token f n st k):=by
 unfold token
 refine Gives.bind fun r a=>?_
 split
 ·exact lY (zX f n st a k) (by omega)
 ·split
  ·exact yF f n r a k
  ·unfold outside
   split
   ·exact lY (tF f n a) (Nat.le_refl _)
   ·exact lY (Gx f n st r a) (by omega)
theorem ma{st k:Nat}{t:Tk×Nat}{a:Nat}(h:token f n st k=.ok t a)(hs:st≤n):st<a∧a≤n∧t.2≤k+1∧1≤t.1.kind∧t.1.kind≤14:=by
 have h1:=yI f n st k hs
 have h2:=Bq f n st k
 rw[h]at h1 h2
 exact⟨h1.1,h1.2,h2⟩
theorem BH:∀m a k,n≤a+m→∀m',n≤a+m'→scanR f n m a k=scanR f n m' a k:=by
 intro m
 induction m with
 |zero=>
  intro a k h m' hm
  cases m' with
  |zero=>rfl
  |succ m'=>simp only[scanR];rw[if_neg (by omega)]
 |succ m ih=>
  intro a k h m' hm
  cases m' with
  |zero=>simp only[scanR];rw[if_neg (by omega)]
  |succ m'=>
   simp only[scanR]
   by_cases ha:a<n
   ·rw[if_pos ha,if_pos ha]
    cases ho:token f n a k with
    |no c p=>rfl
    |ok t a'=>
     have:=ma f n ho (by omega)
     simp only[]
     rw[ih a' t.2 (by omega) m' (by omega)]
   ·rw[if_neg ha,if_neg ha]
/--What is left to scan. -/
def fe(a k:Nat):List Tk×Int×Nat:=scanR f n (n-a) a k
theorem Jq{a k:Nat}{t:Tk×Nat}{a':Nat}(h:token f n a k=.ok t a')(ha:a<n):fe f n a k=({t.1 with s:=a,e:=a'}::(fe f n a' t.2).1,(fe f n a' t.2).2):=by
 have hv:=ma f n h (by omega)
 unfold fe
 rw[show n-a=(n-a-1)+1 by omega]
 simp only[scanR]
 rw[if_pos ha,h]
 simp only[]
 rw[BH f n (n-a-1) a' t.2 (by omega) (n-a') (by omega)]
theorem Jr{a k:Nat}{c:Int}{p:Nat}(h:token f n a k=.no c p)(ha:a<n):fe f n a k=([],c,p):=by
 unfold fe
 rw[show n-a=(n-a-1)+1 by omega]
 simp only[scanR]
 rw[if_pos ha,h]
theorem FK(k:Nat):fe f n n k=([],0,0):=by unfold fe;rw[Nat.sub_self];rfl
theorem scanL_A(h:n≤2000):bD f n=fe f n 0 0:=by unfold bD fe;rw[if_pos h];rfl
end
end Go.Proofs.YtgbkolonhddolaaGreatDoor.tok
end
