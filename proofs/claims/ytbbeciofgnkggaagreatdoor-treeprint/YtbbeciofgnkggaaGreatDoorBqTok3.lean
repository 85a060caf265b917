import Derived.Test.YtbbeciofgnkggaaGreatDoorBqTok2
import Derived.Test.YtbbeciofgnkggaaGreatDoorBqNam2
import Derived.Laws.BytesArg
import Derived.Deep.LoopGhost
set_option linter.unusedSimpArgs false
set_option linter.unusedVariables false
set_option maxRecDepth 100000
set_option maxHeartbeats 8000000
namespace Go.Proofs.YtbbeciofgnkggaaGreatDoor.tok
open Go.RowKit
open lin(BA Turns)
theorem enc_any(r:Int)(w:World)(hm:utf.Marks w):
  Calls Tryz.prog 53 #[.int .i64 r] w fun e w'=>∃v,e=.returned (.tuple #[v,.bool (decide (utf.len r≠0))])∧Below w.heap.size w w':=by
 by_cases h:utf.len r=0
 ·refine(utf.enc_no r w h).mono ?_
  rintro e w'⟨rfl,rfl⟩
  exact⟨_,by rw[h];rfl,Below.refl _ _⟩
 ·refine(utf.enc_yes r w h hm).mono ?_
  rintro e w'⟨rfl,rfl⟩
  have:decide (utf.len r≠0)=true:=by simp[h]
  exact⟨_,by rw[this],(Below.refl _ _).alloc (Nat.le_refl _) _⟩
theorem hex_any(sb:Nat)(ao:Option Addr)(n cap:Nat)(f:Nat→Int)(a st k:Nat)(tv:Value)(w:World)(h:Sc w sb ao n cap f a st k tv):
  Calls Tryz.prog 138 #[.pointer (some ⟨sb,0,none⟩)] w (End w sb ao n cap f st k tv Tk.val (hex f n st a)):=by
 obtain⟨hlt,hgn,hgn',hgn2,S0,T0,G0⟩:=h.start
 obtain⟨R,hR,HR⟩:=hide (hex f n st a)
 rw[hR]
 clear hR
 go_enter Tryz.func138,Tryz.ntmps138
 have C:=want_any sb ao n cap f a st k tv _ S0 123
 obtain⟨o,ho,O01⟩:=hide (want f n st 123 a)
 rw[ho]at C
 clear ho
 go_wp2_with fail
 refine C.mono ?_
 intro e w1 H
 clear C
 cases o with
 |no q p=>
  obtain⟨rfl,⟨a',k',S'⟩,T'⟩:=H
  obtain rfl:R=.no q p:=by rw[←HR.out];simp[hex,bind_ok,bind_no,O01.out]
  have T'':=T0.trans T'
  go_wp2
  exact⟨rfl,rfl,⟨_,_,S'⟩,T''⟩
 |ok u a1=>
  obtain⟨rfl,S1,T'⟩:=H
  have T1:=T0.trans T'
  have G1:=Tn.blk T' G0 hgn
  clear T' S0 T0 G0
  unfold uv
  have C:=number_any sb ao n cap f a1 st k tv _ S1 16 6 (by decide) (by decide)
  obtain⟨o,ho,O12⟩:=hide (number f n st 16 6 a1)
  rw[ho]at C
  clear ho
  go_wp2_with fail
  refine C.mono ?_
  intro e w2 H
  clear C
  cases o with
  |no q p=>
   obtain⟨rfl,⟨a',k',S'⟩,T'⟩:=H
   obtain rfl:R=.no q p:=by rw[←HR.out];simp[hex,bind_ok,bind_no,O01.out,O12.out]
   have T'':=T1.trans T'
   go_wp2
   exact⟨rfl,rfl,⟨_,_,S'⟩,T''⟩
  |ok q a2=>
   obtain⟨rfl,S2,T'⟩:=H
   have T2:=T1.trans T'
   have G2:=Tn.blk T' G1 hgn
   clear T' S1 T1 G1
   obtain⟨r,m⟩:=q
   unfold nv
   simp only[]
   have C:=enc_any r w2 S2.mm
   go_wp2_with fail
   refine C.mono ?_
   rintro e w3⟨v,rfl,hb⟩
   clear C
   have S3:=S2.below hb
   have T3:=Tn.beyond T2 hb
   have G3:=(hb.block _ (Array.getElem?_eq_some_iff.1 G2).1).trans G2
   clear hb S2 T2 G2
   by_cases hl:utf.len r=0
   ·
    rw[show decide (utf.len r≠0)=false from by simp[hl]]
    obtain rfl:R=nope f st:=by rw[←HR.out];simp[hex,bind_ok,bind_no,O01.out,O12.out,hl]
    have C:=none_any sb ao n cap f (a2) st k tv _ S3
    clear HR
    go_wp2_with fail
    refine C.mono ?_
    rintro e w'⟨rfl,hb⟩
    have S':=S3.below hb
    have T':=Tn.beyond T3 hb
    go_wp2
    exact⟨rfl,rfl,⟨_,_,S'⟩,T'⟩
   ·
    rw[show decide (utf.len r≠0)=true from by simp[hl]]
    have HL:Hid (¬utf.len r=0):=hl
    by_cases hm:m=125
    ·
     subst hm
     obtain rfl:R=.ok (char r) (a2):=by rw[←HR.out];simp[hex,bind_ok,bind_no,O01.out,O12.out,hl]
     clear HR
     have C:=char_any r w3
     go_wp2_with fail
     refine C.mono ?_
     rintro e w4⟨rfl,hb⟩
     clear C
     obtain⟨S4,T4,G4⟩:=nxt S3 T3 G3 hb
     clear hb S3 T3 G3
     rw[show(char r).val=.agg #[.int .i64 1,.int .i64 (0),.int .i64 r,.int .i64 (0),.string ⟨#[]⟩,.bool false,.int .i64 (0),.int .i64 (0)]from rfl]
     obtain⟨⟨k0,k1,k2,k3,k4,k5,k6,k7⟩,⟨f0,f1,f2,f3,f4,f5,f6,f7⟩⟩:=blk8 G4
     go_wp2
     exact fin8 h S4 T4 Tryz.results138 G4 rfl rfl fun S T=>⟨rfl,S,T⟩
    ·
     have m1:(m==125)=false:=by simp[hm]
     have m2:(m !=125)=true:=by simp[hm]
     obtain rfl:R=nope f st:=by rw[←HR.out];simp[hex,bind_ok,bind_no,O01.out,O12.out,hl,hm]
     have C:=none_any sb ao n cap f (a2) st k tv _ S3
     clear HR
     go_wp2_with fail
     refine C.mono ?_
     rintro e w'⟨rfl,hb⟩
     have S':=S3.below hb
     have T':=Tn.beyond T3 hb
     go_wp2
     exact⟨rfl,rfl,⟨_,_,S'⟩,T'⟩
theorem openLeft_any(sb:Nat)(ao:Option Addr)(n cap:Nat)(f:Nat→Int)(a st k:Nat)(tv:Value)(w:World)(h:Sc w sb ao n cap f a st k tv):
  Calls Tryz.prog 157 #[.pointer (some ⟨sb,0,none⟩)] w (End w sb ao n cap f st k tv Tk.val (openLeft f n st a)):=by
 obtain⟨hlt,hgn,hgn',hgn2,S0,T0,G0⟩:=h.start
 obtain⟨R,hR,HR⟩:=hide (openLeft f n st a)
 rw[hR]
 clear hR
 go_enter Tryz.func157,Tryz.ntmps157
 have C:=accept_any sb ao n cap f (a) st k tv _ S0 61
 obtain⟨b,hq,Q01⟩:=hide (at_ f n (a) 61)
 rw[hq]at C
 clear hq
 go_wp2_with fail
 refine C.mono ?_
 rintro e w1⟨rfl,S1,T⟩
 have T1:=T0.trans T
 have G1:=Tn.blk T G0 hgn
 clear C T S0 T0 G0
 cases b with
 |true=>
  rw[if_pos rfl]at S1
  obtain rfl:R=.ok (opening 5) (a+1):=by rw[←HR.out];simp[openLeft,bind_ok,bind_no,Q01.out]
  clear HR
  have C:=opening_any 5 w1
  go_wp2_with fail
  refine C.mono ?_
  rintro e w2⟨rfl,hb⟩
  clear C
  obtain⟨S2,T2,G2⟩:=nxt S1 T1 G1 hb
  clear hb S1 T1 G1
  rw[show(opening 5).val=.agg #[.int .i64 3,.int .i64 5,.int .i64 (0),.int .i64 (0),.string ⟨#[]⟩,.bool false,.int .i64 (0),.int .i64 (0)]from rfl]
  obtain⟨⟨k0,k1,k2,k3,k4,k5,k6,k7⟩,⟨f0,f1,f2,f3,f4,f5,f6,f7⟩⟩:=blk8 G2
  go_wp2
  exact fin8 h S2 T2 Tryz.results157 G2 rfl rfl fun S T=>⟨rfl,S,T⟩
 |false=>
  rw[if_neg (by decide)]at S1
  have C:=accept_any sb ao n cap f (a) st k tv _ S1 33
  obtain⟨b,hq,Q12⟩:=hide (at_ f n (a) 33)
  rw[hq]at C
  clear hq
  go_wp2_with fail
  refine C.mono ?_
  rintro e w2⟨rfl,S2,T⟩
  have T2:=T1.trans T
  have G2:=Tn.blk T G1 hgn
  clear C T S1 T1 G1
  cases b with
  |true=>
   rw[if_pos rfl]at S2
   obtain rfl:R=.ok (opening 6) (a+1):=by rw[←HR.out];simp[openLeft,bind_ok,bind_no,Q01.out,Q12.out]
   clear HR
   have C:=opening_any 6 w2
   go_wp2_with fail
   refine C.mono ?_
   rintro e w3⟨rfl,hb⟩
   clear C
   obtain⟨S3,T3,G3⟩:=nxt S2 T2 G2 hb
   clear hb S2 T2 G2
   rw[show(opening 6).val=.agg #[.int .i64 3,.int .i64 6,.int .i64 (0),.int .i64 (0),.string ⟨#[]⟩,.bool false,.int .i64 (0),.int .i64 (0)]from rfl]
   obtain⟨⟨k0,k1,k2,k3,k4,k5,k6,k7⟩,⟨f0,f1,f2,f3,f4,f5,f6,f7⟩⟩:=blk8 G3
   go_wp2
   exact fin8 h S3 T3 Tryz.results157 G3 rfl rfl fun S T=>⟨rfl,S,T⟩
  |false=>
   rw[if_neg (by decide)]at S2
   have C:=opening_any 2 w2
   go_wp2_with fail
   refine C.mono ?_
   rintro e w3⟨rfl,hb⟩
   clear C
   obtain⟨S3,T3,G3⟩:=nxt S2 T2 G2 hb
   clear hb S2 T2 G2
   rw[show(opening 2).val=.agg #[.int .i64 3,.int .i64 2,.int .i64 (0),.int .i64 (0),.string ⟨#[]⟩,.bool false,.int .i64 (0),.int .i64 (0)]from rfl]
   have hln:w3.heap.size≠sb:=by have:=S3.lt;omega
   have hgl:w.heap.size<w3.heap.size:=(Array.getElem?_eq_some_iff.1 G3).1
   have L4:(w3.alloc (.cells #[.int .i64 3,.int .i64 2,.int .i64 (0),.int .i64 (0),.string ⟨#[]⟩,.bool false,.int .i64 (0),.int .i64 (0)] 97)).heap[w3.heap.size]?=some (.cells #[.int .i64 3,.int .i64 2,.int .i64 (0),.int .i64 (0),.string ⟨#[]⟩,.bool false,.int .i64 (0),.int .i64 (0)] 97 (0,0)):=World.alloc_heap_new _ _
   have S4:=S3.alloc (.cells #[.int .i64 3,.int .i64 2,.int .i64 (0),.int .i64 (0),.string ⟨#[]⟩,.bool false,.int .i64 (0),.int .i64 (0)] 97)
   have T4:=Tn.more T3 (.cells #[.int .i64 3,.int .i64 2,.int .i64 (0),.int .i64 (0),.string ⟨#[]⟩,.bool false,.int .i64 (0),.int .i64 (0)] 97)
   have G4:=(Below.heap_alloc w3 (.cells #[.int .i64 3,.int .i64 2,.int .i64 (0),.int .i64 (0),.string ⟨#[]⟩,.bool false,.int .i64 (0),.int .i64 (0)] 97) _ (Array.getElem?_eq_some_iff.1 G3).1).trans G3
   clear S3 T3 G3
   have C:=name_any sb ao n cap f a st k tv _ S4
   obtain⟨o,ho,O43⟩:=hide (name f n st a)
   rw[ho]at C
   clear ho
   go_wp2_with fail
   refine C.mono ?_
   intro e w5 H
   clear C
   cases o with
   |no q p=>
    obtain⟨rfl,⟨a',k',S'⟩,T'⟩:=H
    obtain rfl:R=.no q p:=by rw[←HR.out];simp[openLeft,bind_ok,bind_no,Q01.out,Q12.out,O43.out]
    have T'':=T4.trans T'
    go_wp2
    exact⟨rfl,rfl,⟨_,_,S'⟩,T''⟩
   |ok s a1=>
    obtain⟨rfl,S5,T'⟩:=H
    have T5:=T4.trans T'
    have G5:=Tn.blk T' G4 hgn
    have L5:=Tn.blk T' L4 hln
    clear T' S4 T4 G4
    unfold sv
    obtain rfl:R=.ok ⟨3,2,0,0,s,false,0,0⟩ a1:=by rw[←HR.out];simp[openLeft,bind_ok,bind_no,Q01.out,Q12.out,O43.out]
    clear HR
    obtain⟨⟨k0,k1,k2,k3,k4,k5,k6,k7⟩,⟨f0,f1,f2,f3,f4,f5,f6,f7⟩⟩:=blk8 G5
    obtain⟨⟨l0,l1,l2,l3,l4,l5,l6,l7⟩,⟨r0,r1,r2,r3,r4,r5,r6,r7⟩⟩:=blk8 L5
    have hq1:¬w.heap.size=w3.heap.size:=by omega
    have hq2:¬w3.heap.size=w.heap.size:=by omega
    go_wp2
    have SM:=Sc.later h S5 (p:=⟨w3.heap.size,4,none⟩) (by show w.heap.size≤w3.heap.size;omega) (.string (BA s))
    have TM:=Tn.new T5 (p:=⟨w3.heap.size,4,none⟩) (by show w.heap.size≤w3.heap.size;omega) (.string (BA s))
    have GM:=(heap_setCell_other _ ⟨w3.heap.size,4,none⟩ w.heap.size (.string (BA s)) (by show w.heap.size≠w3.heap.size;omega)).trans G5
    obtain⟨GF,SF,TF⟩:=set8 h SM TM GM (Nat.le_refl _) (.int .i64 3) (.int .i64 2) (.int .i64 (0)) (.int .i64 (0)) (.string (BA s)) (.bool false) (.int .i64 (0)) (.int .i64 (0))
    exact bodyPost_ret (results_cell_row Tryz.results157 _ _ w.heap.size _ _ _ _ rfl GF Tryz.underlying97 rfl infoTok) rfl ⟨rfl,SF,TF⟩
theorem open_any(sb:Nat)(ao:Option Addr)(n cap:Nat)(f:Nat→Int)(a st k:Nat)(tv:Value)(w:World)(h:Sc w sb ao n cap f a st k tv):
  Calls Tryz.prog 145 #[.pointer (some ⟨sb,0,none⟩)] w (End w sb ao n cap f st k tv Tk.val (open_ f n st a)):=by
 obtain⟨hlt,hgn,hgn',hgn2,S0,T0,G0⟩:=h.start
 obtain⟨R,hR,HR⟩:=hide (open_ f n st a)
 rw[hR]
 clear hR
 go_enter Tryz.func145,Tryz.ntmps145
 have C:=accept_any sb ao n cap f (a) st k tv _ S0 63
 obtain⟨b,hq,Q01⟩:=hide (at_ f n (a) 63)
 rw[hq]at C
 clear hq
 go_wp2_with fail
 refine C.mono ?_
 rintro e w1⟨rfl,S1,T⟩
 have T1:=T0.trans T
 have G1:=Tn.blk T G0 hgn
 clear C T S0 T0 G0
 cases b with
 |true=>
  rw[if_pos rfl]at S1
  have C:=octet_any sb ao n cap f (a+1) st k tv _ S1
  obtain⟨o,ho,O12⟩:=hide (octet f n (a+1))
  rw[ho]at C
  clear ho
  go_wp2_with fail
  refine C.mono ?_
  intro e w2 H
  clear C
  cases o with
  |no q p=>
   obtain⟨rfl,⟨a',k',S'⟩,T'⟩:=H
   obtain rfl:R=.no q p:=by rw[←HR.out];simp[open_,bind_ok,bind_no,Q01.out,O12.out]
   have T'':=T1.trans T'
   go_wp2
   exact⟨rfl,rfl,⟨_,_,S'⟩,T''⟩
  |ok c a1=>
   obtain⟨rfl,S2,T'⟩:=H
   have T2:=T1.trans T'
   have G2:=Tn.blk T' G1 hgn
   clear T' S1 T1 G1
   unfold iv
   rcases(show c=58∨c=61∨c=33∨c=62∨c=60∨(¬c=58∧¬c=61∧¬c=33∧¬c=62∧¬c=60)from by omega)with rfl|rfl|rfl|rfl|rfl|⟨n0,n1,n2,n3,n4⟩
   ·
    obtain rfl:R=.ok (opening 1) (a1):=by rw[←HR.out];simp[open_,bind_ok,bind_no,Q01.out,O12.out]
    clear HR
    have C:=opening_any 1 w2
    go_wp2_with fail
    refine C.mono ?_
    rintro e w3⟨rfl,hb⟩
    clear C
    obtain⟨S3,T3,G3⟩:=nxt S2 T2 G2 hb
    clear hb S2 T2 G2
    rw[show(opening 1).val=.agg #[.int .i64 3,.int .i64 1,.int .i64 (0),.int .i64 (0),.string ⟨#[]⟩,.bool false,.int .i64 (0),.int .i64 (0)]from rfl]
    obtain⟨⟨k0,k1,k2,k3,k4,k5,k6,k7⟩,⟨f0,f1,f2,f3,f4,f5,f6,f7⟩⟩:=blk8 G3
    go_wp2
    exact fin8 h S3 T3 Tryz.results145 G3 rfl rfl fun S T=>⟨rfl,S,T⟩
   ·
    obtain rfl:R=.ok (opening 3) (a1):=by rw[←HR.out];simp[open_,bind_ok,bind_no,Q01.out,O12.out]
    clear HR
    have C:=opening_any 3 w2
    go_wp2_with fail
    refine C.mono ?_
    rintro e w3⟨rfl,hb⟩
    clear C
    obtain⟨S3,T3,G3⟩:=nxt S2 T2 G2 hb
    clear hb S2 T2 G2
    rw[show(opening 3).val=.agg #[.int .i64 3,.int .i64 3,.int .i64 (0),.int .i64 (0),.string ⟨#[]⟩,.bool false,.int .i64 (0),.int .i64 (0)]from rfl]
    obtain⟨⟨k0,k1,k2,k3,k4,k5,k6,k7⟩,⟨f0,f1,f2,f3,f4,f5,f6,f7⟩⟩:=blk8 G3
    go_wp2
    exact fin8 h S3 T3 Tryz.results145 G3 rfl rfl fun S T=>⟨rfl,S,T⟩
   ·
    obtain rfl:R=.ok (opening 4) (a1):=by rw[←HR.out];simp[open_,bind_ok,bind_no,Q01.out,O12.out]
    clear HR
    have C:=opening_any 4 w2
    go_wp2_with fail
    refine C.mono ?_
    rintro e w3⟨rfl,hb⟩
    clear C
    obtain⟨S3,T3,G3⟩:=nxt S2 T2 G2 hb
    clear hb S2 T2 G2
    rw[show(opening 4).val=.agg #[.int .i64 3,.int .i64 4,.int .i64 (0),.int .i64 (0),.string ⟨#[]⟩,.bool false,.int .i64 (0),.int .i64 (0)]from rfl]
    obtain⟨⟨k0,k1,k2,k3,k4,k5,k6,k7⟩,⟨f0,f1,f2,f3,f4,f5,f6,f7⟩⟩:=blk8 G3
    go_wp2
    exact fin8 h S3 T3 Tryz.results145 G3 rfl rfl fun S T=>⟨rfl,S,T⟩
   ·
    obtain rfl:R=.ok (opening 7) (a1):=by rw[←HR.out];simp[open_,bind_ok,bind_no,Q01.out,O12.out]
    clear HR
    have C:=opening_any 7 w2
    go_wp2_with fail
    refine C.mono ?_
    rintro e w3⟨rfl,hb⟩
    clear C
    obtain⟨S3,T3,G3⟩:=nxt S2 T2 G2 hb
    clear hb S2 T2 G2
    rw[show(opening 7).val=.agg #[.int .i64 3,.int .i64 7,.int .i64 (0),.int .i64 (0),.string ⟨#[]⟩,.bool false,.int .i64 (0),.int .i64 (0)]from rfl]
    obtain⟨⟨k0,k1,k2,k3,k4,k5,k6,k7⟩,⟨f0,f1,f2,f3,f4,f5,f6,f7⟩⟩:=blk8 G3
    go_wp2
    exact fin8 h S3 T3 Tryz.results145 G3 rfl rfl fun S T=>⟨rfl,S,T⟩
   ·
    have C:=openLeft_any sb ao n cap f a1 st k tv _ S2
    obtain⟨o,ho⟩:∃o,openLeft f n st a1=o:=⟨_,rfl⟩
    rw[ho]at C
    obtain rfl:R=o:=by rw[←HR.out,←ho];simp[open_,bind_ok,bind_no,Q01.out,O12.out]
    clear HR ho
    go_wp2_with fail
    refine C.mono ?_
    intro e w3 H
    clear C
    cases R with
    |no q p=>
     obtain⟨rfl,⟨a',k',S'⟩,T'⟩:=H
     have T'':=T2.trans T'
     go_wp2
     exact⟨rfl,rfl,⟨_,_,S'⟩,T''⟩
    |ok t a9=>
     obtain⟨rfl,S3,T'⟩:=H
     have T3:=T2.trans T'
     have G3:=Tn.blk T' G2 hgn
     clear T' S2 T2 G2
     obtain⟨t1,t2,t3,t4,t5,t6,t7,t8⟩:=t
     unfold Tk.val
     obtain⟨⟨k0,k1,k2,k3,k4,k5,k6,k7⟩,⟨f0,f1,f2,f3,f4,f5,f6,f7⟩⟩:=blk8 G3
     go_wp2
     exact fin8 h S3 T3 Tryz.results145 G3 rfl rfl fun S T=>⟨rfl,S,T⟩
   ·
    have m0:(c==58)=false:=by simp[n0]
    have m1:(c==61)=false:=by simp[n1]
    have m2:(c==33)=false:=by simp[n2]
    have m3:(c==62)=false:=by simp[n3]
    have m4:(c==60)=false:=by simp[n4]
    obtain rfl:R=nope f st:=by rw[←HR.out];simp[open_,bind_ok,bind_no,Q01.out,O12.out,n0,n1,n2,n3,n4]
    have C:=none_any sb ao n cap f (a1) st k tv _ S2
    clear HR
    go_wp2_with fail
    refine C.mono ?_
    rintro e w'⟨rfl,hb⟩
    have S':=S2.below hb
    have T':=Tn.beyond T2 hb
    go_wp2
    exact⟨rfl,rfl,⟨_,_,S'⟩,T'⟩
 |false=>
  rw[if_neg (by decide)]at S1
  obtain rfl:R=.ok (opening 0) (a):=by rw[←HR.out];simp[open_,bind_ok,bind_no,Q01.out]
  clear HR
  have C:=opening_any 0 w1
  go_wp2_with fail
  refine C.mono ?_
  rintro e w2⟨rfl,hb⟩
  clear C
  obtain⟨S2,T2,G2⟩:=nxt S1 T1 G1 hb
  clear hb S1 T1 G1
  rw[show(opening 0).val=.agg #[.int .i64 3,.int .i64 0,.int .i64 (0),.int .i64 (0),.string ⟨#[]⟩,.bool false,.int .i64 (0),.int .i64 (0)]from rfl]
  obtain⟨⟨k0,k1,k2,k3,k4,k5,k6,k7⟩,⟨f0,f1,f2,f3,f4,f5,f6,f7⟩⟩:=blk8 G2
  go_wp2
  exact fin8 h S2 T2 Tryz.results145 G2 rfl rfl fun S T=>⟨rfl,S,T⟩
theorem back_any(sb:Nat)(ao:Option Addr)(n cap:Nat)(f:Nat→Int)(a st k:Nat)(tv:Value)(w:World)(h:Sc w sb ao n cap f a st k tv):
  Calls Tryz.prog 154 #[.pointer (some ⟨sb,0,none⟩)] w (End w sb ao n cap f st k tv Tk.val (back f n st a)):=by
 obtain⟨hlt,hgn,hgn',hgn2,S0,T0,G0⟩:=h.start
 obtain⟨R,hR,HR⟩:=hide (back f n st a)
 rw[hR]
 clear hR
 go_enter Tryz.func154,Tryz.ntmps154
 have C:=octet_any sb ao n cap f a st k tv _ S0
 obtain⟨o,ho,O01⟩:=hide (octet f n a)
 rw[ho]at C
 clear ho
 go_wp2_with fail
 refine C.mono ?_
 intro e w1 H
 clear C
 cases o with
 |no q p=>
  obtain⟨rfl,⟨a',k',S'⟩,T'⟩:=H
  obtain rfl:R=.no q p:=by rw[←HR.out];simp[back,bind_ok,bind_no,O01.out]
  have T'':=T0.trans T'
  go_wp2
  exact⟨rfl,rfl,⟨_,_,S'⟩,T''⟩
 |ok c a1=>
  obtain⟨rfl,S1,T'⟩:=H
  have T1:=T0.trans T'
  have G1:=Tn.blk T' G0 hgn
  clear T' S0 T0 G0
  unfold iv
  rcases(show c=60∨c=123∨(¬c=60∧¬c=123)from by omega)with rfl|rfl|⟨n0,n1⟩
  ·
   have C:=name_any sb ao n cap f a1 st k tv _ S1
   obtain⟨o,ho,O12⟩:=hide (name f n st a1)
   rw[ho]at C
   clear ho
   go_wp2_with fail
   refine C.mono ?_
   intro e w2 H
   clear C
   cases o with
   |no q p=>
    obtain⟨rfl,⟨a',k',S'⟩,T'⟩:=H
    obtain rfl:R=.no q p:=by rw[←HR.out];simp[back,bind_ok,bind_no,O01.out,O12.out]
    have T'':=T1.trans T'
    go_wp2
    exact⟨rfl,rfl,⟨_,_,S'⟩,T''⟩
   |ok s a2=>
    obtain⟨rfl,S2,T'⟩:=H
    have T2:=T1.trans T'
    have G2:=Tn.blk T' G1 hgn
    clear T' S1 T1 G1
    unfold sv
    obtain rfl:R=.ok (⟨9,0,0,0,s,false,0,0⟩) (a2):=by rw[←HR.out];simp[back,bind_ok,bind_no,O01.out,O12.out]
    clear HR
    obtain⟨⟨k0,k1,k2,k3,k4,k5,k6,k7⟩,⟨f0,f1,f2,f3,f4,f5,f6,f7⟩⟩:=blk8 G2
    go_wp2
    exact fin8 h S2 T2 Tryz.results154 G2 rfl rfl fun S T=>⟨rfl,S,T⟩
  ·
   have C:=number_any sb ao n cap f a1 st k tv _ S1 10 2 (by decide) (by decide)
   obtain⟨o,ho,O12⟩:=hide (number f n st 10 2 a1)
   rw[ho]at C
   clear ho
   go_wp2_with fail
   refine C.mono ?_
   intro e w2 H
   clear C
   cases o with
   |no q p=>
    obtain⟨rfl,⟨a',k',S'⟩,T'⟩:=H
    obtain rfl:R=.no q p:=by rw[←HR.out];simp[back,bind_ok,bind_no,O01.out,O12.out]
    have T'':=T1.trans T'
    go_wp2
    exact⟨rfl,rfl,⟨_,_,S'⟩,T''⟩
   |ok q a2=>
    obtain⟨rfl,S2,T'⟩:=H
    have T2:=T1.trans T'
    have G2:=Tn.blk T' G1 hgn
    clear T' S1 T1 G1
    obtain⟨r,m⟩:=q
    unfold nv
    simp only[]
    by_cases hm:m=125
    ·
     subst hm
     by_cases hr:0<r
     ·
      obtain rfl:R=.ok (⟨9,0,r,0,[],false,0,0⟩) (a2):=by rw[←HR.out];simp[back,bind_ok,bind_no,O01.out,O12.out,hr]
      clear HR
      obtain⟨⟨k0,k1,k2,k3,k4,k5,k6,k7⟩,⟨f0,f1,f2,f3,f4,f5,f6,f7⟩⟩:=blk8 G2
      go_wp2
      exact fin8 h S2 T2 Tryz.results154 G2 rfl rfl fun S T=>⟨rfl,S,T⟩
     ·
      obtain rfl:R=nope f st:=by rw[←HR.out];simp[back,bind_ok,bind_no,O01.out,O12.out,hr]
      have C:=none_any sb ao n cap f (a2) st k tv _ S2
      clear HR
      go_wp2_with fail
      refine C.mono ?_
      rintro e w'⟨rfl,hb⟩
      have S':=S2.below hb
      have T':=Tn.beyond T2 hb
      go_wp2
      exact⟨rfl,rfl,⟨_,_,S'⟩,T'⟩
    ·
     have m1:(m==125)=false:=by simp[hm]
     have m2:(m !=125)=true:=by simp[hm]
     obtain rfl:R=nope f st:=by rw[←HR.out];simp[back,bind_ok,bind_no,O01.out,O12.out,hm]
     have C:=none_any sb ao n cap f (a2) st k tv _ S2
     clear HR
     go_wp2_with fail
     refine C.mono ?_
     rintro e w'⟨rfl,hb⟩
     have S':=S2.below hb
     have T':=Tn.beyond T2 hb
     go_wp2
     exact⟨rfl,rfl,⟨_,_,S'⟩,T'⟩
  ·
   have m0:(c==60)=false:=by simp[n0]
   have m1:(c==123)=false:=by simp[n1]
   obtain rfl:R=nope f st:=by rw[←HR.out];simp[back,bind_ok,bind_no,O01.out,n0,n1]
   have C:=none_any sb ao n cap f (a1) st k tv _ S1
   clear HR
   go_wp2_with fail
   refine C.mono ?_
   rintro e w'⟨rfl,hb⟩
   have S':=S1.below hb
   have T':=Tn.beyond T1 hb
   go_wp2
   exact⟨rfl,rfl,⟨_,_,S'⟩,T'⟩
end Go.Proofs.YtbbeciofgnkggaaGreatDoor.tok
namespace Go.Proofs.YtbbeciofgnkggaaGreatDoor.tok
open Go.RowKit
open lin(BA Turns)
theorem octet_val{f:Nat→Int}{n a:Nat}{c:Int}{a':Nat}(h:octet f n a=.ok c a'):a<n∧c=f a∧a'=a+1:=by
 unfold octet at h;split at h
 ·rename_i hl;cases h;exact⟨hl,rfl,rfl⟩
 ·cases h
theorem numR_pos(f:Nat→Int)(n st:Nat)(base:Int)(hb:base=10∨base=16)(hf:∀i,0≤f i∧f i≤255):∀left acc first a q a',0≤acc→numR f n st base left acc first a=.ok q a'→0≤q.1:=by
 intro left
 induction left with
 |zero=>
  intro acc first a q a' ha h
  rw[numR_step]at h
  cases ho:octet f n a with
  |no c p=>rw[ho]at h;cases h
  |ok c a1=>
   rw[ho,bind_ok]at h
   split at h
   ·cases h
   ·split at h
    ·cases h
    ·cases h;exact ha
 |succ l ih=>
  intro acc first a q a' ha h
  rw[numR_step]at h
  cases ho:octet f n a with
  |no c p=>rw[ho]at h;cases h
  |ok c a1=>
   rw[ho,bind_ok]at h
   split at h
   ·rename_i hd
    obtain⟨_,hc,_⟩:=octet_val ho
    have:=dg_small c base (by rw[hc];exact(hf a).1) hd hb
    refine ih _ _ _ _ _ ?_ h
    rcases hb with e|e<;>(rw[e]at this⊢;omega)
   ·split at h
    ·cases h
    ·cases h;exact ha
theorem number_pos{f:Nat→Int}{n st:Nat}{base:Int}{most a:Nat}{q:Int×Int}{a':Nat}(hb:base=10∨base=16)(hf:∀i,0≤f i∧f i≤255)(h:number f n st base most a=.ok q a'):0≤q.1:=numR_pos f n st base hb hf most 0 true a q a' (by decide) h
theorem counted_any(sb:Nat)(ao:Option Addr)(n cap:Nat)(f:Nat→Int)(a st k:Nat)(tv:Value)(w:World)(h:Sc w sb ao n cap f a st k tv):
  Calls Tryz.prog 147 #[.pointer (some ⟨sb,0,none⟩)] w (End w sb ao n cap f st k tv Tk.val (counted f n st a)):=by
 obtain⟨hlt,hgn,hgn',hgn2,S0,T0,G0⟩:=h.start
 obtain⟨R,hR,HR⟩:=hide (counted f n st a)
 rw[hR]
 clear hR
 have HF:Hid (∀i,0≤f i∧f i≤255):=h.ff
 go_enter Tryz.func147,Tryz.ntmps147
 have C:=number_any sb ao n cap f a st k tv _ S0 10 3 (by decide) (by decide)
 obtain⟨o,ho,O01⟩:=hide (number f n st 10 3 a)
 rw[ho]at C
 clear ho
 go_wp2_with fail
 refine C.mono ?_
 intro e w1 H
 clear C
 cases o with
 |no q p=>
  obtain⟨rfl,⟨a',k',S'⟩,T'⟩:=H
  obtain rfl:R=.no q p:=by rw[←HR.out];simp[counted,bind_ok,bind_no,O01.out]
  have T'':=T0.trans T'
  go_wp2
  exact⟨rfl,rfl,⟨_,_,S'⟩,T''⟩
 |ok q a1=>
  obtain⟨rfl,S1,T'⟩:=H
  have T1:=T0.trans T'
  have G1:=Tn.blk T' G0 hgn
  clear T' S0 T0 G0
  have hx0:=number_pos (by decide) HF.out O01.out
  obtain⟨x,m⟩:=q
  unfold nv
  simp only[]at hx0⊢
  by_cases h44:m=44
  ·
   subst h44
   have C:=accept_any sb ao n cap f (a1) st k tv _ S1 125
   obtain⟨b,hq,Q12⟩:=hide (at_ f n (a1) 125)
   rw[hq]at C
   clear hq
   go_wp2_with fail
   refine C.mono ?_
   rintro e w2⟨rfl,S2,T⟩
   have T2:=T1.trans T
   have G2:=Tn.blk T G1 hgn
   clear C T S1 T1 G1
   cases b with
   |true=>
    rw[if_pos rfl]at S2
    by_cases hx:x≤100
    ·
     have hx2:¬100<x:=by omega
     have C:=repeat_any sb ao n cap f (a1+1) st k tv _ S2 x (-1)
     obtain⟨o,ho⟩:∃o,rep f n x (-1) (a1+1)=o:=⟨_,rfl⟩
     rw[ho]at C
     obtain rfl:R=o:=by rw[←HR.out,←ho];simp[counted,bind_ok,bind_no,O01.out,Q12.out,cntOk,hx]
     clear HR ho
     go_wp2_with fail
     refine C.mono ?_
     intro e w3 H
     clear C
     cases R with
     |no q p=>
      obtain⟨rfl,⟨a',k',S'⟩,T'⟩:=H
      have T'':=T2.trans T'
      go_wp2
      exact⟨rfl,rfl,⟨_,_,S'⟩,T''⟩
     |ok t a9=>
      obtain⟨rfl,S3,T'⟩:=H
      have T3:=T2.trans T'
      have G3:=Tn.blk T' G2 hgn
      clear T' S2 T2 G2
      obtain⟨t1,t2,t3,t4,t5,t6,t7,t8⟩:=t
      unfold Tk.val
      obtain⟨⟨k0,k1,k2,k3,k4,k5,k6,k7⟩,⟨f0,f1,f2,f3,f4,f5,f6,f7⟩⟩:=blk8 G3
      go_wp2
      exact fin8 h S3 T3 Tryz.results147 G3 rfl rfl fun S T=>⟨rfl,S,T⟩
    ·
     have hx2:100<x:=by omega
     obtain rfl:R=nope f st:=by rw[←HR.out];simp[counted,bind_ok,bind_no,O01.out,Q12.out,cntOk,hx]
     have C:=none_any sb ao n cap f (a1+1) st k tv _ S2
     clear HR
     go_wp2_with fail
     refine C.mono ?_
     rintro e w'⟨rfl,hb⟩
     have S':=S2.below hb
     have T':=Tn.beyond T2 hb
     go_wp2
     exact⟨rfl,rfl,⟨_,_,S'⟩,T'⟩
   |false=>
    rw[if_neg (by decide)]at S2
    have C:=number_any sb ao n cap f a1 st k tv _ S2 10 3 (by decide) (by decide)
    obtain⟨o,ho,O23⟩:=hide (number f n st 10 3 a1)
    rw[ho]at C
    clear ho
    go_wp2_with fail
    refine C.mono ?_
    intro e w3 H
    clear C
    cases o with
    |no q p=>
     obtain⟨rfl,⟨a',k',S'⟩,T'⟩:=H
     obtain rfl:R=.no q p:=by rw[←HR.out];simp[counted,bind_ok,bind_no,O01.out,Q12.out,O23.out]
     have T'':=T2.trans T'
     go_wp2
     exact⟨rfl,rfl,⟨_,_,S'⟩,T''⟩
    |ok q a2=>
     obtain⟨rfl,S3,T'⟩:=H
     have T3:=T2.trans T'
     have G3:=Tn.blk T' G2 hgn
     clear T' S2 T2 G2
     have hy0:=number_pos (by decide) HF.out O23.out
     obtain⟨y,m2⟩:=q
     unfold nv
     simp only[]at hy0⊢
     have hy1:¬y=-1:=by omega
     have hy2:(y !=-1)=true:=by simp[hy1]
     by_cases hm:m2=125
     ·
      subst hm
      by_cases hf:y<x
      ·
       obtain rfl:R=nope f st:=by rw[←HR.out];simp[counted,bind_ok,bind_no,O01.out,Q12.out,O23.out,cntOk,hf,hy1,show¬x≤y from by omega]
       have C:=none_any sb ao n cap f (a2) st k tv _ S3
       clear HR
       go_wp2_with fail
       refine C.mono ?_
       rintro e w'⟨rfl,hb⟩
       have S':=S3.below hb
       have T':=Tn.beyond T3 hb
       go_wp2
       exact⟨rfl,rfl,⟨_,_,S'⟩,T'⟩
      ·
       have hf2:¬y<x:=hf
       have hmx:max x y=y:=by omega
       by_cases hx:y≤100
       ·
        have hx2:¬100<y:=by omega
        have hx3:¬100<x:=by omega
        have C:=repeat_any sb ao n cap f a2 st k tv _ S3 x y
        obtain⟨o,ho⟩:∃o,rep f n x y a2=o:=⟨_,rfl⟩
        rw[ho]at C
        obtain rfl:R=o:=by rw[←HR.out,←ho];simp[counted,bind_ok,bind_no,O01.out,Q12.out,O23.out,cntOk,hx,hy1,show x≤y from by omega,show x≤100 from by omega]
        clear HR ho
        go_wp2_with fail
        refine C.mono ?_
        intro e w4 H
        clear C
        cases R with
        |no q p=>
         obtain⟨rfl,⟨a',k',S'⟩,T'⟩:=H
         have T'':=T3.trans T'
         go_wp2
         exact⟨rfl,rfl,⟨_,_,S'⟩,T''⟩
        |ok t a9=>
         obtain⟨rfl,S4,T'⟩:=H
         have T4:=T3.trans T'
         have G4:=Tn.blk T' G3 hgn
         clear T' S3 T3 G3
         obtain⟨t1,t2,t3,t4,t5,t6,t7,t8⟩:=t
         unfold Tk.val
         obtain⟨⟨k0,k1,k2,k3,k4,k5,k6,k7⟩,⟨f0,f1,f2,f3,f4,f5,f6,f7⟩⟩:=blk8 G4
         go_wp2
         exact fin8 h S4 T4 Tryz.results147 G4 rfl rfl fun S T=>⟨rfl,S,T⟩
       ·
        have hx2:100<y:=by omega
        obtain rfl:R=nope f st:=by rw[←HR.out];simp[counted,bind_ok,bind_no,O01.out,Q12.out,O23.out,cntOk,hx]
        have C:=none_any sb ao n cap f (a2) st k tv _ S3
        clear HR
        go_wp2_with fail
        refine C.mono ?_
        rintro e w'⟨rfl,hb⟩
        have S':=S3.below hb
        have T':=Tn.beyond T3 hb
        go_wp2
        exact⟨rfl,rfl,⟨_,_,S'⟩,T'⟩
     ·
      have m3:(m2==125)=false:=by simp[hm]
      have m4:(m2 !=125)=true:=by simp[hm]
      obtain rfl:R=nope f st:=by rw[←HR.out];simp[counted,bind_ok,bind_no,O01.out,Q12.out,O23.out,cntOk,hm]
      have C:=none_any sb ao n cap f (a2) st k tv _ S3
      clear HR
      go_wp2_with fail
      refine C.mono ?_
      rintro e w'⟨rfl,hb⟩
      have S':=S3.below hb
      have T':=Tn.beyond T3 hb
      go_wp2
      exact⟨rfl,rfl,⟨_,_,S'⟩,T'⟩
  ·
   have m0:(m==44)=false:=by simp[h44]
   have hx1:¬x=-1:=by omega
   have hx4:(x !=-1)=true:=by simp[hx1]
   have hxx:¬x<x:=by omega
   by_cases hm:m=125
   ·
    subst hm
    by_cases hx:x≤100
    ·
     have hx2:¬100<x:=by omega
     have C:=repeat_any sb ao n cap f a1 st k tv _ S1 x x
     obtain⟨o,ho⟩:∃o,rep f n x x a1=o:=⟨_,rfl⟩
     rw[ho]at C
     obtain rfl:R=o:=by rw[←HR.out,←ho];simp[counted,bind_ok,bind_no,O01.out,cntOk,hx]
     clear HR ho
     go_wp2_with fail
     refine C.mono ?_
     intro e w2 H
     clear C
     cases R with
     |no q p=>
      obtain⟨rfl,⟨a',k',S'⟩,T'⟩:=H
      have T'':=T1.trans T'
      go_wp2
      exact⟨rfl,rfl,⟨_,_,S'⟩,T''⟩
     |ok t a9=>
      obtain⟨rfl,S2,T'⟩:=H
      have T2:=T1.trans T'
      have G2:=Tn.blk T' G1 hgn
      clear T' S1 T1 G1
      obtain⟨t1,t2,t3,t4,t5,t6,t7,t8⟩:=t
      unfold Tk.val
      obtain⟨⟨k0,k1,k2,k3,k4,k5,k6,k7⟩,⟨f0,f1,f2,f3,f4,f5,f6,f7⟩⟩:=blk8 G2
      go_wp2
      exact fin8 h S2 T2 Tryz.results147 G2 rfl rfl fun S T=>⟨rfl,S,T⟩
    ·
     have hx2:100<x:=by omega
     obtain rfl:R=nope f st:=by rw[←HR.out];simp[counted,bind_ok,bind_no,O01.out,cntOk,hx]
     have C:=none_any sb ao n cap f (a1) st k tv _ S1
     clear HR
     go_wp2_with fail
     refine C.mono ?_
     rintro e w'⟨rfl,hb⟩
     have S':=S1.below hb
     have T':=Tn.beyond T1 hb
     go_wp2
     exact⟨rfl,rfl,⟨_,_,S'⟩,T'⟩
   ·
    have m3:(m==125)=false:=by simp[hm]
    have m4:(m !=125)=true:=by simp[hm]
    obtain rfl:R=nope f st:=by rw[←HR.out];simp[counted,bind_ok,bind_no,O01.out,cntOk,hm,h44]
    have C:=none_any sb ao n cap f (a1) st k tv _ S1
    clear HR
    go_wp2_with fail
    refine C.mono ?_
    rintro e w'⟨rfl,hb⟩
    have S':=S1.below hb
    have T':=Tn.beyond T1 hb
    go_wp2
    exact⟨rfl,rfl,⟨_,_,S'⟩,T'⟩
end Go.Proofs.YtbbeciofgnkggaaGreatDoor.tok
namespace Go.Proofs.YtbbeciofgnkggaaGreatDoor.tok
open Go.RowKit
open lin(BA Turns)
theorem point_val{f:Nat→Int}{n a:Nat}{c:Int}{a':Nat}(h:point f n a=.ok c a'):a<n∧a<a'∧a'≤n:=by
 unfold point at h;split at h
 ·rename_i hl
  have:=utf.it_end f n a hl
  split at h
  ·cases h;exact⟨hl,by omega,by omega⟩
  ·cases h
 ·cases h
theorem exprR_fuel(f:Nat→Int)(n:Nat):∀m a,n+1≤a+m→∀m',n+1≤a+m'→exprR f n m a=exprR f n m' a:=by
 intro m
 induction m with
 |zero=>
  intro a h m' hm
  cases m' with
  |zero=>rfl
  |succ m'=>simp only[exprR];unfold point;rw[if_neg (by omega)];rfl
 |succ m ih=>
  intro a h m' hm
  cases m' with
  |zero=>simp only[exprR];unfold point;rw[if_neg (by omega)];rfl
  |succ m'=>
   simp only[exprR]
   cases ho:point f n a with
   |no c p=>rfl
   |ok c a'=>
    have:=point_val ho
    rw[bind_ok,bind_ok,ih a' (by omega) m' (by omega)]
theorem exprR_step(f:Nat→Int)(n a:Nat):exprR f n (n+1-a) a=(point f n a).bind fun r a'=>if r=125 then .ok () a' else exprR f n (n+1-a') a':=by
 by_cases ha:a<n
 ·rw[show n+1-a=(n-a)+1 by omega]
  simp only[exprR]
  cases ho:point f n a with
  |no c p=>rfl
  |ok c a'=>
   have:=point_val ho
   rw[bind_ok,bind_ok,exprR_fuel f n (n-a) a' (by omega) (n+1-a') (by omega)]
 ·have e:point f n a=.no 130 n:=by unfold point;rw[if_neg ha]
  rw[e,bind_no]
  cases hm:n+1-a with
  |zero=>rfl
  |succ m=>simp only[exprR];rw[e];rfl
theorem alone_small(l:List UInt8):(nam.aloneL l).2.1.length≤100:=by
 unfold nam.aloneL
 (repeat' split)<;>first|(rename_i r h;have:=nam.rows_small r (nam.look_mem h).1;simp only[];omega)|simp
theorem both_small(p v:List UInt8):(nam.bothL p v).2.1.length≤100:=by
 unfold nam.bothL
 (repeat' split)<;>first|(rename_i r h;have:=nam.rows_small r (nam.look_mem h).1;simp only[];omega)|simp
theorem resolve_small(s:ByteArray):(nam.resolveV s).2.1.length≤100:=by
 unfold nam.resolveV
 split
 ·exact alone_small _
 ·exact both_small _ _
theorem expression_any(sb:Nat)(ao:Option Addr)(n cap:Nat)(f:Nat→Int)(a st k:Nat)(tv:Value)(w:World)(h:Sc w sb ao n cap f a st k tv):
  Calls Tryz.prog 136 #[.pointer (some ⟨sb,0,none⟩)] w (End w sb ao n cap f st k tv sv (expr f n st a)):=by
 obtain⟨R,hR⟩:∃R,expr f n st a=R:=⟨_,rfl⟩
 rw[hR]
 have HR:Hid (expr f n st a=R):=hR
 clear hR
 have C:=want_any sb ao n cap f a st k tv w h 123
 obtain⟨o,ho⟩:∃o,want f n st 123 a=o:=⟨_,rfl⟩
 rw[ho]at C
 have O1:Hid (want f n st 123 a=o):=ho
 clear ho
 go_enter Tryz.func136,Tryz.ntmps136
 go_wp2_with fail
 refine C.mono ?_
 intro e w1 H
 clear C
 cases o with
 |no q p=>
  obtain⟨rfl,⟨a',k',S'⟩,T'⟩:=H
  obtain rfl:R=.no q p:=by rw[←HR.out];simp[expr,O1.out,bind_no]
  go_wp2
  exact⟨rfl,rfl,⟨_,_,S'⟩,T'⟩
 |ok u b0=>
  obtain⟨rfl,S1,T1⟩:=H
  have HR2:Hid (R=(exprR f n (n+1-b0) b0).bind fun _ e=>meant f st b0 e):=by unfold Hid;rw[←HR.out];unfold expr;rw[O1.out,bind_ok]
  clear HR O1
  unfold uv
  have hn:=S1.nn
  have hcc:=S1.cc
  have hb0:=S1.aa
  have c1:=S1.cells.2.1
  have HS1:Hid (Sc w1 sb ao n cap f b0 st k tv):=S1
  have HT1:Hid (Tn sb w w1):=T1
  clear S1 T1
  go_wp2
  go_loopg[](n-b0)(fun q wr=>∃a1:Nat,q=n-a1∧b0≤a1∧a1≤n∧Hid (R=(exprR f n (n+1-a1) a1).bind fun _ e=>meant f st b0 e)∧Hid (Sc wr sb ao n cap f a1 st k tv)∧Hid (Tn sb w wr))
  case atStart=>exact⟨b0,rfl,Nat.le_refl _,hb0,HR2,HS1,HT1⟩
  case round=>
   obtain⟨a1,hq,hba,han,HQ,HW,HT⟩:=hrel
   have P:=point_any sb ao n cap f a1 st k tv wr HW.out
   obtain⟨o,ho⟩:∃o,point f n a1=o:=⟨_,rfl⟩
   rw[ho]at P
   have HQ2:Hid (R=(o.bind fun r a'=>if r=125 then .ok () a' else exprR f n (n+1-a') a').bind fun _ e=>meant f st b0 e):=by unfold Hid;rw[HQ.out,exprR_step,ho]
   have HV:Hid (∀c a',o=.ok c a'→a1<n∧a1<a'∧a'≤n):=fun c a' e=>by rw[←ho]at e;exact point_val e
   clear ho HQ HR2 HS1 HT1
   go_wp2_with fail
   refine P.mono ?_
   intro e w2 H
   clear P
   cases o with
   |no q p=>
    obtain⟨rfl,⟨a',k',S'⟩,T'⟩:=H
    obtain rfl:R=.no q p:=HQ2.out
    have T'':=HT.out.trans T'
    go_wp2
    exact⟨rfl,rfl,⟨_,_,S'⟩,T''⟩
   |ok c a2=>
    obtain⟨rfl,S2,T'⟩:=H
    have T2:=HT.out.trans T'
    obtain⟨v1,v2,v3⟩:=HV.out c a2 rfl
    clear HV HT HW T'
    unfold iv
    by_cases hc:c=125
    ·subst hc
     have HQ3:Hid (R=meant f st b0 a2):=HQ2.out
     obtain⟨d0,d1,d2,-⟩:=S2.cells
     obtain⟨b,off,rfl,hbn,-⟩:=S2.byt
     have CV:=S2.conv b0 (a2-1) (cap-b0) (by omega) (by omega)
     have CVD:=S2.drew.conv b0 (a2-1) (cap-b0) (by omega) (by omega)
     have HS2:Hid (Sc w2 sb (some ⟨b,off,none⟩) n cap f a2 st k tv):=S2
     have HT2:Hid (Tn sb w w2):=T2
     have hsz:(BA (bytes f b0 (a2-1))).size≤2000:=by rw[lin.BA_size,bytes_len];omega
     obtain⟨X,hX⟩:∃X,BA (bytes f b0 (a2-1))=X:=⟨_,rfl⟩
     have HM:Hid (R=if(nam.resolveV X).2.2=0 then .ok (canonL (nam.resolveV X)) a2 else .no (nam.resolveV X).2.2 st):=by unfold Hid;rw[HQ3.out];unfold meant;rw[hX]
     have hsm:=resolve_small X
     rw[hX]at CV CVD hsz
     have RS:Hid (∀W,Below w2.heap.size w2 W→Calls Tryz.prog 151 #[.string X] W fun e w'=>e=.returned (.tuple #[.int .i64 (nam.resolveV X).1,.string (BA (nam.resolveV X).2.1),.int .i64 (nam.resolveV X).2.2])∧Below w2.heap.size w2 w'∧w'.cell? ⟨sb,0,none⟩=some (.slice (some ⟨b,off,none⟩) n cap)∧w'.cell? ⟨sb,1,none⟩=some (.int .i64 a2)∧(convert 47 9 (.slice (some ⟨b,off+b0,none⟩) (a2-1-b0) (cap-b0))).run Tryz.prog w'=.ok (.string X) w'):=fun W hW=>(nam.resolve_any X W (by omega)).mono fun e w' H=>
      have q:=hW.trans (H.2.mono hW.size)
      ⟨H.1,q,(HS2.out.below q).cells.1,(HS2.out.below q).cells.2.1,by rw[←hX];exact(HS2.out.below q).conv b0 (a2-1) (cap-b0) (by omega) (by omega)⟩
     clear HQ2 HQ3 hX S2 T2
     generalize nam.resolveV X=V at*
     have l1:(0:Int)≤(b0:Int):=by omega
     have l2:(b0:Int)≤(a2:Int)-1:=by omega
     have l3:(a2:Int)-1≤(cap:Int):=by omega
     have l4:(b0:Int)<(cap:Int):=by omega
     have l5:¬cap=b0:=by omega
     have l6:¬cap-b0=0:=by omega
     have l9:IntKind.i64.wrap ((a2:Int)-1)=(a2:Int)-1:=by rw[IntKind.wrap_i64];omega
     have lA:((a2:Int)-1).toNat=a2-1:=by omega
     have lB:((a2:Int)-1-(b0:Int)).toNat=a2-1-b0:=by omega
     go_wp2
     go_region_held3(fun w'=>w'.cell? ⟨sb,0,none⟩=some (.slice (some ⟨b,off,none⟩) n cap)∧w'.cell? ⟨sb,1,none⟩=some (.int .i64 a2)∧(convert 47 9 (.slice (some ⟨b,off+b0,none⟩) (a2-1-b0) (cap-b0))).run Tryz.prog w'=.ok (.string X) w')(go_keep)
      (first|(go_at_call 151;refine(RS.out _ ?_).mono ?_;(rotate_left;rintro e w3⟨rfl,hb3,m0,m1,m2⟩;rotate_right;(repeat' first|exact Below.refl _ _|assumption|refine below_drewN ?_ _|refine Below.setCell ?_ (by simp) _|refine Below.alloc ?_ (by simp) _))))
     have S3:=HS2.out.below hb3
     have T3:=Tn.beyond HT2.out hb3
     obtain⟨e0,e1,e2,-⟩:=S3.cells
     obtain⟨v1,v2,v3⟩:=V
     simp only[]at hsm HM⊢
     have hs1:ByteArray.size ⟨#[103,99,61]⟩=3:=rfl
     have hs2:ByteArray.size ⟨#[115,99,61]⟩=3:=rfl
     have hs3:(BA v2).size≤100:=hsm
     obtain⟨Y,hY⟩:∃Y,BA v2=Y:=⟨_,rfl⟩
     have HE1:Hid (BA ([103,99,61]++v2)=⟨#[103,99,61]⟩++Y):=by unfold Hid;rw[←hY];exact(nam.BA_app [103,99,61] v2).symm
     have HE2:Hid (BA ([115,99,61]++v2)=⟨#[115,99,61]⟩++Y):=by unfold Hid;rw[←hY];exact(nam.BA_app [115,99,61] v2).symm
     have HE3:Hid (BA v2=Y):=hY
     rw[hY]at hs3⊢
     clear hY RS HS2 HT2 CV CVD m0 m1 m2 hb3 hsm d0 d1 d2
     by_cases hv:v3=0
     ·subst hv
      have HM2:Hid (R=.ok (canonL (v1,v2,0)) a2):=HM.out
      rcases(show v1=1∨v1=2∨(¬v1=1∧¬v1=2)from by omega)with rfl|rfl|⟨n1,n2⟩
      ·obtain rfl:R=.ok ([103,99,61]++v2) a2:=HM2.out
       clear HM HM2
       go_wp2
       go_ret
       exact⟨by unfold sv;rw[HE1.out];rfl,S3,T3⟩
      ·obtain rfl:R=.ok ([115,99,61]++v2) a2:=HM2.out
       clear HM HM2
       go_wp2
       go_ret
       exact⟨by unfold sv;rw[HE2.out];rfl,S3,T3⟩
      ·obtain rfl:R=.ok v2 a2:=by rw[HM2.out];simp[canonL,n1,n2]
       have m1:(v1==1)=false:=by simp[n1]
       have m2:(v1==2)=false:=by simp[n2]
       clear HM HM2
       go_wp2
       go_ret
       exact⟨by unfold sv;rw[HE3.out];rfl,S3,T3⟩
     ·obtain rfl:R=.no v3 st:=by rw[HM.out,if_neg hv]
      have m1:(v3==0)=false:=by simp[hv]
      have m2:(v3 !=0)=true:=by simp[hv]
      clear HM HE1 HE2 HE3
      go_wp2
      exact⟨rfl,rfl,⟨_,_,S3⟩,T3⟩
    ·have HQ3:Hid (R=(exprR f n (n+1-a2) a2).bind fun _ e=>meant f st b0 e):=by unfold Hid;rw[HQ2.out,bind_ok,if_neg hc]
     have m1:(c==125)=false:=by simp[hc]
     have m2:(c !=125)=true:=by simp[hc]
     clear HQ2
     have hgm:n-a2<gk:=by omega
     go_wp2
     go_roundg(n-a2)
     case measure=>omega
     case rel=>exact⟨a2,rfl,by omega,v3,HQ3,S2,T2⟩
end Go.Proofs.YtbbeciofgnkggaaGreatDoor.tok
