import Derived.Test.YtgbkolonhddolaaGreatDoorBpTre10
import Derived.Test.YtgbkolonhddolaaGreatDoorBpTre8
import Derived.Test.YtgbkolonhddolaaGreatDoorBpNod1
set_option linter.unusedSimpArgs false
set_option linter.unusedVariables false
set_option maxRecDepth 10000
set_option maxHeartbeats 2000000
theorem Go.Proofs.YtgbkolonhddolaaGreatDoor.GX{p:Prop}(h:p):Go.RowKit.Hid p:=h
namespace Go.Proofs.YtgbkolonhddolaaGreatDoor.tre
open Go.RowKit nod
open rng(R RV aH ag below_drewN info_parts own_below')
open tok(PEnv TX ak)
theorem Sn.dS{w0 W W1:World}{base g z:Nat}{box:Array Value}{s:Wr}(S:Sn w0 W base g z box s W1)(G:Int)(hG:s.groups=G)(h20:G+1≤20)(nq:Nat):Sn w0 W base g z box s.dS ((W1.drewN nq).setCell ⟨g,4,none⟩ (.int .i64 (G+1))):=by
 subst hG
 have S':=S.quiet (below_drewN (Below.refl _ W1) nq)
 obtain⟨h1,h2⟩:=S'.cx.c.wr.set s.dS 2 (.int .i64 (s.groups+1)) rfl rfl (by simp[Wr.dS]) (by omega)
 have gg:=KP S.cx.gd h20
 exact S'.wrote h2 ⟨S'.cx.c.to h2 h1 gg.g.r0 gg.g.r1,gg⟩
/--The names of groups, as they are read. -/
theorem vF{w0 W:World}{base g:Nat}{s:Wr}(c:Cx w0 W base g s)(n:ByteArray):∃na nc,W.cell? ⟨g,5,none⟩=some (.slice na s.names.length nc)∧W.ownsRow base 9 1 (.slice na s.names.length nc) s.names.length (s.names.map Value.string)∧∀W',Below W.heap.size W W'→Calls Tryz.prog 40 #[.slice na s.names.length nc,.string n] W' fun e w'=>e=.returned (.bool (Lib.containsS s.names n))∧Below W.heap.size W w':=by
 have hlen:=c.gd.g.n1
 obtain⟨_,p,bv,nv,h1,_,_,hn⟩:=c.c.wr
 have hc:W.cell? ⟨g,5,none⟩=some nv:=by rw[Lib.cell_of_heap h1];rfl
 obtain⟨na,nc,hv⟩:∃na nc,nv=.slice na s.names.length nc:=by
  rcases hn.2 with⟨hv,hz⟩|⟨gb,cap,cur,hv,_⟩
  ·exact⟨none,0,by rw[hv,hz]⟩
  ·exact⟨_,_,hv⟩
 subst hv
 refine⟨na,nc,hc,hn,fun W' hb=>?_⟩
 have hn':=own_below' hn hb
 have fin:∀{e:Ending}{w':World}{r:Bool},(e=.returned (.bool r)∧w'=W')→(e=.returned (.bool r)∧Below W.heap.size W w'):=fun h=>⟨h.1,by rw[h.2];exact hb⟩
 rcases Nat.eq_zero_or_pos s.names.length with h0|h0
 ·have e0:s.names=[]:=List.eq_nil_of_length_eq_zero h0
  have ee:Lib.containsS s.names n=false:=by rw[e0];rfl
  rw[ee,h0]
  exact(Tryz.slices_Contains_string_empty na nc n W').mono fun e w' h=>fin h
 ·rcases hn'.2 with⟨_,hz⟩|⟨gb,cap,cur,hv,_⟩
  ·omega
  ·obtain⟨rfl,rfl⟩:na=some ⟨gb,0,none⟩∧nc=cap:=by simpa using hv
   have C:=Tryz.slices_Contains_string gb 0 s.names.length nc s.names n W' (Nat.le_refl _) (by omega) (fun j hj=>by
    rw[Nat.zero_add]
    have:=hn'.cells (g:=gb) rfl j (.string (s.names.getD j ByteArray.empty)) (by simp[List.getElem?_map,List.getElem?_eq_getElem hj,List.getD])
    rw[Addr.add_lit,Nat.zero_add]at this
    exact this)
   rw[List.take_of_length_le (Nat.le_refl _)]at C
   exact C.mono fun e w' h=>fin h
/--A name more. -/
theorem su{w0 W U V w4:World}{base g z:Nat}{box:Array Value}{s:Wr}(S:Sn w0 W base g z box s U)(hb:Below U.heap.size U V){na:Option Addr}{nc gb cp:Nat}(n:ByteArray)(hc:U.cell? ⟨g,5,none⟩=some (.slice na s.names.length nc))
  (gg:Gd (s.nam n))(ho:w4.ownsRow base 9 1 (.slice (some ⟨gb,0,none⟩) (s.names.length+1) cp) (s.names.length+1) (s.names.map Value.string++[.string n]))(hg:V.grownBy w4 (Value.slice na s.names.length nc).ownBlock):
  w4.cell? ⟨g,5,none⟩=some (.slice na s.names.length nc)∧w4.frozen? ⟨g,5,none⟩=false∧Sn w0 W base g z box (s.nam n) (w4.setCell ⟨g,5,none⟩ (.slice (some ⟨gb,0,none⟩) (s.names.length+1) cp)):=by
 have T:=S.quiet hb
 have hsz:base≤V.heap.size:=T.cx.c.size
 obtain⟨hB,p,bv,nv,h1,h2,h3,h4⟩:=T.cx.c.wr
 have hc':V.cell? ⟨g,5,none⟩=some nv:=by rw[Lib.cell_of_heap h1];rfl
 have hlt:=S.cx.c.wr.lt
 have hcv:V.cell? ⟨g,5,none⟩=some (.slice na s.names.length nc):=(hb.cell (p:=⟨g,5,none⟩) hlt).trans hc
 obtain rfl:nv=.slice na s.names.length nc:=by rw[hc']at hcv;exact Option.some.inj hcv
 have hgl:g<V.heap.size:=Nat.lt_of_lt_of_le hlt hb.size
 have hne:=az h4 h1 JZ
 have hb4:w4.heap[g]?=some (.cells #[p,bv,.int .i64 s.room,.int .i64 s.depth,.int .i64 s.groups,.slice na s.names.length nc] 79 (0,0)):=by
  rw[hg.block g hgl (fun e=>hne e.symm)];exact h1
 have ht:w4.ownsRow base 5 1 bv s.text.length (Lib.byteCells s.text):=h3.kept hg (by
  rcases h3.2 with⟨rfl,_⟩|⟨gn,cn,cur,rfl,hgn,hgg,_⟩
  ·exact .inl rfl
  ·right
   intro e
   have:=az h4 hgg neBS
   exact this (e.symm▸rfl))
 have hw:fu (w4.setCell ⟨g,5,none⟩ (.slice (some ⟨gb,0,none⟩) (s.names.length+1) cp)) base g (s.nam n):=by
  refine⟨hB,p,bv,.slice (some ⟨gb,0,none⟩) (s.names.length+1) cp,?_,h2,jh ht (az ht hb4 J2),?_⟩
  ·simp[World.setCell,Array.getElem?_modify,hb4,Wr.nam]
  ·have e1:(s.nam n).names.length=s.names.length+1:=by simp[Wr.nam]
   have e2:(s.nam n).names.map Value.string=s.names.map Value.string++[.string n]:=by simp[Wr.nam]
   rw[e1,e2]
   exact jh ho (az ho hb4 JZ)
 have hk:Kt base V (w4.setCell ⟨g,5,none⟩ (.slice (some ⟨gb,0,none⟩) (s.names.length+1) cp)):=by
  refine⟨(Below.grown (Below.refl _ V) hg hsz (fun k e=>(h4.lt k e).1)).setCell (p:=⟨g,5,none⟩) hB _,fun k cs t fr hk n1 n2 n3=>?_⟩
  have hkl:=(Array.getElem?_eq_some_iff.1 hk).1
  have hkg:k≠g:=by
   rintro rfl
   rw[h1]at hk
   simp only[Option.some.injEq,Obj.cells.injEq]at hk
   exact n1 hk.2.1.symm
  refine(Below.heap_setCell _ _ _ _ hkg).trans ((hg.block k hkl (fun e=>?_)).trans hk)
  exact az h4 hk n3 e.symm
 exact⟨by rw[Lib.cell_of_heap hb4];rfl,Lib.frozen_of_heap hb4 5,T.wrote hk ⟨T.cx.c.to hk hw gg.g.r0 gg.g.r1,gg⟩⟩
theorem mF:(Tryz.prog.info? 9).map (fun i=>(i.zero,i.size,i.bytes))=some (some (.string ⟨#[]⟩),1,16):=by kernel_rfl
theorem Ck:Tryz.prog.follows .mixedOrders=true:=by kernel_rfl
theorem ky(n:ByteArray)(hn:n.size≤140737488355327):(fC n).size≤140737488355331:=by unfold fC;rw[ByteArray.size_append,ByteArray.size_append];show 3+n.size+1≤_;omega
theorem group_0{w0 W:World}{base g:Nat}{s:Wr}(c:Cx w0 W base g s)(k m b:Int)(ng:Bool)(n:ByteArray)(sa:Option Addr)(sl sc:Nat)(ao:Option Addr)(nk cap:Nat)(hn:n.toList.isEmpty=true)(Pc:Option Wr)(HC:∀W',Cx w0 W' base g s→Met 91 #[.pointer (some ⟨g,0,none⟩),.string ⟨#[40,63,58]⟩,.agg #[.int .i64 k,.int .i64 m,.int .i64 0,.int .i64 b,.bool ng,.string n,.slice sa sl sc,.slice ao nk cap]] w0 W' base g (Pc)):Met 90 #[.pointer (some ⟨g,0,none⟩),.agg #[.int .i64 k,.int .i64 m,.int .i64 0,.int .i64 b,.bool ng,.string n,.slice sa sl sc,.slice ao nk cap]] w0 W base g (Pc):=by
 have HS:Hid (Sn w0 W base g W.heap.size #[.int .i64 k,.int .i64 m,.int .i64 0,.int .i64 b,.bool ng,.string n,.slice sa sl sc,.slice ao nk cap] s (W.alloc (.cells #[.int .i64 k,.int .i64 m,.int .i64 0,.int .i64 b,.bool ng,.string n,.slice sa sl sc,.slice ao nk cap] 26))):=Sn.start c _
 have HP:Hid (∀W',Sn w0 W base g W.heap.size #[.int .i64 k,.int .i64 m,.int .i64 0,.int .i64 b,.bool ng,.string n,.slice sa sl sc,.slice ao nk cap] s W'→Calls Tryz.prog 91 #[.pointer (some ⟨g,0,none⟩),.string ⟨#[40,63,58]⟩,.agg #[.int .i64 k,.int .i64 m,.int .i64 0,.int .i64 b,.bool ng,.string n,.slice sa sl sc,.slice ao nk cap]] W' fun e w'=>e=.returned (.bool (Pc).isSome)∧(∀s',Pc=some s'→Cx w0 w' base g s')∧Kt base W w'):=fun W' S=>Met.sn (HC W' S.cx) S
 unfold Met
 generalize Pc=P at*
 clear c HC
 go_enter Tryz.func90,Tryz.ntmps90
 go_wp2_with(first
  |(go_at_call 91;refine(HP.out _ HS.out).mono ?_;rintro e w9⟨rfl,d1,d2⟩;have HT1:Hid (∀s',_=some s'→Cx w0 w9 base g s'):=d1;have HT2:Hid (Kt base W w9):=d2;clear d1 d2))
 go_ret
 exact⟨ag (by first|rfl|simp),HT1.out,HT2.out⟩
theorem group_a{w0 W:World}{base g:Nat}{s:Wr}(c:Cx w0 W base g s)(k m b:Int)(ng:Bool)(n:ByteArray)(sa:Option Addr)(sl sc:Nat)(ao:Option Addr)(nk cap:Nat)(hn:n.toList.isEmpty=false):Met 90 #[.pointer (some ⟨g,0,none⟩),.agg #[.int .i64 k,.int .i64 m,.int .i64 0,.int .i64 b,.bool ng,.string n,.slice sa sl sc,.slice ao nk cap]] w0 W base g (none):=by
 have HS:Hid (Sn w0 W base g W.heap.size #[.int .i64 k,.int .i64 m,.int .i64 0,.int .i64 b,.bool ng,.string n,.slice sa sl sc,.slice ao nk cap] s (W.alloc (.cells #[.int .i64 k,.int .i64 m,.int .i64 0,.int .i64 b,.bool ng,.string n,.slice sa sl sc,.slice ao nk cap] 26))):=Sn.start c _
 have gc:=HS.out.cx.c.wr.gX
 have hg0:=c.gd.g.g0
 have hg1:=c.gd.g.g1
 have hgs:=c.c.wr.lt
 obtain⟨G,hG⟩:∃G,s.groups=G:=⟨_,rfl⟩
 rw[hG]at gc hg0 hg1
 have hw:IntKind.i64.wrap (G+1)=G+1:=by rw[IntKind.wrap_i64];omega
 have f1:¬(0:Int)=G+1:=by omega
 unfold Met
 clear c hG
 go_enter Tryz.func90,Tryz.ntmps90
 go_wp2
 go_quiet(fail)
 go_wp2
 go_ret
 exact aA rfl (HS.out.quiet (below_drewN (Below.refl _ _) _)).kt
theorem group_b{w0 W:World}{base g:Nat}{s:Wr}(c:Cx w0 W base g s)(k m a b:Int)(ng:Bool)(n:ByteArray)(sa:Option Addr)(sl sc:Nat)(ao:Option Addr)(nk cap:Nat)(h0:¬a=0)(h1:¬a=s.groups+1):Met 90 #[.pointer (some ⟨g,0,none⟩),.agg #[.int .i64 k,.int .i64 m,.int .i64 a,.int .i64 b,.bool ng,.string n,.slice sa sl sc,.slice ao nk cap]] w0 W base g (none):=by
 have HS:Hid (Sn w0 W base g W.heap.size #[.int .i64 k,.int .i64 m,.int .i64 a,.int .i64 b,.bool ng,.string n,.slice sa sl sc,.slice ao nk cap] s (W.alloc (.cells #[.int .i64 k,.int .i64 m,.int .i64 a,.int .i64 b,.bool ng,.string n,.slice sa sl sc,.slice ao nk cap] 26))):=Sn.start c _
 have gc:=HS.out.cx.c.wr.gX
 have hg0:=c.gd.g.g0
 have hg1:=c.gd.g.g1
 have hgs:=c.c.wr.lt
 obtain⟨G,hG⟩:∃G,s.groups=G:=⟨_,rfl⟩
 rw[hG]at gc hg0 hg1
 have hw:IntKind.i64.wrap (G+1)=G+1:=by rw[IntKind.wrap_i64];omega
 rw[hG]at h1
 have f0:(a==0)=false:=by simpa using h0
 unfold Met
 clear c hG
 go_enter Tryz.func90,Tryz.ntmps90
 go_wp2
 go_quiet(fail)
 go_wp2
 go_ret
 exact aA rfl (HS.out.quiet (below_drewN (Below.refl _ _) _)).kt
theorem group_c{w0 W:World}{base g:Nat}{s:Wr}(c:Cx w0 W base g s)(k m b G:Int)(ng:Bool)(n:ByteArray)(sa:Option Addr)(sl sc:Nat)(ao:Option Addr)(nk cap:Nat)(hG:s.groups=G)(h20:20<G+1):Met 90 #[.pointer (some ⟨g,0,none⟩),.agg #[.int .i64 k,.int .i64 m,.int .i64 (G+1),.int .i64 b,.bool ng,.string n,.slice sa sl sc,.slice ao nk cap]] w0 W base g (none):=by
 have HS:Hid (Sn w0 W base g W.heap.size #[.int .i64 k,.int .i64 m,.int .i64 (G+1),.int .i64 b,.bool ng,.string n,.slice sa sl sc,.slice ao nk cap] s (W.alloc (.cells #[.int .i64 k,.int .i64 m,.int .i64 (G+1),.int .i64 b,.bool ng,.string n,.slice sa sl sc,.slice ao nk cap] 26))):=Sn.start c _
 have gc:=HS.out.cx.c.wr.gX
 have hg0:=c.gd.g.g0
 have hg1:=c.gd.g.g1
 have hgs:=c.c.wr.lt
 have gf:=(show((W.alloc (.cells #[.int .i64 k,.int .i64 m,.int .i64 (G+1),.int .i64 b,.bool ng,.string n,.slice sa sl sc,.slice ao nk cap] 26))).frozen? ⟨g,4,none⟩=false from by obtain⟨_,p,bv,nv,h1,_⟩:=HS.out.cx.c.wr;exact Lib.frozen_of_heap h1 4)
 rw[hG]at gc hg0 hg1
 have hw:IntKind.i64.wrap (G+1)=G+1:=by rw[IntKind.wrap_i64];omega
 have f0:((G+1)==0)=false:=by simp;omega
 have f0':¬G+1=0:=by omega
 have f2:decide (20<G+1)=true:=decide_eq_true h20
 unfold Met
 clear c hG
 go_enter Tryz.func90,Tryz.ntmps90
 go_wp2
 go_quiet(fail)
 go_wp2
 go_ret
 exact aA rfl (HS.out.quiet (below_drewN (Below.refl _ _) _)).kt
theorem group_1{w0 W:World}{base g:Nat}{s:Wr}(c:Cx w0 W base g s)(k m b G:Int)(ng:Bool)(n:ByteArray)(sa:Option Addr)(sl sc:Nat)(ao:Option Addr)(nk cap:Nat)(hG:s.groups=G)(h20:G+1≤20)(hn:n.toList.isEmpty=true)(Pc:Option Wr)(HC:∀W',Cx w0 W' base g s.dS→Met 91 #[.pointer (some ⟨g,0,none⟩),.string ⟨#[40]⟩,.agg #[.int .i64 k,.int .i64 m,.int .i64 (G+1),.int .i64 b,.bool ng,.string n,.slice sa sl sc,.slice ao nk cap]] w0 W' base g (Pc)):Met 90 #[.pointer (some ⟨g,0,none⟩),.agg #[.int .i64 k,.int .i64 m,.int .i64 (G+1),.int .i64 b,.bool ng,.string n,.slice sa sl sc,.slice ao nk cap]] w0 W base g (Pc):=by
 have HS:Hid (Sn w0 W base g W.heap.size #[.int .i64 k,.int .i64 m,.int .i64 (G+1),.int .i64 b,.bool ng,.string n,.slice sa sl sc,.slice ao nk cap] s (W.alloc (.cells #[.int .i64 k,.int .i64 m,.int .i64 (G+1),.int .i64 b,.bool ng,.string n,.slice sa sl sc,.slice ao nk cap] 26))):=Sn.start c _
 have gc:=HS.out.cx.c.wr.gX
 have hg0:=c.gd.g.g0
 have hg1:=c.gd.g.g1
 have hgs:=c.c.wr.lt
 have gf:=(show((W.alloc (.cells #[.int .i64 k,.int .i64 m,.int .i64 (G+1),.int .i64 b,.bool ng,.string n,.slice sa sl sc,.slice ao nk cap] 26))).frozen? ⟨g,4,none⟩=false from by obtain⟨_,p,bv,nv,h1,_⟩:=HS.out.cx.c.wr;exact Lib.frozen_of_heap h1 4)
 rw[hG]at gc hg0 hg1
 have hw:IntKind.i64.wrap (G+1)=G+1:=by rw[IntKind.wrap_i64];omega
 have f0:((G+1)==0)=false:=by simp;omega
 have f0':¬G+1=0:=by omega
 have f2:decide (20<G+1)=false:=decide_eq_false (by omega)
 have HP:Hid (∀W',Sn w0 W base g W.heap.size #[.int .i64 k,.int .i64 m,.int .i64 (G+1),.int .i64 b,.bool ng,.string n,.slice sa sl sc,.slice ao nk cap] s.dS W'→Calls Tryz.prog 91 #[.pointer (some ⟨g,0,none⟩),.string ⟨#[40]⟩,.agg #[.int .i64 k,.int .i64 m,.int .i64 (G+1),.int .i64 b,.bool ng,.string n,.slice sa sl sc,.slice ao nk cap]] W' fun e w'=>e=.returned (.bool (Pc).isSome)∧(∀s',Pc=some s'→Cx w0 w' base g s')∧Kt base W w'):=fun W' S=>Met.sn (HC W' S.cx) S
 have HSG:Hid (∀nq,Sn w0 W base g W.heap.size #[.int .i64 k,.int .i64 m,.int .i64 (G+1),.int .i64 b,.bool ng,.string n,.slice sa sl sc,.slice ao nk cap] s.dS (((W.alloc (.cells #[.int .i64 k,.int .i64 m,.int .i64 (G+1),.int .i64 b,.bool ng,.string n,.slice sa sl sc,.slice ao nk cap] 26)).drewN nq).setCell ⟨g,4,none⟩ (.int .i64 (G+1)))):=fun nq=>Sn.dS HS.out G hG h20 nq
 unfold Met
 generalize Pc=P at*
 clear c HC hG
 go_enter Tryz.func90,Tryz.ntmps90
 go_wp2
 go_quiet(fail)
 go_wp2_with(first
  |(go_at_call 91;refine(HP.out _ (HSG.out _)).mono ?_;rintro e w9⟨rfl,d1,d2⟩;have HT1:Hid (∀s',_=some s'→Cx w0 w9 base g s'):=d1;have HT2:Hid (Kt base W w9):=d2;clear d1 d2))
 go_ret
 exact⟨ag (by first|rfl|simp),HT1.out,HT2.out⟩
end Go.Proofs.YtgbkolonhddolaaGreatDoor.tre
namespace Go.Proofs.YtgbkolonhddolaaGreatDoor.tre
open Go.RowKit nod
open rng(R RV aH ag below_drewN info_parts own_below')
open tok(PEnv TX ak)
theorem KR{w0 W:World}{base g:Nat}{s:Wr}(c:Cx w0 W base g s)(k m b G:Int)(ng:Bool)(n:ByteArray)(sa:Option Addr)(sl sc:Nat)(ao:Option Addr)(nk cap:Nat)(hG:s.groups=G)(h20:G+1≤20)(hn:n.toList.isEmpty=false)(hns:n.size≤140737488355327)(hq:fU (fC n) n=false):Met 90 #[.pointer (some ⟨g,0,none⟩),.agg #[.int .i64 k,.int .i64 m,.int .i64 (G+1),.int .i64 b,.bool ng,.string n,.slice sa sl sc,.slice ao nk cap]] w0 W base g (none):=by
  have HS:Hid (Sn w0 W base g W.heap.size #[.int .i64 k,.int .i64 m,.int .i64 (G+1),.int .i64 b,.bool ng,.string n,.slice sa sl sc,.slice ao nk cap] s (W.alloc (.cells #[.int .i64 k,.int .i64 m,.int .i64 (G+1),.int .i64 b,.bool ng,.string n,.slice sa sl sc,.slice ao nk cap] 26))):=Sn.start c _
  have gc:=HS.out.cx.c.wr.gX
  have hg0:=c.gd.g.g0
  have hg1:=c.gd.g.g1
  have hgs:=c.c.wr.lt
  have gf:=(show((W.alloc (.cells #[.int .i64 k,.int .i64 m,.int .i64 (G+1),.int .i64 b,.bool ng,.string n,.slice sa sl sc,.slice ao nk cap] 26))).frozen? ⟨g,4,none⟩=false from by obtain⟨_,p,bv,nv,h1,_⟩:=HS.out.cx.c.wr;exact Lib.frozen_of_heap h1 4)
  rw[hG]at gc hg0 hg1
  have hw:IntKind.i64.wrap (G+1)=G+1:=by rw[IntKind.wrap_i64];omega
  have f0:((G+1)==0)=false:=by simp;omega
  have f0':¬G+1=0:=by omega
  have f2:decide (20<G+1)=false:=decide_eq_false (by omega)
  have HSG:Hid (∀nq,Sn w0 W base g W.heap.size #[.int .i64 k,.int .i64 m,.int .i64 (G+1),.int .i64 b,.bool ng,.string n,.slice sa sl sc,.slice ao nk cap] s.dS (((W.alloc (.cells #[.int .i64 k,.int .i64 m,.int .i64 (G+1),.int .i64 b,.bool ng,.string n,.slice sa sl sc,.slice ao nk cap] 26)).drewN nq).setCell ⟨g,4,none⟩ (.int .i64 (G+1)))):=fun nq=>Sn.dS HS.out G hG h20 nq
  have hOs:=ky n hns
  have HN:Hid (∀V,Sn w0 W base g W.heap.size #[.int .i64 k,.int .i64 m,.int .i64 (G+1),.int .i64 b,.bool ng,.string n,.slice sa sl sc,.slice ao nk cap] s.dS V→∀W',Below V.heap.size V W'→Calls Tryz.prog 116 #[.string (fC n),.string n] W' fun e w'=>e=.returned (.bool (fU (fC n) n))∧Below V.heap.size V w'):=fun V S W' h=>(mD _ n (by omega) W' (S.quiet h).cx.c.penv.mks).mono fun e w'⟨h1,h2⟩=>⟨h1,h.trans (ae h2 h.size)⟩
  rw[hq]at HN
  have s1:ByteArray.size ⟨#[40,63,60]⟩=3:=rfl
  have s2:ByteArray.size ⟨#[62]⟩=1:=rfl
  unfold Met fC at*
  obtain⟨Y,hY⟩:∃Y,(⟨#[40,63,60]⟩:ByteArray)++n=Y:=⟨_,rfl⟩
  have d1:Y.size=n.size+3:=by rw[←hY,ByteArray.size_append,s1];omega
  rw[hY]at*
  obtain⟨OT,hOT⟩:∃OT,Y++(⟨#[62]⟩:ByteArray)=OT:=⟨_,rfl⟩
  rw[hOT]at*
  clear c hG hq
  go_enter Tryz.func90,Tryz.ntmps90
  go_wp2
  go_quiet(fail)
  go_wp2
  obtain⟨V,HV⟩:∃V,(((W.alloc (.cells #[.int .i64 k,.int .i64 m,.int .i64 (G+1),.int .i64 b,.bool ng,.string n,.slice sa sl sc,.slice ao nk cap] 26)).drewN nq).setCell ⟨g,4,none⟩ (.int .i64 (G+1)))=V:=⟨_,rfl⟩
  have SV:Sn w0 W base g W.heap.size #[.int .i64 k,.int .i64 m,.int .i64 (G+1),.int .i64 b,.bool ng,.string n,.slice sa sl sc,.slice ao nk cap] s.dS V:=HV▸HSG.out nq
  rw[HV]
  have K1:=HN.out V SV
  have ui:Hid True:=trivial
  have x5:∀p:nG V.heap.size V,p.w.cell? ⟨W.heap.size,5,none⟩=some (.string n):=fun p=>(SV.quiet p.h).bk.cell 5 rfl
  have HSV:=GX SV
  have oU:Hid _:=K1
  clear HN HSG SV K1 gc gf HS HV
  refine iF V.heap.size V Ck (by kernel_rfl) (Below.drew (Below.refl _ V)) ?_
  repeat (refine wpQuiet_step (fun K hK=>?_)
          go_simp
          first
            |(refine hK _ ?_;clear hK K)
            | (apply Exists.intro
               refine⟨fun _=>?_,hK _ ?_⟩
               (first
                 |(go_at_call 116;refine eP oU.out _)
                 |(go_at_call 40;refine eP ui.out _))
               clear hK K))
  refine wpQuiet_nil ?_
  rintro _⟨p,rfl⟩
  have HSP:=GX (HSV.out.quiet p.h)
  go_wp2
  go_ret
  exact aA rfl HSP.out.kt
theorem KQ{w0 W:World}{base g:Nat}{s:Wr}(c:Cx w0 W base g s)(k m b G:Int)(ng:Bool)(n:ByteArray)(sa:Option Addr)(sl sc:Nat)(ao:Option Addr)(nk cap:Nat)(hG:s.groups=G)(h20:G+1≤20)(hn:n.toList.isEmpty=false)(hns:n.size≤140737488355327)(hq:fU (fC n) n=true)(hc:Lib.containsS s.names n=true):Met 90 #[.pointer (some ⟨g,0,none⟩),.agg #[.int .i64 k,.int .i64 m,.int .i64 (G+1),.int .i64 b,.bool ng,.string n,.slice sa sl sc,.slice ao nk cap]] w0 W base g (none):=by
  have HS:Hid (Sn w0 W base g W.heap.size #[.int .i64 k,.int .i64 m,.int .i64 (G+1),.int .i64 b,.bool ng,.string n,.slice sa sl sc,.slice ao nk cap] s (W.alloc (.cells #[.int .i64 k,.int .i64 m,.int .i64 (G+1),.int .i64 b,.bool ng,.string n,.slice sa sl sc,.slice ao nk cap] 26))):=Sn.start c _
  have gc:=HS.out.cx.c.wr.gX
  have hg0:=c.gd.g.g0
  have hg1:=c.gd.g.g1
  have hgs:=c.c.wr.lt
  have gf:=(show((W.alloc (.cells #[.int .i64 k,.int .i64 m,.int .i64 (G+1),.int .i64 b,.bool ng,.string n,.slice sa sl sc,.slice ao nk cap] 26))).frozen? ⟨g,4,none⟩=false from by obtain⟨_,p,bv,nv,h1,_⟩:=HS.out.cx.c.wr;exact Lib.frozen_of_heap h1 4)
  rw[hG]at gc hg0 hg1
  have hw:IntKind.i64.wrap (G+1)=G+1:=by rw[IntKind.wrap_i64];omega
  have f0:((G+1)==0)=false:=by simp;omega
  have f0':¬G+1=0:=by omega
  have f2:decide (20<G+1)=false:=decide_eq_false (by omega)
  have HSG:Hid (∀nq,Sn w0 W base g W.heap.size #[.int .i64 k,.int .i64 m,.int .i64 (G+1),.int .i64 b,.bool ng,.string n,.slice sa sl sc,.slice ao nk cap] s.dS (((W.alloc (.cells #[.int .i64 k,.int .i64 m,.int .i64 (G+1),.int .i64 b,.bool ng,.string n,.slice sa sl sc,.slice ao nk cap] 26)).drewN nq).setCell ⟨g,4,none⟩ (.int .i64 (G+1)))):=fun nq=>Sn.dS HS.out G hG h20 nq
  have hOs:=ky n hns
  have HN:Hid (∀V,Sn w0 W base g W.heap.size #[.int .i64 k,.int .i64 m,.int .i64 (G+1),.int .i64 b,.bool ng,.string n,.slice sa sl sc,.slice ao nk cap] s.dS V→∀W',Below V.heap.size V W'→Calls Tryz.prog 116 #[.string (fC n),.string n] W' fun e w'=>e=.returned (.bool (fU (fC n) n))∧Below V.heap.size V w'):=fun V S W' h=>(mD _ n (by omega) W' (S.quiet h).cx.c.penv.mks).mono fun e w'⟨h1,h2⟩=>⟨h1,h.trans (ae h2 h.size)⟩
  rw[hq]at HN
  have HQC:Hid (Lib.containsS s.dS.names n=true):=hc
  have s1:ByteArray.size ⟨#[40,63,60]⟩=3:=rfl
  have s2:ByteArray.size ⟨#[62]⟩=1:=rfl
  unfold Met fC at*
  obtain⟨Y,hY⟩:∃Y,(⟨#[40,63,60]⟩:ByteArray)++n=Y:=⟨_,rfl⟩
  have d1:Y.size=n.size+3:=by rw[←hY,ByteArray.size_append,s1];omega
  rw[hY]at*
  obtain⟨OT,hOT⟩:∃OT,Y++(⟨#[62]⟩:ByteArray)=OT:=⟨_,rfl⟩
  rw[hOT]at*
  clear c hG hq hc
  go_enter Tryz.func90,Tryz.ntmps90
  go_wp2
  go_quiet(fail)
  go_wp2
  obtain⟨V,HV⟩:∃V,(((W.alloc (.cells #[.int .i64 k,.int .i64 m,.int .i64 (G+1),.int .i64 b,.bool ng,.string n,.slice sa sl sc,.slice ao nk cap] 26)).drewN nq).setCell ⟨g,4,none⟩ (.int .i64 (G+1)))=V:=⟨_,rfl⟩
  have SV:Sn w0 W base g W.heap.size #[.int .i64 k,.int .i64 m,.int .i64 (G+1),.int .i64 b,.bool ng,.string n,.slice sa sl sc,.slice ao nk cap] s.dS V:=HV▸HSG.out nq
  rw[HV]
  have K1:=HN.out V SV
  obtain⟨na,nc,hnc,hrow,KC⟩:=vF SV.cx n
  rw[show Lib.containsS s.dS.names n=true from HQC.out]at KC
  have y5:∀p:nG V.heap.size V,p.w.cell? ⟨g,5,none⟩=some (.slice na s.dS.names.length nc):=fun p=>(p.h.cell (p:=⟨g,5,none⟩) SV.cx.c.wr.lt).trans hnc
  have ui:Hid _:=KC
  have HNC:=GX hnc
  have HRW:=GX hrow
  clear hnc hrow KC
  have x5:∀p:nG V.heap.size V,p.w.cell? ⟨W.heap.size,5,none⟩=some (.string n):=fun p=>(SV.quiet p.h).bk.cell 5 rfl
  have HSV:=GX SV
  have oU:Hid _:=K1
  clear HN HSG SV K1 gc gf HS HV
  refine iF V.heap.size V Ck (by kernel_rfl) (Below.drew (Below.refl _ V)) ?_
  repeat (refine wpQuiet_step (fun K hK=>?_)
          go_simp
          first
            |(refine hK _ ?_;clear hK K)
            | (apply Exists.intro
               refine⟨fun _=>?_,hK _ ?_⟩
               (first
                 |(go_at_call 116;refine eP oU.out _)
                 |(go_at_call 40;refine eP ui.out _))
               clear hK K))
  refine wpQuiet_nil ?_
  rintro _⟨p,rfl⟩
  have HSP:=GX (HSV.out.quiet p.h)
  go_wp2
  go_ret
  exact aA rfl HSP.out.kt
end Go.Proofs.YtgbkolonhddolaaGreatDoor.tre
