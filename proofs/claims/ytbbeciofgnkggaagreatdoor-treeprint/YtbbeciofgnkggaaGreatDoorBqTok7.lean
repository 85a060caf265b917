import Derived.Test.YtbbeciofgnkggaaGreatDoorBqLin1
import Derived.Test.YtbbeciofgnkggaaGreatDoorBqTok6
import Derived.Test.YtbbeciofgnkggaaGreatDoorBqTok4
import Derived.Test.YtbbeciofgnkggaaGreatDoorBqLin4
import Derived.Defers
import Derived.Recover
import Derived.Deep.AppendLies
import Derived.Lib.SlBytesConst
set_option linter.unusedSimpArgs false
set_option linter.unusedVariables false
set_option maxRecDepth 100000
set_option maxHeartbeats 4000000
namespace Go.Proofs.YtbbeciofgnkggaaGreatDoor.tok
open Go.RowKit
open lin(BA Turns)
theorem caught(p:Nat)(c:Int)(q:Nat)(x y:Int)(older:List PanicEntry)(w:World)(hg:w.heap[p]?=some (.cells #[.int .i64 x,.int .i64 y] 93 (0,0))):
  CallsD Tryz.prog 116 #[.pointer (some ⟨p,0,none⟩)] (.panicking ({v:=fv c q,recovered:=false}::older)) w fun e u' w'=>
   e=.returned (.tuple #[])∧u'=.panicking ({v:=fv c q,recovered:=true}::older)∧w'=(w.setCell ⟨p,0,none⟩ (.int .i64 c)).setCell ⟨p,1,none⟩ (.int .i64 q):=by
 obtain⟨c0,c1,z0,z1⟩:=nam.blk2 hg
 refine callsD_of_wpS Tryz.func116 rfl fun c₀ cs hu=>?_
 apply wpS_seq
 apply wpS_region
 simp[wpOpsS,go_sem,recoverD,hu,Tryz.ntmps116,Exit.thenS,fv]
 have hrep:Array.replicate 6 undef=#[undef,undef,undef,undef,undef,undef]:=rfl
 have hta:∀(v:Value)(W:World),(Instr.typeAssert (.iface 93 v) 20 93 false).run Tryz.prog W=.ok v W:=fun _ _=>by kernel_rfl
 rw[hrep]
 refine wpS_of_wp ?_
 simp only[List.setIfInBounds_toArray,List.set_cons_zero,List.set_cons_succ,List.append_toArray,List.cons_append,List.nil_append]
 go_wp2
 refine⟨rfl,_,rfl,.tuple #[],?_,rfl,rfl,rfl⟩
 simp[results,Tryz.results116]
theorem idle(p:Addr)(w:World):
  CallsD Tryz.prog 116 #[.pointer (some p)] .returning w fun e u' w'=>e=.returned (.tuple #[])∧u'=.returning∧w'=w:=by
 refine callsD_of_wpS Tryz.func116 rfl fun c₀ cs hu=>?_
 apply wpS_seq
 apply wpS_region
 simp[wpOpsS,go_sem,recoverD,hu,Tryz.ntmps116,Exit.thenS]
 have hrep:Array.replicate 6 undef=#[undef,undef,undef,undef,undef,undef]:=rfl
 rw[hrep]
 refine wpS_of_wp ?_
 simp only[List.setIfInBounds_toArray,List.set_cons_zero,List.set_cons_succ,List.append_toArray,List.cons_append,List.nil_append]
 go_wp2
 cases c₀
 simp only at hu
 subst hu
 refine⟨rfl,_,rfl,.tuple #[],?_,rfl,rfl,rfl⟩
 simp[results,Tryz.results116]
/--A scanner between tokens. -/
structure Sc0(w:World)(sb:Nat)(ao:Option Addr)(n cap:Nat)(f:Nat→Int)(a st k:Nat)(tv:Value):Prop where
 blk:w.heap[sb]?=some (.cells #[.slice ao n cap,.int .i64 a,.int .i64 st,.int .i64 k,tv] 116 (0,0))
 byt:n=0∨∃b off,ao=some ⟨b,off,none⟩∧b≠sb∧∀i,i<n→w.cell? ⟨b,off+i,none⟩=some (.int .u8 (f i))
 ff:∀i,0≤f i∧f i≤255
 nn:n≤2000
 cc:n≤cap
 cm:cap≤9223372036854775807
 aa:a≤n
 kk:k≤a
 mm:utf.Marks w
 mn:0≠sb
theorem Sc0.cells{w:World}{sb:Nat}{ao:Option Addr}{n cap:Nat}{f:Nat→Int}{a st k:Nat}{tv:Value}(h:Sc0 w sb ao n cap f a st k tv):
  w.cell? ⟨sb,0,none⟩=some (.slice ao n cap)∧w.cell? ⟨sb,1,none⟩=some (.int .i64 a)∧w.cell? ⟨sb,2,none⟩=some (.int .i64 st)∧w.cell? ⟨sb,3,none⟩=some (.int .i64 k)∧w.cell? ⟨sb,4,none⟩=some tv∧
  w.frozen? ⟨sb,0,none⟩=false∧w.frozen? ⟨sb,1,none⟩=false∧w.frozen? ⟨sb,2,none⟩=false∧w.frozen? ⟨sb,3,none⟩=false∧w.frozen? ⟨sb,4,none⟩=false:=by
 simp[World.cell?,World.frozen?,h.blk]
theorem Sc0.lt{w:World}{sb:Nat}{ao:Option Addr}{n cap:Nat}{f:Nat→Int}{a st k:Nat}{tv:Value}(h:Sc0 w sb ao n cap f a st k tv):sb<w.heap.size:=(Array.getElem?_eq_some_iff.1 h.blk).1
/--A token begins. -/
theorem Sc0.start{w:World}{sb:Nat}{ao:Option Addr}{n cap:Nat}{f:Nat→Int}{a st k:Nat}{tv:Value}(h:Sc0 w sb ao n cap f a st k tv)(ha:a<n):Sc (w.setCell ⟨sb,2,none⟩ (.int .i64 a)) sb ao n cap f a a k tv:=by
 have hn:=h.nn
 have hk:=h.kk
 rcases h.byt with h0|⟨b,off,e,hne,hc⟩
 ·omega
 ·exact⟨heap_setCell_same w sb 2 _ _ _ h.blk,⟨b,off,e,hne,fun i hi=>(World.cell?_setCell_other _ _ _ _ (by intro hh;exact hne (by simpa using(congrArg Addr.block hh).symm))).trans (hc i hi)⟩,h.ff,h.nn,h.cc,h.cm,h.aa,ha,by omega,marks_set h.mm (Ne.symm h.mn) _,h.mn⟩
theorem Sc.between{w:World}{sb:Nat}{ao:Option Addr}{n cap:Nat}{f:Nat→Int}{a st k:Nat}{tv:Value}(h:Sc w sb ao n cap f a st k tv)(hk:k≤a):Sc0 w sb ao n cap f a st k tv:=
 ⟨h.blk,.inr h.byt,h.ff,h.nn,h.cc,h.cm,h.aa,hk,h.mm,h.mn⟩
theorem Sc0.below{w w':World}{sb:Nat}{ao:Option Addr}{n cap:Nat}{f:Nat→Int}{a st k:Nat}{tv:Value}(h:Sc0 w sb ao n cap f a st k tv)(hb:Below w.heap.size w w'):Sc0 w' sb ao n cap f a st k tv:=
 ⟨(hb.block sb h.lt).trans h.blk,h.byt.imp id (fun⟨b,off,e,hne,hc⟩=>⟨b,off,e,hne,fun i hi=>(hb.cell (World.block_lt_of_cell? w _ (hc i hi))).trans (hc i hi)⟩),h.ff,h.nn,h.cc,h.cm,h.aa,h.kk,h.mm.below hb,h.mn⟩
theorem Sc0.drewN{w:World}{sb:Nat}{ao:Option Addr}{n cap:Nat}{f:Nat→Int}{a st k:Nat}{tv:Value}(h:Sc0 w sb ao n cap f a st k tv)(q:Nat):Sc0 (w.drewN q) sb ao n cap f a st k tv:=h.below ⟨rfl,rfl,rfl,Nat.le_refl _,fun _ _=>rfl⟩
/--Tokens' cells. -/
def flatT(l:List Tk):List Value:=l.flatMap Tk.cells
theorem flatT_append(l r:List Tk):flatT (l++r)=flatT l++flatT r:=by simp[flatT]
theorem flatT_one(t:Tk):flatT [t]=t.cells:=by simp[flatT]
theorem infoTok3:(Tryz.prog.info? 97).map (fun i=>(i.zero,i.size,i.bytes))=some (some (.agg #[.int .i64 0,.int .i64 0,.int .i64 0,.int .i64 0,.string ⟨#[]⟩,.bool false,.int .i64 0,.int .i64 0]),8,72):=by kernel_rfl
theorem Sc.turns{D:Nat→Prop}{w w':World}{sb:Nat}{ao:Option Addr}{n cap:Nat}{f:Nat→Int}{a st k:Nat}{tv:Value}(h:Sc w sb ao n cap f a st k tv)(t:Turns D w w')(h1:¬D sb)(h2:∀b off,ao=some ⟨b,off,none⟩→¬D b)(h3:¬D 0):Sc w' sb ao n cap f a st k tv:=by
 obtain⟨b,off,e,hne,hc⟩:=h.byt
 exact⟨(t.block sb h.lt h1).trans h.blk,⟨b,off,e,hne,fun i hi=>nam.turns_cell t (hc i hi) (h2 b off e)⟩,h.ff,h.nn,h.cc,h.cm,h.aa,h.ss,h.kk,⟨nam.turns_cell t h.mm.c1 h3,nam.turns_cell t h.mm.c2 h3,nam.turns_cell t h.mm.c3 h3,nam.turns_cell t h.mm.c4 h3⟩,h.mn⟩
theorem Sc.put4{w:World}{sb:Nat}{ao:Option Addr}{n cap:Nat}{f:Nat→Int}{a st k:Nat}{tv:Value}(h:Sc w sb ao n cap f a st k tv)(v:Value):Sc (w.setCell ⟨sb,4,none⟩ v) sb ao n cap f a st k v:=by
 obtain⟨b,off,e,hne,hc⟩:=h.byt
 exact⟨heap_setCell_same w sb 4 _ _ _ h.blk,⟨b,off,e,hne,fun i hi=>(World.cell?_setCell_other _ _ _ _ (by intro hh;exact hne (by simpa using(congrArg Addr.block hh).symm))).trans (hc i hi)⟩,h.ff,h.nn,h.cc,h.cm,h.aa,h.ss,h.kk,marks_set h.mm (Ne.symm h.mn) _,h.mn⟩
theorem one8(t:Tk):∀u∈t.cells,u.oneCell'=true:=by
 intro u hu
 simp only[Tk.cells,List.mem_cons,List.mem_nil_iff,or_false]at hu
 rcases hu with rfl|rfl|rfl|rfl|rfl|rfl|rfl|rfl<;>rfl
theorem new8{W:World}{g:Nat}{t:Tk}{ty:TypeId}(h:W.heap[g]?=some (.cells t.cells.toArray ty (0,0))):∀(j:Nat)u,t.cells[j]?=some u→W.cell? ((⟨g,0,none⟩:Addr).add j)=some u:=by
 intro j u hj
 rw[Addr.add_lit]
 simp only[World.cell?,h,Nat.zero_add]
 simpa using hj
/--A token more behind the scanner's tokens. -/
theorem appended{w W3 W W':World}{sb:Nat}{ao:Option Addr}{n cap:Nat}{f:Nat→Int}{a st k:Nat}{tv:Value}{dn:List Tk}{t:Tk}{gt:Nat}{x0 x1 x2 x3 x4 x5 x6 x7:Value}{ty:TypeId}(hsb:sb<w.heap.size)
  (hbl:∀b off,ao=some ⟨b,off,none⟩→b<w.heap.size)(hml:0<w.heap.size)
  (S:Sc W3 sb ao n cap f a st k tv)(O:W3.ownsRow (w.heap.size+1) 97 8 tv dn.length (flatT dn))(G:W3.heap[w.heap.size]?=some (.cells #[.int .i64 0,.int .i64 0] 93 (0,0)))(T:Tn sb w W3)(L:W3.heap[gt]?=some (.cells #[x0,x1,x2,x3,x4,x5,x6,x7] ty (0,0)))(hgt:tv.ownBlock≠some gt)
  (hW:Below W3.heap.size W3 W){g c:Nat}(hown:W'.ownsRow (w.heap.size+1) 97 8 (.slice (some ⟨g,0,none⟩) (dn.length+1) c) (dn.length+1) (flatT dn++t.cells))(hgr:W.grownBy W' tv.ownBlock):
  W'.heap[gt]?=some (.cells #[x0,x1,x2,x3,x4,x5,x6,x7] ty (0,0))∧W'.cell? ⟨sb,4,none⟩=some tv∧W'.frozen? ⟨sb,4,none⟩=false∧
  Hid (Sc (W'.setCell ⟨sb,4,none⟩ (.slice (some ⟨g,0,none⟩) (dn.length+1) c)) sb ao n cap f a st k (.slice (some ⟨g,0,none⟩) (dn.length+1) c))∧
  Hid ((W'.setCell ⟨sb,4,none⟩ (.slice (some ⟨g,0,none⟩) (dn.length+1) c)).ownsRow (w.heap.size+1) 97 8 (.slice (some ⟨g,0,none⟩) (dn.length+1) c) (dn++[t]).length (flatT (dn++[t])))∧
  Hid ((W'.setCell ⟨sb,4,none⟩ (.slice (some ⟨g,0,none⟩) (dn.length+1) c)).heap[w.heap.size]?=some (.cells #[.int .i64 0,.int .i64 0] 93 (0,0)))∧
  Hid (Tn sb w (W'.setCell ⟨sb,4,none⟩ (.slice (some ⟨g,0,none⟩) (dn.length+1) c))):=by
 have t1:Turns (fun q=>tv.ownBlock=some q) W3 W':=lin.Turns.trans (.of_below hW) (.of_grown hgr (fun _ e=>e))
 have hlo:∀q,tv.ownBlock=some q→w.heap.size+1≤q:=fun q e=>(O.lt _ e).1
 have S':=S.turns t1 (fun e=>by have:=hlo _ e;omega) (fun b off e e2=>by have:=hlo _ e2;have:=hbl b off e;omega) (fun e=>by have:=hlo _ e;omega)
 obtain⟨-,-,-,-,c4,-,-,-,-,z4⟩:=S'.cells
 have hG:=(t1.block w.heap.size (Array.getElem?_eq_some_iff.1 G).1 (fun e=>by have:=hlo _ e;omega)).trans G
 refine⟨(t1.block gt (Array.getElem?_eq_some_iff.1 L).1 hgt).trans L,c4,z4,S'.put4 _,?_,?_,?_⟩
 ·unfold Hid
  rw[flatT_append,flatT_one,List.length_append]
  exact ownsRow_setCell_below hown (by show sb<_;omega) _
 ·exact(heap_setCell_other _ _ _ _ (by show w.heap.size≠sb;omega)).trans hG
 ·refine Tn.put ⟨t1.os.trans T.os,t1.tape.trans T.tape,t1.output.trans T.output,Nat.le_trans T.size t1.size,fun q hq hd=>?_⟩ 4 _
  exact(t1.block q (Nat.lt_of_lt_of_le hq T.size) (fun e=>by have:=hlo _ e;omega)).trans (T.block q hq hd)
theorem infoFault:(Tryz.prog.info? 93).map (·.size)=some 2:=by kernel_rfl
theorem own_lower{w:World}{B B' e size n:Nat}{v:Value}{xs:List Value}(h:w.ownsRow B e size v n xs)(hB:B'≤B):w.ownsRow B' e size v n xs:=by
 refine⟨h.1,?_⟩
 rcases h.2 with h2|⟨g,cap,cur,rfl,hg,rest⟩
 ·exact .inl h2
 ·exact .inr ⟨g,cap,cur,rfl,Nat.le_trans hB hg,rest⟩
theorem own_tn{w w':World}{sb B e size n:Nat}{v:Value}{xs:List Value}(h:w.ownsRow B e size v n xs)(t:Tn sb w w')(hB:sb<B):w'.ownsRow B e size v n xs:=
 lin.Turns.own t h (fun k hk e=>by have:=(h.lt _ hk).1;omega)
theorem set2{w:World}{g:Nat}{x y:Value}{t:TypeId}(h:w.heap[g]?=some (.cells #[x,y] t (0,0)))(a b:Value):
 ((w.setCell ⟨g,0,none⟩ a).setCell ⟨g,1,none⟩ b).heap[g]?=some (.cells #[a,b] t (0,0)):=nam.set_block h a b
theorem run_any(sb:Nat)(ao:Option Addr)(n cap:Nat)(f:Nat→Int)(w:World)(h:Sc0 w sb ao n cap f 0 0 0 (.slice none 0 0)):
  Calls Tryz.prog 99 #[.pointer (some ⟨sb,0,none⟩)] w fun e w'=>∃tv,e=.returned (.agg #[.int .i64 (scanA f n 0 0).2.1,.int .i64 (scanA f n 0 0).2.2])∧w'.cell? ⟨sb,4,none⟩=some tv∧w'.ownsRow w.heap.size 97 8 tv (scanA f n 0 0).1.length (flatT (scanA f n 0 0).1)∧Tn sb w w':=by
 have hlt:=h.lt
 have hgn:w.heap.size≠sb:=by omega
 have hgn':¬w.heap.size=sb:=by omega
 have hgn2:¬sb=w.heap.size:=by omega
 obtain⟨Q,hQ⟩:∃Q,scanA f n 0 0=Q:=⟨_,rfl⟩
 rw[hQ]
 have S0:Hid (Sc0 (w.alloc (.cells #[.int .i64 0,.int .i64 0] 93)) sb ao n cap f 0 0 0 (.slice none 0 0)):=h.below ((Below.refl _ _).alloc (Nat.le_refl _) _)
 have T0:Hid (Tn sb w (w.alloc (.cells #[.int .i64 0,.int .i64 0] 93))):=Tn.more (lin.Turns.refl _ w) _
 have G0:Hid ((w.alloc (.cells #[.int .i64 0,.int .i64 0] 93)).heap[w.heap.size]?=some (.cells #[.int .i64 0,.int .i64 0] 93 (0,0))):=World.alloc_heap_new _ _
 have HQ0:Hid (Q=([]++(scanA f n 0 0).1,(scanA f n 0 0).2)):=by unfold Hid;rw[hQ];rfl
 have hn:=h.nn
 have HBL0:Hid (∀b off,n≠0→ao=some ⟨b,off,none⟩→b<w.heap.size):=fun b off h0 e=>by
  rcases h.byt with h1|⟨b',off',e',_,hc⟩
  ·exact absurd h1 h0
  ·rw[e]at e';cases e';exact World.block_lt_of_cell? w _ (hc 0 (by omega))
 have HML:Hid (0<w.heap.size):=World.block_lt_of_cell? w _ h.mm.c1
 obtain⟨i0,hi,hz0,hz1,hz2⟩:=info_parts infoTok3
 have hmf:∀(fn:Fn)(first cap:Array Value)(w:World),(Instr.makeFunc fn first cap).run Tryz.prog w=.ok (.func fn first cap) w:=fun _ _ _ _=>rfl
 clear h hQ
 go_enter_defers Tryz.func99,Tryz.ntmps99
 go_wp2
 go_loopg[]n(fun q wr=>∃(a k st:Nat)(tv:Value)(dn:List Tk),q=n-a∧a≤n∧dn.length≤a∧Hid (Q=(dn++(scanA f n a k).1,(scanA f n a k).2))∧Hid (Sc0 wr sb ao n cap f a st k tv)∧Hid (wr.ownsRow (w.heap.size+1) 97 8 tv dn.length (flatT dn))∧Hid (wr.heap[w.heap.size]?=some (.cells #[.int .i64 0,.int .i64 0] 93 (0,0)))∧Hid (Tn sb w wr))
 case atStart=>exact⟨0,0,0,.slice none 0 0,[],rfl,Nat.zero_le _,Nat.le_refl _,HQ0,S0,World.ownsRow_nil _ _ _ _,G0,T0⟩
 case round=>
  obtain⟨a,k,st,tv,dn,hq,han,hdn,HQ,HS,HO,HG,HT⟩:=hrel
  clear S0 T0 G0 HQ0
  obtain⟨c0,c1,c2,c3,c4,z0,z1,z2,z3,z4⟩:=HS.out.cells
  by_cases hl:a<n
  ·have HBL:Hid (∀b off,ao=some ⟨b,off,none⟩→b<w.heap.size):=fun b off e=>HBL0.out b off (by omega) e
   have hl1:(a:Int)<(n:Int):=by omega
   have C:=fun q=>token_any sb ao n cap f a a k tv _ ((HS.out.drewN q).start hl) rfl (by have:=HS.out.kk;omega)
   obtain⟨o,ho⟩:∃o,token f n a k=o:=⟨_,rfl⟩
   rw[ho]at C
   have HOK:Hid (token f n a k=o):=ho
   clear ho
   go_wp2
   go_quiet(fail)
   go_wp2_with fail
   refine(C _).mono ?_
   intro e w2 H
   clear C
   have T1:Tn sb w ((wr.drewN nq).setCell ⟨sb,2,none⟩ (.int .i64 a)):=Tn.put (Tn.drewN HT.out _) 2 _
   have G1:((wr.drewN nq).setCell ⟨sb,2,none⟩ (.int .i64 a)).heap[w.heap.size]?=some (.cells #[.int .i64 0,.int .i64 0] 93 (0,0)):=(heap_setCell_other _ _ _ _ (by show w.heap.size≠sb;omega)).trans HG.out
   have O1:((wr.drewN nq).setCell ⟨sb,2,none⟩ (.int .i64 a)).ownsRow (w.heap.size+1) 97 8 tv dn.length (flatT dn):=own_tn HO.out (Tn.put (Tn.drewN (lin.Turns.refl _ wr) nq) 2 _) (by omega)
   cases o with
   |no c p=>
    obtain⟨rfl,⟨a',k',S2⟩,T'⟩:=H
    have T2:=T1.trans T'
    have G2:=Tn.blk T' G1 hgn
    have HQ2:Hid (Q=(dn,c,p)):=by unfold Hid;rw[HQ.out,scanA_no f n HOK.out hl];simp
    obtain rfl:=HQ2.out
    clear HQ HQ2 HOK
    go_wp2
    refine leaves_cons (f:=116) (args:=#[.pointer (some ⟨w.heap.size,0,none⟩)]) (by simp) (by simp[go_sem]) ?_
    refine(caught w.heap.size c p 0 0 [] w2 G2).mono ?_
    rintro e u' w''⟨rfl,rfl,rfl⟩
    have O2:=ownsRow_setCell_below (a:=⟨w.heap.size,1,none⟩) (ownsRow_setCell_below (a:=⟨w.heap.size,0,none⟩) (own_tn O1 T' (by omega)) (by show w.heap.size<w.heap.size+1;omega) (.int .i64 c)) (by show w.heap.size<w.heap.size+1;omega) (.int .i64 p)
    have T3:=Tn.new (p:=⟨w.heap.size,1,none⟩) (Tn.new (p:=⟨w.heap.size,0,none⟩) T2 (Nat.le_refl _) (.int .i64 c)) (Nat.le_refl _) (.int .i64 p)
    have q4:((w2.setCell ⟨w.heap.size,0,none⟩ (.int .i64 c)).setCell ⟨w.heap.size,1,none⟩ (.int .i64 p)).cell? ⟨sb,4,none⟩=some tv:=by
     rw[World.cell?_setCell_other _ _ _ _ (by intro hh;exact hgn (by simpa using congrArg Addr.block hh)),World.cell?_setCell_other _ _ _ _ (by intro hh;exact hgn (by simpa using congrArg Addr.block hh))]
     exact S2.cells.2.2.2.2.1
    exact⟨_,results_cell_row Tryz.results99 _ _ w.heap.size _ _ _ _ rfl (set2 G2 _ _) Tryz.underlying93 rfl infoFault,rfl,tv,q4,own_lower O2 (by omega),T3⟩
   |ok t a2=>
    obtain⟨rfl,S2,T'⟩:=H
    obtain⟨v1,v2,v3,-,-⟩:=token_val f n HOK.out (by omega)
    have HQ2:Hid (Q=((dn++[{t.1 with s:=a,e:=a2}])++(scanA f n a2 t.2).1,(scanA f n a2 t.2).2)):=by unfold Hid;rw[HQ.out,scanA_ok f n HOK.out hl];simp
    have T2:=T1.trans T'
    have G2:=Tn.blk T' G1 hgn
    have O2:=own_tn O1 T' (by omega:sb<_)
    have hkk:=HS.out.kk
    obtain⟨⟨t1,t2,t3,t4,t5,t6,t7,t8⟩,k2⟩:=t
    simp only[]at v3 S2 HQ2⊢
    clear HQ HOK T1 G1 O1 T' HS HO HG HT c0 c1 c2 c3 c4 z0 z1 z2 z3 z4
    unfold Tk.val
    have hsz:sb<w2.heap.size:=S2.lt
    have hne2:¬w2.heap.size=sb:=by omega
    have hne3:¬sb=w2.heap.size:=by omega
    obtain⟨c0,c1,c2,c3,c4,z0,z1,z2,z3,z4⟩:=S2.cells
    have SA:=S2.alloc (.cells #[.int .i64 t1,.int .i64 t2,.int .i64 t3,.int .i64 t4,.string (BA t5),.bool t6,.int .i64 t7,.int .i64 t8] 97)
    obtain⟨d0,d1,d2,d3,d4,x0,x1,x2,x3,x4⟩:=SA.cells
    clear SA
    have hnw:=World.new_ne w2 _ c0
    go_wp2
    go_region_held3(fun w'=>w'.cell? ⟨sb,1,none⟩=some (.int .i64 a2)∧w'.cell? ⟨sb,2,none⟩=some (.int .i64 a))(go_keep)(fail)
    obtain⟨W3,hW3⟩:∃W3,(w2.alloc (.cells #[.int .i64 t1,.int .i64 t2,.int .i64 t3,.int .i64 t4,.string (BA t5),.bool t6,.int .i64 (a:Int),.int .i64 (a2:Int)] 97)).drew=W3:=⟨_,rfl⟩
    have L3:W3.heap[w2.heap.size]?=some (.cells #[.int .i64 t1,.int .i64 t2,.int .i64 t3,.int .i64 t4,.string (BA t5),.bool t6,.int .i64 (a:Int),.int .i64 (a2:Int)] 97 (0,0)):=by rw[←hW3];exact World.alloc_heap_new w2 _
    have B3:Below w2.heap.size w2 W3:=by rw[←hW3];exact((Below.refl _ w2).alloc (Nat.le_refl _) _).drew
    have S3:=S2.below B3
    have G3:=(B3.block _ (Array.getElem?_eq_some_iff.1 G2).1).trans G2
    have O3:=utf.own_below O2 B3
    have T3:=Tn.beyond T2 B3
    have HGT:Hid (tv.ownBlock≠some w2.heap.size):=fun e=>by have:=(O2.lt _ e).2;omega
    have hw3:w2.heap.size<W3.heap.size:=(Array.getElem?_eq_some_iff.1 L3).1
    rw[hW3]
    clear hW3 B3 S2 G2 O2 T2 c0 c1 c2 c3 c4 z0 z1 z2 z3 z4 d0 d1 d2 d3 d4 x0 x1 x2 x3 x4
    obtain⟨-,-,-,-,c4,-,-,-,-,z4⟩:=S3.cells
    obtain⟨⟨l0,l1,l2,l3,l4,l5,l6,l7⟩,-⟩:=blk8 L3
    have H63:Hid (dn.length+1≤maxLen):=by unfold Hid maxLen;omega
    have HBY:Hid ((dn.length+1)*72≤140737488355328):=by unfold Hid;omega
    have hwg:w.heap.size<W3.heap.size:=(Array.getElem?_eq_some_iff.1 G3).1
    have hne5:¬w2.heap.size=W3.heap.size:=by omega
    have hne6:¬sb=W3.heap.size:=by omega
    go_wp2
    refine wp_region_noPanic ?_
    refine wp_region_held_drew (S:=fun w'=>w'.cell? ⟨w2.heap.size,0,none⟩=some (.int .i64 t1)∧w'.cell? ⟨w2.heap.size,1,none⟩=some (.int .i64 t2)∧w'.cell? ⟨w2.heap.size,2,none⟩=some (.int .i64 t3)∧w'.cell? ⟨w2.heap.size,3,none⟩=some (.int .i64 t4)∧w'.cell? ⟨w2.heap.size,4,none⟩=some (.string (BA t5))∧w'.cell? ⟨w2.heap.size,5,none⟩=some (.bool t6)∧w'.cell? ⟨w2.heap.size,6,none⟩=some (.int .i64 (a:Int))∧w'.cell? ⟨w2.heap.size,7,none⟩=some (.int .i64 (a2:Int))) (by kernel_rfl) ?_ (fun hHeld=>?_)
    ·exact⟨l0,l1,l2,l3,l4,l5,l6,l7⟩
    refine lin.tH 0 (v:=?_) ?_
    try simp only[Act.put,lin.sm]
    refine lin.tH 1 (v:=?_) ?_
    try simp only[Act.put,lin.sm]
    refine lin.tH 2 (v:=?_) ?_
    try simp only[Act.put,lin.sm]
    refine lin.tH 3 (v:=?_) ?_
    try simp only[Act.put,lin.sm]
    refine lin.tH 5 (v:=?_) ?_
    try simp only[Act.put,lin.sm]
    refine wpAnyH_ready (rs:=[4,6]) (by kernel_rfl) (by simp) ?_
    refine AllReadyH.cons rfl (fun K hK=>?_) (AllReadyH.cons rfl (fun K hK=>?_) AllReadyH.nil)
    ·go_simp
     refine hK.out _ _ ?_ (fun hHeld=>?_)
     ·exact⟨l0,l1,l2,l3,l4,l5,l6,l7⟩
     clear hK K
     try simp only[Act.put,lin.sm]
     refine wpAnyH_ready (rs:=[6]) (by kernel_rfl) (by simp) ?_
     refine AllReadyH.cons rfl (fun K hK=>?_) AllReadyH.nil
     go_simp
     have BW:Below W3.heap.size W3 (W3.alloc (.cells #[.int .i64 t1,.int .i64 t2,.int .i64 t3,.int .i64 t4,.string (BA t5),.bool t6,.int .i64 (a:Int),.int .i64 (a2:Int)] 97)).drew:=((Below.refl _ W3).alloc (Nat.le_refl _) _).drew
     have NW:(W3.alloc (.cells #[.int .i64 t1,.int .i64 t2,.int .i64 t3,.int .i64 t4,.string (BA t5),.bool t6,.int .i64 (a:Int),.int .i64 (a2:Int)] 97)).drew.heap[W3.heap.size]?=some (.cells (Tk.cells ⟨t1,t2,t3,t4,t5,t6,a,a2⟩).toArray 97 (0,0)):=World.alloc_heap_new W3 _
     obtain⟨⟨n0,n1,n2,n3,n4,n5,n6,n7⟩,-⟩:=blk8 ((BW.block _ hw3).trans L3)
     refine hK.out _ _ ?_ (fun hHeld=>?_)
     ·exact⟨n0,n1,n2,n3,n4,n5,n6,n7⟩
     clear hK K
     try simp only[Act.put,lin.sm]
     refine wpAnyH_ready (rs:=[7]) (by kernel_rfl) (by simp) ?_
     refine AllReadyH.cons rfl (fun K hK=>?_) AllReadyH.nil
     refine step_append_lies _ rfl _ _ 91 rfl (w.heap.size+1) 97 i0 (.agg #[.int .i64 0,.int .i64 0,.int .i64 0,.int .i64 0,.string ⟨#[]⟩,.bool false,.int .i64 0,.int .i64 0]) 8 72 Tryz.underlying91 hi hz0 hz1 hz2 rfl (by decide) tv dn.length (flatT dn) (by simp[Act.eval,Act.put]) (utf.own_below O3 BW) ⟨W3.heap.size,0,none⟩ 1 1 (Tk.cells ⟨t1,t2,t3,t4,t5,t6,a,a2⟩) (by simp[Act.eval,Act.put]) rfl (new8 NW) (one8 _) (by decide) H63.out HBY.out (by have:=BW.size;omega) _ rfl ?_
     intro g c w4 hown4 hgrow4 hat4 hlt4
     obtain⟨L4,q4,y4,R1,R2,R3,R4⟩:=appended hlt HBL.out HML.out S3 O3 G3 T3 L3 HGT.out BW hown4 hgrow4
     obtain⟨⟨m0,m1,m2,m3,m4,m5,m6,m7⟩,-⟩:=blk8 L4
     clear hown4 hgrow4 hat4
     refine hK.out _ _ ?_ (fun hHeld=>?_)
     ·exact⟨m0,m1,m2,m3,m4,m5,m6,m7⟩
     clear hK K
     try simp only[Act.put,lin.sm]
     refine lin.tH 8 (v:=?_) ?_
     try simp only[Act.put,lin.sm]
     refine lin.tH 9 (v:=?_) ?_
     try simp only[Act.put,lin.sm]
     refine wpAnyH_ready (rs:=[10]) (by kernel_rfl) (by simp) ?_
     refine AllReadyH.cons rfl (fun K hK=>?_) AllReadyH.nil
     go_simp
     refine hK.out _ _ ?_ (fun hHeld=>?_)
     ·have L5:=(heap_setCell_other w4 ⟨sb,4,none⟩ w2.heap.size (.slice (some ⟨g,0,none⟩) (dn.length+1) c) (by show w2.heap.size≠sb;omega)).trans L4;obtain⟨⟨p0,p1,p2,p3,p4,p5,p6,p7⟩,-⟩:=blk8 L5;exact⟨p0,p1,p2,p3,p4,p5,p6,p7⟩
     clear hK K
     try simp only[Act.put,lin.sm]
     refine wpAnyH_done (by kernel_rfl) ?_ _
     refine NoPanic.normal ?_
     go_wp2
     go_roundg(n-a2)
     case measure=>omega
     case rel=>exact⟨a2,k2,a,_,dn++[⟨t1,t2,t3,t4,t5,t6,a,a2⟩],rfl,v2,by rw[List.length_append];simp;omega,HQ2,R1.out.between (by omega),R2,R3,R4⟩
    ·go_simp
     have BW:Below W3.heap.size W3 (W3.alloc (.cells #[.int .i64 t1,.int .i64 t2,.int .i64 t3,.int .i64 t4,.string (BA t5),.bool t6,.int .i64 (a:Int),.int .i64 (a2:Int)] 97)).drew:=((Below.refl _ W3).alloc (Nat.le_refl _) _).drew
     have NW:(W3.alloc (.cells #[.int .i64 t1,.int .i64 t2,.int .i64 t3,.int .i64 t4,.string (BA t5),.bool t6,.int .i64 (a:Int),.int .i64 (a2:Int)] 97)).drew.heap[W3.heap.size]?=some (.cells (Tk.cells ⟨t1,t2,t3,t4,t5,t6,a,a2⟩).toArray 97 (0,0)):=World.alloc_heap_new W3 _
     obtain⟨⟨n0,n1,n2,n3,n4,n5,n6,n7⟩,-⟩:=blk8 ((BW.block _ hw3).trans L3)
     refine hK.out _ _ ?_ (fun hHeld=>?_)
     ·exact⟨n0,n1,n2,n3,n4,n5,n6,n7⟩
     clear hK K
     try simp only[Act.put,lin.sm]
     have c4':(W3.alloc (.cells #[.int .i64 t1,.int .i64 t2,.int .i64 t3,.int .i64 t4,.string (BA t5),.bool t6,.int .i64 (a:Int),.int .i64 (a2:Int)] 97)).drew.cell? ⟨sb,4,none⟩=some tv:=(S3.below BW).cells.2.2.2.2.1
     refine wpAnyH_ready (rs:=[4]) (by kernel_rfl) (by simp) ?_
     refine AllReadyH.cons rfl (fun K hK=>?_) AllReadyH.nil
     go_simp
     refine hK.out _ _ ?_ (fun hHeld=>?_)
     ·exact⟨n0,n1,n2,n3,n4,n5,n6,n7⟩
     clear hK K
     try simp only[Act.put,lin.sm]
     refine wpAnyH_ready (rs:=[7]) (by kernel_rfl) (by simp) ?_
     refine AllReadyH.cons rfl (fun K hK=>?_) AllReadyH.nil
     refine step_append_lies _ rfl _ _ 91 rfl (w.heap.size+1) 97 i0 (.agg #[.int .i64 0,.int .i64 0,.int .i64 0,.int .i64 0,.string ⟨#[]⟩,.bool false,.int .i64 0,.int .i64 0]) 8 72 Tryz.underlying91 hi hz0 hz1 hz2 rfl (by decide) tv dn.length (flatT dn) (by simp[Act.eval,Act.put]) (utf.own_below O3 BW) ⟨W3.heap.size,0,none⟩ 1 1 (Tk.cells ⟨t1,t2,t3,t4,t5,t6,a,a2⟩) (by simp[Act.eval,Act.put]) rfl (new8 NW) (one8 _) (by decide) H63.out HBY.out (by have:=BW.size;omega) _ rfl ?_
     intro g c w4 hown4 hgrow4 hat4 hlt4
     obtain⟨L4,q4,y4,R1,R2,R3,R4⟩:=appended hlt HBL.out HML.out S3 O3 G3 T3 L3 HGT.out BW hown4 hgrow4
     obtain⟨⟨m0,m1,m2,m3,m4,m5,m6,m7⟩,-⟩:=blk8 L4
     clear hown4 hgrow4 hat4
     refine hK.out _ _ ?_ (fun hHeld=>?_)
     ·exact⟨m0,m1,m2,m3,m4,m5,m6,m7⟩
     clear hK K
     try simp only[Act.put,lin.sm]
     refine lin.tH 8 (v:=?_) ?_
     try simp only[Act.put,lin.sm]
     refine lin.tH 9 (v:=?_) ?_
     try simp only[Act.put,lin.sm]
     refine wpAnyH_ready (rs:=[10]) (by kernel_rfl) (by simp) ?_
     refine AllReadyH.cons rfl (fun K hK=>?_) AllReadyH.nil
     go_simp
     refine hK.out _ _ ?_ (fun hHeld=>?_)
     ·have L5:=(heap_setCell_other w4 ⟨sb,4,none⟩ w2.heap.size (.slice (some ⟨g,0,none⟩) (dn.length+1) c) (by show w2.heap.size≠sb;omega)).trans L4;obtain⟨⟨p0,p1,p2,p3,p4,p5,p6,p7⟩,-⟩:=blk8 L5;exact⟨p0,p1,p2,p3,p4,p5,p6,p7⟩
     clear hK K
     try simp only[Act.put,lin.sm]
     refine wpAnyH_done (by kernel_rfl) ?_ _
     refine NoPanic.normal ?_
     go_wp2
     go_roundg(n-a2)
     case measure=>omega
     case rel=>exact⟨a2,k2,a,_,dn++[⟨t1,t2,t3,t4,t5,t6,a,a2⟩],rfl,v2,by rw[List.length_append];simp;omega,HQ2,R1.out.between (by omega),R2,R3,R4⟩
  ·obtain rfl:a=n:=by omega
   have hl1:¬(a:Int)<(a:Int):=by omega
   have HQ2:Hid (Q=(dn,0,0)):=by unfold Hid;rw[HQ.out,scanA_end];simp
   obtain rfl:=HQ2.out
   obtain⟨g0,g1,y0,y1⟩:=nam.blk2 HG.out
   clear HQ HQ2
   go_wp2
   go_quiet(fail)
   go_wp2
   refine leaves_cons (f:=116) (args:=#[.pointer (some ⟨w.heap.size,0,none⟩)]) (by simp) (by simp[go_sem]) ?_
   refine(idle ⟨w.heap.size,0,none⟩ _).mono ?_
   rintro e u' w''⟨rfl,rfl,rfl⟩
   have G2:(wr.drewN nq).heap[w.heap.size]?=some (.cells #[.int .i64 0,.int .i64 0] 93 (0,0)):=HG.out
   have OD:(wr.drewN nq).ownsRow (w.heap.size+1) 97 8 tv dn.length (flatT dn):=own_tn HO.out (Tn.drewN (lin.Turns.refl _ wr) nq) (by omega:sb<_)
   have O2:=ownsRow_setCell_below (a:=⟨w.heap.size,1,none⟩) (ownsRow_setCell_below (a:=⟨w.heap.size,0,none⟩) OD (by show w.heap.size<w.heap.size+1;omega) (.int .i64 0)) (by show w.heap.size<w.heap.size+1;omega) (.int .i64 0)
   have T3:=Tn.new (p:=⟨w.heap.size,1,none⟩) (Tn.new (p:=⟨w.heap.size,0,none⟩) (Tn.drewN HT.out nq) (Nat.le_refl _) (.int .i64 0)) (Nat.le_refl _) (.int .i64 0)
   have q4:(((wr.drewN nq).setCell ⟨w.heap.size,0,none⟩ (.int .i64 0)).setCell ⟨w.heap.size,1,none⟩ (.int .i64 0)).cell? ⟨sb,4,none⟩=some tv:=by
    rw[World.cell?_setCell_other _ _ _ _ (by intro hh;exact hgn (by simpa using congrArg Addr.block hh)),World.cell?_setCell_other _ _ _ _ (by intro hh;exact hgn (by simpa using congrArg Addr.block hh))]
    exact c4
   exact⟨_,results_cell_row Tryz.results99 _ _ w.heap.size _ _ _ _ rfl (set2 G2 _ _) Tryz.underlying93 rfl infoFault,rfl,tv,q4,own_lower O2 (by omega),T3⟩
end Go.Proofs.YtbbeciofgnkggaaGreatDoor.tok
namespace Go.Proofs.YtbbeciofgnkggaaGreatDoor.tok
open Go.RowKit
open lin(BA Turns)
theorem results2{P:Program}{fn:Func}{p q:Tmp}{ty:TypeId}(h:fn.results=#[.tmp p,.cell q ty])(tmps:Array Value)(w:World)(v:Value)(g:Nat)(t:TypeId)(cs:Array Value)(fr:Nat×Nat)(d:TypeDesc)
  (hv:tmps.getD p undef=v)(hp:tmps.getD q undef=.pointer (some ⟨g,0,none⟩))(hg:w.heap[g]?=some (.cells cs t fr))
  (hu:P.underlying ty=some d)(hd:(match d with|.struct _|.array _ _=>true|_=>false)=true)(hi:(P.info? ty).map (·.size)=some cs.size):
  (results fn tmps).run P w=.ok (.tuple #[v,.agg cs]) w:=by
 have hp':tmps[q]?.getD undef=.pointer (some ⟨g,0,none⟩):=by simpa using hp
 have hv':tmps[p]?.getD undef=v:=by simpa using hv
 simp[results,h,hp',hv',asAddr,run_loadVar_row w g t ty cs fr d hg hu hd hi]
theorem scan_any(ao:Option Addr)(n cap:Nat)(f:Nat→Int)(w:World)(hB:utf.IsB w ao n f)(hm:utf.Marks w)(hf:∀i,0≤f i∧f i≤255)(hc:n≤cap)(hcm:cap≤9223372036854775807):
  Calls Tryz.prog 80 #[.slice ao n cap] w fun e w'=>∃tv,e=.returned (.tuple #[tv,.agg #[.int .i64 (scanL f n).2.1,.int .i64 (scanL f n).2.2]])∧w'.ownsRow w.heap.size 97 8 tv (scanL f n).1.length (flatT (scanL f n).1)∧Below w.heap.size w w':=by
 by_cases hn:n≤2000
 ·rw[scanL_A f n hn]
  have hml:=World.block_lt_of_cell? w _ hm.c1
  simp only[]at hml
  have B0:=((Below.refl w.heap.size w).alloc (Nat.le_refl _) (.cells #[.int .i64 0,.int .i64 0] 93)).alloc (by simp) (.cells #[.slice ao n cap,.int .i64 0,.int .i64 0,.int .i64 0,.slice none 0 0] 116)
  have S0:Sc0 ((w.alloc (.cells #[.int .i64 0,.int .i64 0] 93)).alloc (.cells #[.slice ao n cap,.int .i64 0,.int .i64 0,.int .i64 0,.slice none 0 0] 116)) (w.heap.size+1) ao n cap f 0 0 0 (.slice none 0 0):=by
   refine⟨?_,?_,hf,hn,hc,hcm,Nat.zero_le _,Nat.le_refl _,hm.below B0,by omega⟩
   ·have:=World.alloc_heap_new (w.alloc (.cells #[.int .i64 0,.int .i64 0] 93)) (.cells #[.slice ao n cap,.int .i64 0,.int .i64 0,.int .i64 0,.slice none 0 0] 116)
    simpa using this
   ·rcases hB with h0|⟨b,off,e,hcc⟩
    ·exact .inl h0
    ·by_cases h0:n=0
     ·exact .inl h0
     ·have:=World.block_lt_of_cell? w _ (hcc 0 (by omega))
      simp only[]at this
      exact .inr ⟨b,off,e,by omega,fun i hi=>(B0.cell (World.block_lt_of_cell? w _ (hcc i hi))).trans (hcc i hi)⟩
  have R:=run_any (w.heap.size+1) ao n cap f _ S0
  have G0:((w.alloc (.cells #[.int .i64 0,.int .i64 0] 93)).alloc (.cells #[.slice ao n cap,.int .i64 0,.int .i64 0,.int .i64 0,.slice none 0 0] 116)).heap[w.heap.size]?=some (.cells #[.int .i64 0,.int .i64 0] 93 (0,0)):=(Below.heap_alloc _ _ _ (by simp)).trans (World.alloc_heap_new _ _)
  have hz:((w.alloc (.cells #[.int .i64 0,.int .i64 0] 93)).alloc (.cells #[.slice ao n cap,.int .i64 0,.int .i64 0,.int .i64 0,.slice none 0 0] 116)).heap.size=w.heap.size+2:=by simp
  have hn1:¬(2000:Int)<(n:Int):=by omega
  generalize scanA f n 0 0=Q at*
  clear hB hm hf S0
  go_enter Tryz.func80,Tryz.ntmps80
  go_wp2_with fail
  refine R.mono ?_
  rintro e w1⟨tv,rfl,c4,O1,T1⟩
  clear R
  rw[hz]at O1
  have hs1:=T1.size
  rw[hz]at hs1
  have B1:Below w.heap.size w w1:=B0.trans (lin.Turns.below T1 (by omega) (fun k e=>by omega))
  have G1:=Tn.blk T1 G0 (by omega)
  clear T1 B0 G0 hz
  obtain⟨g0,g1,y0,y1⟩:=nam.blk2 G1
  have q4:∀o,(w1.alloc o).cell? ⟨w.heap.size+1,4,none⟩=some tv:=fun o=>(World.cell?_alloc_past _ _ _ (by omega)).trans c4
  have hne:¬w.heap.size=w1.heap.size:=by omega
  have hne2:¬w1.heap.size=w.heap.size:=by omega
  have hne3:¬w.heap.size+1=w1.heap.size:=by omega
  have hl0:w.heap.size<w1.heap.size:=by omega
  have hl1:w.heap.size+1<w1.heap.size:=by omega
  go_wp2
  obtain⟨W,hW⟩:∃W,w1.alloc (.cells #[.int .i64 Q.2.1,.int .i64 (Q.2.2:Int)] 93)=W:=⟨_,rfl⟩
  have BW:Below w1.heap.size w1 W:=by rw[←hW];exact(Below.refl _ _).alloc (Nat.le_refl _) _
  have NW:W.heap[w1.heap.size]?=some (.cells #[.int .i64 Q.2.1,.int .i64 (Q.2.2:Int)] 93 (0,0)):=by rw[←hW];exact World.alloc_heap_new _ _
  have p4:W.cell? ⟨w.heap.size+1,4,none⟩=some tv:=by rw[←hW];exact q4 _
  have GW:=(BW.block _ hl0).trans G1
  have OW:=utf.own_below O1 BW
  have B2:=B1.trans (BW.mono (by omega))
  rw[hW]
  clear hW q4 G1 O1 B1 BW g0 g1 y0 y1 c4
  obtain⟨e0,e1,-,-⟩:=nam.blk2 NW
  obtain⟨g0,g1,y0,y1⟩:=nam.blk2 GW
  go_region_held3(fun w'=>w'.cell? ⟨w.heap.size+1,4,none⟩=some tv∧w'.cell? ⟨w1.heap.size,0,none⟩=some (.int .i64 Q.2.1)∧w'.cell? ⟨w1.heap.size,1,none⟩=some (.int .i64 (Q.2.2:Int)))(go_keep)(fail)
  have OF:=ownsRow_setCell_below (a:=⟨w.heap.size,1,none⟩) (ownsRow_setCell_below (a:=⟨w.heap.size,0,none⟩) (utf.own_below OW (w':=W.drew) ⟨rfl,rfl,rfl,Nat.le_refl _,fun _ _=>rfl⟩) (by show w.heap.size<w.heap.size+2;omega) (.int .i64 Q.2.1)) (by show w.heap.size<w.heap.size+2;omega) (.int .i64 (Q.2.2:Int))
  have BF:=(B2.drew.setCell (p:=⟨w.heap.size,0,none⟩) (Nat.le_refl _) (.int .i64 Q.2.1)).setCell (p:=⟨w.heap.size,1,none⟩) (Nat.le_refl _) (.int .i64 (Q.2.2:Int))
  have GF:=set2 (w:=W.drew) GW (.int .i64 Q.2.1) (.int .i64 (Q.2.2:Int))
  go_wp2
  exact bodyPost_ret (results2 Tryz.results80 _ _ tv w.heap.size _ _ _ _ rfl rfl GF Tryz.underlying93 rfl infoFault) rfl ⟨tv,rfl,own_lower OF (by omega),BF⟩
 ·have e:scanL f n=([],4,2000):=by unfold scanL;rw[if_neg hn]
  rw[e]
  have hn1:(2000:Int)<(n:Int):=by omega
  have GF:(w.alloc (.cells #[.int .i64 4,.int .i64 2000] 93)).heap[w.heap.size]?=some (.cells #[.int .i64 4,.int .i64 2000] 93 (0,0)):=World.alloc_heap_new _ _
  have BF:=(Below.refl w.heap.size w).alloc (Nat.le_refl _) (.cells #[.int .i64 4,.int .i64 2000] 93)
  clear e
  go_enter Tryz.func80,Tryz.ntmps80
  go_wp2
  exact bodyPost_ret (results2 Tryz.results80 _ _ (.slice none 0 0) w.heap.size _ _ _ _ rfl rfl GF Tryz.underlying93 rfl infoFault) rfl ⟨.slice none 0 0,rfl,World.ownsRow_nil _ _ _ _,BF⟩
end Go.Proofs.YtbbeciofgnkggaaGreatDoor.tok
namespace Go.Proofs.YtbbeciofgnkggaaGreatDoor.tok
open Go.RowKit
open lin(BA Turns)
structure TkAt(w:World)(b off:Nat)(t:Tk):Prop where
 c0:w.cell? ⟨b,off,none⟩=some (.int .i64 t.kind)
 c1:w.cell? ⟨b,off+1,none⟩=some (.int .i64 t.mode)
 c2:w.cell? ⟨b,off+2,none⟩=some (.int .i64 t.a)
 c3:w.cell? ⟨b,off+3,none⟩=some (.int .i64 t.b)
 c4:w.cell? ⟨b,off+4,none⟩=some (.string (BA t.name))
 c5:w.cell? ⟨b,off+5,none⟩=some (.bool t.neg)
 c6:w.cell? ⟨b,off+6,none⟩=some (.int .i64 t.s)
 c7:w.cell? ⟨b,off+7,none⟩=some (.int .i64 t.e)
theorem TkAt.below{w w':World}{b off:Nat}{t:Tk}(h:TkAt w b off t)(hb:Below w.heap.size w w'):TkAt w' b off t:=by
 have g:∀{o:Nat}{v:Value},w.cell? ⟨b,o,none⟩=some v→w'.cell? ⟨b,o,none⟩=some v:=fun e=>(hb.cell (World.block_lt_of_cell? w _ e)).trans e
 exact⟨g h.c0,g h.c1,g h.c2,g h.c3,g h.c4,g h.c5,g h.c6,g h.c7⟩
theorem flatT_get:∀(L:List Tk)(i j:Nat)(t:Tk),L[i]?=some t→j<8→(flatT L)[i*8+j]?=t.cells[j]?
 |[],i,j,t,h,_=>by simp at h
 |x::L,0,j,t,h,hj=>by
  simp at h;subst h
  rw[show x::L=[x]++L from rfl,flatT_append,flatT_one,List.getElem?_append_left (by simp[Tk.cells];omega)]
  simp
 |x::L,i+1,j,t,h,hj=>by
  have:=flatT_get L i j t (by simpa using h) hj
  rw[show x::L=[x]++L from rfl,flatT_append,flatT_one,List.getElem?_append_right (by simp[Tk.cells];omega)]
  rw[show(i+1)*8+j-x.cells.length=i*8+j from by simp[Tk.cells];omega]
  exact this
/--Tokens that are a row: the slice, and each where it lies. -/
theorem tok_view{w:World}{base:Nat}{v:Value}{L:List Tk}(h:w.ownsRow base 97 8 v L.length (flatT L)):
  ∃a c,v=.slice a L.length c∧L.length≤c∧(0<L.length→∃g,a=some ⟨g,0,none⟩∧base≤g∧g<w.heap.size∧∀i t,L[i]?=some t→TkAt w g (i*8) t):=by
 rcases h.2 with hn|⟨g,cap,cur,rfl,hg,hgg,h3,h4,h5,h6⟩
 ·obtain⟨rfl,h0⟩:=hn
  have h0':L.length=0:=by simpa using h0
  rw[h0']
  exact⟨_,_,rfl,Nat.le_refl _,fun h=>by omega⟩
 ·refine⟨_,_,rfl,h3,fun _=>⟨g,rfl,hg,(Array.getElem?_eq_some_iff.1 hgg).1,?_⟩⟩
  intro i t ht
  have hi:i<L.length:=(List.getElem?_eq_some_iff.1 ht).1
  have get:∀j,j<8→w.cell? ⟨g,i*8+j,none⟩=t.cells[j]?:=by
   intro j hj
   rw[cell_of_row w g (i*8+j) cur _ _ hgg,←flatT_get L i j t ht hj,←h6,List.getElem?_take_of_lt (by omega),Array.getElem?_toList]
  exact⟨get 0 (by omega),get 1 (by omega),get 2 (by omega),get 3 (by omega),get 4 (by omega),get 5 (by omega),get 6 (by omega),get 7 (by omega)⟩
def awakeF:Nat→Int:=fun i=>([97,123,50,44,51,125,63]:List Int).getD i 0
end Go.Proofs.YtbbeciofgnkggaaGreatDoor.tok
