import Derived.Test.YtgbkolonhddolaaGreatDoorBpPrs3
import Derived.Laws.EntriesVeiled
set_option linter.unusedSimpArgs false
set_option linter.unusedVariables false
set_option maxRecDepth 10000
set_option maxHeartbeats 4000000
namespace Go.Proofs.YtgbkolonhddolaaGreatDoor.prs
open Go.RowKit nod tok
open rng(R RV info_parts)
open lin(BA)
theorem KA:(Tryz.prog.info? 26).map (·.size)=some 8:=by kernel_rfl
theorem xP{w:World}{g:Nat}{t:TypeId}{u0 u1 u2 u3 u4 u5 u6 u7:Value}(h:Bk w g #[u0,u1,u2,u3,u4,u5,u6,u7] t)(y:Nv):Bk (aC w g 0 y) g #[.int .i64 y.k,.int .i64 y.m,.int .i64 y.a,.int .i64 y.b,.bool y.g,.string y.nm,.slice none 0 0,.slice y.ka y.kn y.kc] t:=by
 have:=(((((((h.set 0 (.int .i64 y.k)).set 1 (.int .i64 y.m)).set 2 (.int .i64 y.a)).set 3 (.int .i64 y.b)).set 4 (.bool y.g)).set 5 (.string y.nm)).set 6 (.slice none 0 0)).set 7 (.slice y.ka y.kn y.kc)
 simpa[aC]using this
theorem fI{B:Nat}{w w':World}{g o:Nat}(y:Nv)(h:Below B w w')(hg:B≤g):Below B w (aC w' g o y):=
 (((((((h.setCell (p:=⟨g,o,none⟩) hg _).setCell (p:=⟨g,o+1,none⟩) hg _).setCell (p:=⟨g,o+2,none⟩) hg _).setCell (p:=⟨g,o+3,none⟩) hg _).setCell (p:=⟨g,o+4,none⟩) hg _).setCell (p:=⟨g,o+5,none⟩) hg _).setCell (p:=⟨g,o+6,none⟩) hg _).setCell (p:=⟨g,o+7,none⟩) hg _
/--A token's value. -/
def oO(t:Tk):Value:=.agg #[.int .i64 t.kind,.int .i64 t.mode,.int .i64 t.a,.int .i64 t.b,.string (BA t.name),.bool t.neg,.int .i64 t.s,.int .i64 t.e]
/--What is known of a token's numbers. -/
structure tV(t:Tk):Prop where
 k:dQ t.kind
 m:dQ t.mode
 a:dQ t.a
 b:dQ t.b
 n:(BA t.name).size≤maxLen
/--A world with a node's block more. -/
def N8(w:World)(y:Nv):World:=w.alloc (.cells #[.int .i64 y.k,.int .i64 y.m,.int .i64 y.a,.int .i64 y.b,.bool y.g,.string y.nm,.slice none 0 0,.slice y.ka y.kn y.kc] 26)
/--The result's node, in its own new block. -/
theorem qH{fn:Func}{p:Tmp}(h:fn.results=#[.cell p 26])(tmps:Array Value)(w:World)(g:Nat)(y:Nv)(hg:w.heap.size=g)(hp:tmps.getD p undef=.pointer (some ⟨g,0,none⟩)):
  (results fn tmps).run Tryz.prog (N8 w y)=.ok (a8 y) (N8 w y):=by
 have hq:(N8 w y).heap[g]?=some (.cells #[.int .i64 y.k,.int .i64 y.m,.int .i64 y.a,.int .i64 y.b,.bool y.g,.string y.nm,.slice none 0 0,.slice y.ka y.kn y.kc] 26 (0,0)):=by rw[←hg];exact World.alloc_heap_new w _
 generalize N8 w y=W at*
 exact results_cell_row h tmps W g 26 #[.int .i64 y.k,.int .i64 y.m,.int .i64 y.a,.int .i64 y.b,.bool y.g,.string y.nm,.slice none 0 0,.slice y.ka y.kn y.kc] (0,0) _ hp hq Tryz.underlying26 rfl KA
theorem nW(ao:Option Addr)(n c:Nat)(w:World):Calls Tryz.prog 22 #[.slice ao n c] w fun e w'=>e=.returned (a8 ⟨6,0,0,0,false,⟨#[]⟩,ao,n,c⟩)∧Below w.heap.size w w':=by
 go_enter Tryz.func22,Tryz.ntmps22
 go_wp2
 exact bodyPost_ret (qH Tryz.results22 _ w w.heap.size ⟨6,0,0,0,false,⟨#[]⟩,ao,n,c⟩ rfl rfl) rfl ⟨rfl,(Below.refl _ w).alloc (Nat.le_refl _) _⟩
theorem fT(k:Int)(w:World):Calls Tryz.prog 42 #[.int .i64 k] w fun e w'=>e=.returned (.bool (!decide (k=8∨k=10∨k=12)))∧w'=w:=by
 by_cases h8:k=8
 ·have e8:(k==8)=true:=by simp[h8]
  rw[decide_eq_true (by omega)]
  clear h8
  go_enter Tryz.func42,Tryz.ntmps42
  go_wp2
  go_ret
  exact⟨rfl,rfl⟩
 have e8:(k==8)=false:=by simpa using h8
 by_cases h10:k=10
 ·have e10:(k==10)=true:=by simp[h10]
  rw[decide_eq_true (by omega)]
  clear h8 h10
  go_enter Tryz.func42,Tryz.ntmps42
  go_wp2
  go_ret
  exact⟨rfl,rfl⟩
 have e10:(k==10)=false:=by simpa using h10
 by_cases h12:k=12
 ·have e12:(k==12)=true:=by simp[h12]
  rw[decide_eq_true (by omega)]
  clear h8 h10 h12
  go_enter Tryz.func42,Tryz.ntmps42
  go_wp2
  go_ret
  exact⟨rfl,rfl⟩
 have e12:(k==12)=false:=by simpa using h12
 rw[decide_eq_false (by omega)]
 clear h8 h10 h12
 go_enter Tryz.func42,Tryz.ntmps42
 go_wp2
 go_ret
 exact⟨rfl,rfl⟩
/--The value of a token that is a part, or a member, by itself. -/
def ig(t:Tk):Nv:=
 if t.kind=2 then⟨2,0,0,0,false,⟨#[]⟩,none,0,0⟩else if t.kind=7 then⟨12,t.mode,0,0,false,⟨#[]⟩,none,0,0⟩else if t.kind=8 then⟨5,0,0,0,t.neg,BA t.name,none,0,0⟩
 else if t.kind=10 then⟨14,0,0,0,false,⟨#[]⟩,none,0,0⟩else⟨1,0,t.a,0,false,⟨#[]⟩,none,0,0⟩
theorem iH{P:Nat→Prop}{w:World}{k m a b:Int}{g:Bool}{n:List UInt8}(hi:dQ k∧dQ m∧dQ a∧dQ b)(hn:(BA n).size≤maxLen):Fz P w (nd k m a b g n []) (a8 ⟨k,m,a,b,g,BA n,none,0,0⟩):=
 qW (B:=0) (xs:=[]) hi hn rfl (World.ownsRow_nil _ _ _ _) (RN.nil _ _) fun x e=>by cases e
theorem ai(x:Int)(h:0≤x∧x≤1000):dQ x:=by unfold dQ;omega
theorem Et{P:Nat→Prop}{w:World}{t:Tk}(h:tV t):Fz P w (iE t) (a8 (ig t)):=by
 have hn:(BA []).size≤maxLen:=by decide
 unfold iE ig
 split
 ·exact iH ⟨ai _ (by decide),ai _ (by decide),ai _ (by decide),ai _ (by decide)⟩ hn
 split
 ·exact iH ⟨ai _ (by decide),h.m,ai _ (by decide),ai _ (by decide)⟩ hn
 split
 ·exact iH ⟨ai _ (by decide),ai _ (by decide),ai _ (by decide),ai _ (by decide)⟩ h.n
 split
 ·exact iH ⟨ai _ (by decide),ai _ (by decide),ai _ (by decide),ai _ (by decide)⟩ hn
 ·exact iH ⟨ai _ (by decide),ai _ (by decide),h.a,ai _ (by decide)⟩ hn
theorem zB(t:Tk)(w:World):Calls Tryz.prog 33 #[oO t] w fun e w'=>e=.returned (a8 (ig t))∧Below w.heap.size w w':=by
 obtain⟨tk,tm,ta,tb,tn,tg,ts,te⟩:=t
 unfold oO
 simp only
 have TB:Bk (w.alloc (.cells #[.int .i64 tk,.int .i64 tm,.int .i64 ta,.int .i64 tb,.string (BA tn),.bool tg,.int .i64 ts,.int .i64 te] 66)) w.heap.size #[.int .i64 tk,.int .i64 tm,.int .i64 ta,.int .i64 tb,.string (BA tn),.bool tg,.int .i64 ts,.int .i64 te] 66:=Bk.new w _ _
 by_cases h2:tk=2
 ·have e2:(tk==2)=true:=by simp[h2]
  have hv:ig ⟨tk,tm,ta,tb,tn,tg,ts,te⟩=⟨2,0,0,0,false,⟨#[]⟩,none,0,0⟩:=by unfold ig;simp[h2]
  rw[hv]
  clear hv h2
  generalize BA tn=X at*
  have c0:=TB.cell 0 (u:=.int .i64 tk) rfl
  have c1:=TB.cell 1 (u:=.int .i64 tm) rfl
  have c2:=TB.cell 2 (u:=.int .i64 ta) rfl
  have c4:=TB.cell 4 (u:=.string X) rfl
  have c5:=TB.cell 5 (u:=.bool tg) rfl
  clear TB
  go_enter Tryz.func33,Tryz.ntmps33
  go_wp2
  exact bodyPost_ret (qH Tryz.results33 _ (w.alloc (.cells #[.int .i64 tk,.int .i64 tm,.int .i64 ta,.int .i64 tb,.string X,.bool tg,.int .i64 ts,.int .i64 te] 66)) (w.heap.size+1) ⟨2,0,0,0,false,⟨#[]⟩,none,0,0⟩ (by simp) rfl) rfl ⟨rfl,bP _ _ _⟩
 have e2:(tk==2)=false:=by simpa using h2
 by_cases h7:tk=7
 ·have e7:(tk==7)=true:=by simp[h7]
  have hv:ig ⟨tk,tm,ta,tb,tn,tg,ts,te⟩=⟨12,tm,0,0,false,⟨#[]⟩,none,0,0⟩:=by unfold ig;simp[h2,h7]
  rw[hv]
  clear hv h2 h7
  generalize BA tn=X at*
  have c0:=TB.cell 0 (u:=.int .i64 tk) rfl
  have c1:=TB.cell 1 (u:=.int .i64 tm) rfl
  have c2:=TB.cell 2 (u:=.int .i64 ta) rfl
  have c4:=TB.cell 4 (u:=.string X) rfl
  have c5:=TB.cell 5 (u:=.bool tg) rfl
  clear TB
  go_enter Tryz.func33,Tryz.ntmps33
  go_wp2
  exact bodyPost_ret (qH Tryz.results33 _ (w.alloc (.cells #[.int .i64 tk,.int .i64 tm,.int .i64 ta,.int .i64 tb,.string X,.bool tg,.int .i64 ts,.int .i64 te] 66)) (w.heap.size+1) ⟨12,tm,0,0,false,⟨#[]⟩,none,0,0⟩ (by simp) rfl) rfl ⟨rfl,bP _ _ _⟩
 have e7:(tk==7)=false:=by simpa using h7
 by_cases h8:tk=8
 ·have e8:(tk==8)=true:=by simp[h8]
  have hv:ig ⟨tk,tm,ta,tb,tn,tg,ts,te⟩=⟨5,0,0,0,tg,(BA tn),none,0,0⟩:=by unfold ig;simp[h2,h7,h8]
  rw[hv]
  clear hv h2 h7 h8
  generalize BA tn=X at*
  have c0:=TB.cell 0 (u:=.int .i64 tk) rfl
  have c1:=TB.cell 1 (u:=.int .i64 tm) rfl
  have c2:=TB.cell 2 (u:=.int .i64 ta) rfl
  have c4:=TB.cell 4 (u:=.string X) rfl
  have c5:=TB.cell 5 (u:=.bool tg) rfl
  clear TB
  go_enter Tryz.func33,Tryz.ntmps33
  go_wp2
  exact bodyPost_ret (qH Tryz.results33 _ (w.alloc (.cells #[.int .i64 tk,.int .i64 tm,.int .i64 ta,.int .i64 tb,.string X,.bool tg,.int .i64 ts,.int .i64 te] 66)) (w.heap.size+1) ⟨5,0,0,0,tg,X,none,0,0⟩ (by simp) rfl) rfl ⟨rfl,bP _ _ _⟩
 have e8:(tk==8)=false:=by simpa using h8
 by_cases h10:tk=10
 ·have e10:(tk==10)=true:=by simp[h10]
  have hv:ig ⟨tk,tm,ta,tb,tn,tg,ts,te⟩=⟨14,0,0,0,false,⟨#[]⟩,none,0,0⟩:=by unfold ig;simp[h2,h7,h8,h10]
  rw[hv]
  clear hv h2 h7 h8 h10
  generalize BA tn=X at*
  have c0:=TB.cell 0 (u:=.int .i64 tk) rfl
  have c1:=TB.cell 1 (u:=.int .i64 tm) rfl
  have c2:=TB.cell 2 (u:=.int .i64 ta) rfl
  have c4:=TB.cell 4 (u:=.string X) rfl
  have c5:=TB.cell 5 (u:=.bool tg) rfl
  clear TB
  go_enter Tryz.func33,Tryz.ntmps33
  go_wp2
  exact bodyPost_ret (qH Tryz.results33 _ (w.alloc (.cells #[.int .i64 tk,.int .i64 tm,.int .i64 ta,.int .i64 tb,.string X,.bool tg,.int .i64 ts,.int .i64 te] 66)) (w.heap.size+1) ⟨14,0,0,0,false,⟨#[]⟩,none,0,0⟩ (by simp) rfl) rfl ⟨rfl,bP _ _ _⟩
 have e10:(tk==10)=false:=by simpa using h10
 have hv:ig ⟨tk,tm,ta,tb,tn,tg,ts,te⟩=⟨1,0,ta,0,false,⟨#[]⟩,none,0,0⟩:=by unfold ig;simp[h2,h7,h8,h10]
 rw[hv]
 clear hv h2 h7 h8 h10
 generalize BA tn=X at*
 have c0:=TB.cell 0 (u:=.int .i64 tk) rfl
 have c1:=TB.cell 1 (u:=.int .i64 tm) rfl
 have c2:=TB.cell 2 (u:=.int .i64 ta) rfl
 have c4:=TB.cell 4 (u:=.string X) rfl
 have c5:=TB.cell 5 (u:=.bool tg) rfl
 clear TB
 go_enter Tryz.func33,Tryz.ntmps33
 go_wp2
 exact bodyPost_ret (qH Tryz.results33 _ (w.alloc (.cells #[.int .i64 tk,.int .i64 tm,.int .i64 ta,.int .i64 tb,.string X,.bool tg,.int .i64 ts,.int .i64 te] 66)) (w.heap.size+1) ⟨1,0,ta,0,false,⟨#[]⟩,none,0,0⟩ (by simp) rfl) rfl ⟨rfl,bP _ _ _⟩
end Go.Proofs.YtgbkolonhddolaaGreatDoor.prs
namespace Go.Proofs.YtgbkolonhddolaaGreatDoor.prs
open Go.RowKit nod tok
open rng(R RV info_parts)
open lin(BA)
theorem wrap64(x:Int)(h1:-9223372036854775808≤x)(h2:x≤9223372036854775807):IntKind.i64.wrap x=x:=by
 rw[IntKind.wrap_i64];omega
theorem Hw(w:World)(pb:Nat)(nx nv:Value)(ba ca:Option Addr)(L nc bc cc:Nat)(h:Bk w pb #[nx,.slice ba (L+1) bc,.slice ca nc cc,nv] 64)(h1:L≤1000000)(h2:nc≤1000000):
  Calls Tryz.prog 16 #[.pointer (some ⟨pb,0,none⟩)] w fun e w'=>e=.returned (.int .i64 ((L+nc:Nat):Int))∧Below w.heap.size w w':=by
 have x1:=h.cell 1 (u:=.slice ba (L+1) bc) rfl
 have x2:=h.cell 2 (u:=.slice ca nc cc) rfl
 have e1:IntKind.i64.wrap ((L:Int))=L:=wrap64 _ (by omega) (by omega)
 have e2:IntKind.i64.wrap ((L:Int)+(nc:Int))=(L:Int)+nc:=wrap64 _ (by omega) (by omega)
 rw[show(((L+nc:Nat)):Int)=(L:Int)+(nc:Int)by omega]
 clear h
 go_enter Tryz.func16,Tryz.ntmps16
 go_wp2
 go_quiet(fail)
 go_wp2
 go_ret
 exact⟨rfl,below_drewN (Below.refl _ w) _⟩
theorem oJ(w:World)(pb g:Nat)(nx cv nv:Value)(L cap:Nat)(h:Bk w pb #[nx,.slice (some ⟨g,0,none⟩) (L+1) cap,cv,nv] 64)(h1:L≤1000000):
  Calls Tryz.prog 17 #[.pointer (some ⟨pb,0,none⟩)] w fun e w'=>e=.returned (.pointer (some ⟨g,L*10,none⟩))∧Below w.heap.size w w':=by
 have x1:=h.cell 1 (u:=.slice (some ⟨g,0,none⟩) (L+1) cap) rfl
 have e1:IntKind.i64.wrap ((L:Int))=L:=wrap64 _ (by omega) (by omega)
 have e2:(L:Int)<(L:Int)+1:=by omega
 have e3:(0:Int)≤(L:Int):=by omega
 clear h
 go_enter Tryz.func17,Tryz.ntmps17
 go_wp2
 go_quiet(fail)
 go_wp2
 go_ret
 exact⟨rfl,below_drewN (Below.refl _ w) _⟩
theorem iO(w:World)(pb g:Nat)(nx bv nv:Value)(L cap:Nat)(h:Bk w pb #[nx,bv,.slice (some ⟨g,0,none⟩) (L+1) cap,nv] 64)(h1:L≤1000000):
  Calls Tryz.prog 64 #[.pointer (some ⟨pb,0,none⟩)] w fun e w'=>e=.returned (.pointer (some ⟨g,L*11,none⟩))∧Below w.heap.size w w':=by
 have x1:=h.cell 2 (u:=.slice (some ⟨g,0,none⟩) (L+1) cap) rfl
 have e1:IntKind.i64.wrap ((L:Int))=L:=wrap64 _ (by omega) (by omega)
 have e2:(L:Int)<(L:Int)+1:=by omega
 have e3:(0:Int)≤(L:Int):=by omega
 clear h
 go_enter Tryz.func64,Tryz.ntmps64
 go_wp2
 go_quiet(fail)
 go_wp2
 go_ret
 exact⟨rfl,below_drewN (Below.refl _ w) _⟩
theorem zC(w:World)(cg o g:Nat)(L cap:Nat)(x1:w.cell? ⟨cg,o+10,none⟩=some (.slice (some ⟨g,0,none⟩) (L+1) cap))(h1:L≤1000000):
  Calls Tryz.prog 82 #[.pointer (some ⟨cg,o,none⟩)] w fun e w'=>e=.returned (.pointer (some ⟨g,L*8,none⟩))∧Below w.heap.size w w':=by
 have e1:IntKind.i64.wrap ((L:Int))=L:=wrap64 _ (by omega) (by omega)
 have e2:(L:Int)<(L:Int)+1:=by omega
 have e3:(0:Int)≤(L:Int):=by omega
 go_enter Tryz.func82,Tryz.ntmps82
 go_wp2
 go_quiet(fail)
 go_wp2
 go_ret
 exact⟨rfl,below_drewN (Below.refl _ w) _⟩
end Go.Proofs.YtgbkolonhddolaaGreatDoor.prs
namespace Go.Proofs.YtgbkolonhddolaaGreatDoor.prs
open Go.RowKit nod tok
open rng(R RV info_parts)
open lin(BA)
theorem yX{fn:Func}{p:Tmp}(h:fn.results=#[.cell p 26])(tmps:Array Value)(w:World)(g:Nat)(y:Nv)(hp:tmps.getD p undef=.pointer (some ⟨g,0,none⟩)){u0 u1 u2 u3 u4 u5 u6 u7:Value}(hb:Bk w g #[u0,u1,u2,u3,u4,u5,u6,u7] 26):
  (results fn tmps).run Tryz.prog (aC w g 0 y)=.ok (a8 y) (aC w g 0 y):=by
 have hq:=xP hb y
 unfold Bk at hq
 generalize aC w g 0 y=W at*
 exact results_cell_row h tmps W g 26 #[.int .i64 y.k,.int .i64 y.m,.int .i64 y.a,.int .i64 y.b,.bool y.g,.string y.nm,.slice none 0 0,.slice y.ka y.kn y.kc] (0,0) _ hp hq Tryz.underlying26 rfl KA
theorem ret8d{fn:Func}{p:Tmp}(h:fn.results=#[.cell p 26])(tmps:Array Value)(w:World)(g:Nat)(y:Nv)(hg:w.heap.size=g)(hp:tmps.getD p undef=.pointer (some ⟨g,0,none⟩)):
  (results fn tmps).run Tryz.prog (N8 w y).drew=.ok (a8 y) (N8 w y).drew:=by
 have hq:(N8 w y).drew.heap[g]?=some (.cells #[.int .i64 y.k,.int .i64 y.m,.int .i64 y.a,.int .i64 y.b,.bool y.g,.string y.nm,.slice none 0 0,.slice y.ka y.kn y.kc] 26 (0,0)):=by rw[←hg];exact World.alloc_heap_new w _
 generalize(N8 w y).drew=W at*
 exact results_cell_row h tmps W g 26 #[.int .i64 y.k,.int .i64 y.m,.int .i64 y.a,.int .i64 y.b,.bool y.g,.string y.nm,.slice none 0 0,.slice y.ka y.kn y.kc] (0,0) _ hp hq Tryz.underlying26 rfl KA
/--A Ii kind, mode, number and name. -/
structure Br where
 k:Int
 m:Int
 a:Int
 nm:List UInt8
def oQ(t:Tk)(k:Nat):Br:=
 if t.mode=1 then⟨9,0,0,[]⟩else if t.mode=3 then⟨10,0,0,[]⟩else if t.mode=4 then⟨10,1,0,[]⟩
 else if t.mode=5 then⟨10,2,0,[]⟩else if t.mode=6 then⟨10,3,0,[]⟩else if t.mode=7 then⟨11,0,0,[]⟩else⟨9,0,k,t.name⟩
theorem brV_is(t:Tk)(k:Nat):kJ t k=nd (oQ t k).k (oQ t k).m (oQ t k).a 0 false (oQ t k).nm []:=by
 unfold kJ oQ
 repeat'(first|rfl|split)
def a8b(b:Br):Value:=.agg #[.int .i64 b.k,.int .i64 b.m,.int .i64 b.a,.int .i64 0,.bool false,.string (BA b.nm),.slice none 0 0,.slice none 0 0]
theorem qD(t:Tk)(w:World)(pb:Nat)(nx bv cv:Value)(na:Option Addr)(k nc:Nat)(h:Bk w pb #[nx,bv,cv,.slice na k nc] 64):
  Calls Tryz.prog 41 #[.pointer (some ⟨pb,0,none⟩),oO t] w fun e w'=>e=.returned (a8b (oQ t k))∧Below w.heap.size w w':=by
 have x3:=h.cell 3 (u:=.slice na k nc) rfl
 have hlt:=h.lt
 obtain⟨tk,tm,ta,tb,tn,tg,ts,te⟩:=t
 unfold oO
 simp only
 have TB:Bk (w.alloc (.cells #[.int .i64 tk,.int .i64 tm,.int .i64 ta,.int .i64 tb,.string (BA tn),.bool tg,.int .i64 ts,.int .i64 te] 66)) w.heap.size #[.int .i64 tk,.int .i64 tm,.int .i64 ta,.int .i64 tb,.string (BA tn),.bool tg,.int .i64 ts,.int .i64 te] 66:=Bk.new w _ _
 by_cases h1:tm=1
 ·have e1:(tm==1)=true:=by simp[h1]
  have hv:oQ ⟨tk,tm,ta,tb,tn,tg,ts,te⟩ k=⟨9,0,0,[]⟩:=by unfold oQ;simp[h1]
  rw[hv]
  clear hv h1
  generalize BA tn=X at*
  have c1:=TB.cell 1 (u:=.int .i64 tm) rfl
  clear TB h
  go_enter Tryz.func41,Tryz.ntmps41
  go_wp2
  exact bodyPost_ret (qH Tryz.results41 _ (w.alloc (.cells #[.int .i64 tk,.int .i64 tm,.int .i64 ta,.int .i64 tb,.string X,.bool tg,.int .i64 ts,.int .i64 te] 66)) (w.heap.size+1) ⟨9,0,0,0,false,⟨#[]⟩,none,0,0⟩ (by simp) rfl) rfl ⟨rfl,bP _ _ _⟩
 have e1:(tm==1)=false:=by simpa using h1
 by_cases h3:tm=3
 ·have e3:(tm==3)=true:=by simp[h3]
  have hv:oQ ⟨tk,tm,ta,tb,tn,tg,ts,te⟩ k=⟨10,0,0,[]⟩:=by unfold oQ;simp[h1,h3]
  rw[hv]
  clear hv h1 h3
  generalize BA tn=X at*
  have c1:=TB.cell 1 (u:=.int .i64 tm) rfl
  clear TB h
  go_enter Tryz.func41,Tryz.ntmps41
  go_wp2
  exact bodyPost_ret (qH Tryz.results41 _ (w.alloc (.cells #[.int .i64 tk,.int .i64 tm,.int .i64 ta,.int .i64 tb,.string X,.bool tg,.int .i64 ts,.int .i64 te] 66)) (w.heap.size+1) ⟨10,0,0,0,false,⟨#[]⟩,none,0,0⟩ (by simp) rfl) rfl ⟨rfl,bP _ _ _⟩
 have e3:(tm==3)=false:=by simpa using h3
 by_cases h4:tm=4
 ·have e4:(tm==4)=true:=by simp[h4]
  have hv:oQ ⟨tk,tm,ta,tb,tn,tg,ts,te⟩ k=⟨10,1,0,[]⟩:=by unfold oQ;simp[h1,h3,h4]
  rw[hv]
  clear hv h1 h3 h4
  generalize BA tn=X at*
  have c1:=TB.cell 1 (u:=.int .i64 tm) rfl
  clear TB h
  go_enter Tryz.func41,Tryz.ntmps41
  go_wp2
  exact bodyPost_ret (qH Tryz.results41 _ (w.alloc (.cells #[.int .i64 tk,.int .i64 tm,.int .i64 ta,.int .i64 tb,.string X,.bool tg,.int .i64 ts,.int .i64 te] 66)) (w.heap.size+1) ⟨10,1,0,0,false,⟨#[]⟩,none,0,0⟩ (by simp) rfl) rfl ⟨rfl,bP _ _ _⟩
 have e4:(tm==4)=false:=by simpa using h4
 by_cases h5:tm=5
 ·have e5:(tm==5)=true:=by simp[h5]
  have hv:oQ ⟨tk,tm,ta,tb,tn,tg,ts,te⟩ k=⟨10,2,0,[]⟩:=by unfold oQ;simp[h1,h3,h4,h5]
  rw[hv]
  clear hv h1 h3 h4 h5
  generalize BA tn=X at*
  have c1:=TB.cell 1 (u:=.int .i64 tm) rfl
  clear TB h
  go_enter Tryz.func41,Tryz.ntmps41
  go_wp2
  exact bodyPost_ret (qH Tryz.results41 _ (w.alloc (.cells #[.int .i64 tk,.int .i64 tm,.int .i64 ta,.int .i64 tb,.string X,.bool tg,.int .i64 ts,.int .i64 te] 66)) (w.heap.size+1) ⟨10,2,0,0,false,⟨#[]⟩,none,0,0⟩ (by simp) rfl) rfl ⟨rfl,bP _ _ _⟩
 have e5:(tm==5)=false:=by simpa using h5
 by_cases h6:tm=6
 ·have e6:(tm==6)=true:=by simp[h6]
  have hv:oQ ⟨tk,tm,ta,tb,tn,tg,ts,te⟩ k=⟨10,3,0,[]⟩:=by unfold oQ;simp[h1,h3,h4,h5,h6]
  rw[hv]
  clear hv h1 h3 h4 h5 h6
  generalize BA tn=X at*
  have c1:=TB.cell 1 (u:=.int .i64 tm) rfl
  clear TB h
  go_enter Tryz.func41,Tryz.ntmps41
  go_wp2
  exact bodyPost_ret (qH Tryz.results41 _ (w.alloc (.cells #[.int .i64 tk,.int .i64 tm,.int .i64 ta,.int .i64 tb,.string X,.bool tg,.int .i64 ts,.int .i64 te] 66)) (w.heap.size+1) ⟨10,3,0,0,false,⟨#[]⟩,none,0,0⟩ (by simp) rfl) rfl ⟨rfl,bP _ _ _⟩
 have e6:(tm==6)=false:=by simpa using h6
 by_cases h7:tm=7
 ·have e7:(tm==7)=true:=by simp[h7]
  have hv:oQ ⟨tk,tm,ta,tb,tn,tg,ts,te⟩ k=⟨11,0,0,[]⟩:=by unfold oQ;simp[h1,h3,h4,h5,h6,h7]
  rw[hv]
  clear hv h1 h3 h4 h5 h6 h7
  generalize BA tn=X at*
  have c1:=TB.cell 1 (u:=.int .i64 tm) rfl
  clear TB h
  go_enter Tryz.func41,Tryz.ntmps41
  go_wp2
  exact bodyPost_ret (qH Tryz.results41 _ (w.alloc (.cells #[.int .i64 tk,.int .i64 tm,.int .i64 ta,.int .i64 tb,.string X,.bool tg,.int .i64 ts,.int .i64 te] 66)) (w.heap.size+1) ⟨11,0,0,0,false,⟨#[]⟩,none,0,0⟩ (by simp) rfl) rfl ⟨rfl,bP _ _ _⟩
 have e7:(tm==7)=false:=by simpa using h7
 have hv:oQ ⟨tk,tm,ta,tb,tn,tg,ts,te⟩ k=⟨9,0,k,tn⟩:=by unfold oQ;simp[h1,h3,h4,h5,h6,h7]
 rw[hv]
 show Calls _ _ _ _ fun e w'=>e=.returned (a8 ⟨9,0,(k:Int),0,false,BA tn,none,0,0⟩)∧_
 clear hv h1 h3 h4 h5 h6 h7
 generalize BA tn=X at*
 have c1:=TB.cell 1 (u:=.int .i64 tm) rfl
 have hb2:Below w.heap.size w (((w.alloc (.cells #[.int .i64 tk,.int .i64 tm,.int .i64 ta,.int .i64 tb,.string X,.bool tg,.int .i64 ts,.int .i64 te] 66))).alloc (.cells #[.int .i64 0,.int .i64 0,.int .i64 0,.int .i64 0,.bool false,.string ⟨#[]⟩,.slice none 0 0,.slice none 0 0] 26)):=bP _ _ _
 have ZB:Bk (((w.alloc (.cells #[.int .i64 tk,.int .i64 tm,.int .i64 ta,.int .i64 tb,.string X,.bool tg,.int .i64 ts,.int .i64 te] 66))).alloc (.cells #[.int .i64 0,.int .i64 0,.int .i64 0,.int .i64 0,.bool false,.string ⟨#[]⟩,.slice none 0 0,.slice none 0 0] 26)) (w.heap.size+1) #[.int .i64 0,.int .i64 0,.int .i64 0,.int .i64 0,.bool false,.string ⟨#[]⟩,.slice none 0 0,.slice none 0 0] 26:=bk2
 have c4:=(TB.past (.cells #[.int .i64 0,.int .i64 0,.int .i64 0,.int .i64 0,.bool false,.string ⟨#[]⟩,.slice none 0 0,.slice none 0 0] 26)).cell 4 (u:=.string X) rfl
 have x3':=(hb2.cell (p:=⟨pb,3,none⟩) hlt).trans x3
 have hne:¬w.heap.size+1=pb:=by omega
 have hne2:¬w.heap.size+1=w.heap.size:=by omega
 have z0:=ZB.cell 0 rfl
 have z1:=ZB.cell 1 rfl
 have z2:=ZB.cell 2 rfl
 have z3:=ZB.cell 3 rfl
 have z4:=ZB.cell 4 rfl
 have z5:=ZB.cell 5 rfl
 have z6:=ZB.cell 6 rfl
 have z7:=ZB.cell 7 rfl
 have f0:=ZB.frozen 0
 have f1:=ZB.frozen 1
 have f2:=ZB.frozen 2
 have f3:=ZB.frozen 3
 have f4:=ZB.frozen 4
 have f5:=ZB.frozen 5
 have f6:=ZB.frozen 6
 have f7:=ZB.frozen 7
 clear TB h ZB hb2
 go_enter Tryz.func41,Tryz.ntmps41
 go_wp2
 go_region_held3(fun w'=>w'.cell? ⟨pb,3,none⟩=some (.slice na k nc)∧w'.cell? ⟨w.heap.size,4,none⟩=some (.string X))(go_keep)(fail)
 go_wp2
 exact bodyPost_ret (ret8d Tryz.results41 _ (w.alloc (.cells #[.int .i64 tk,.int .i64 tm,.int .i64 ta,.int .i64 tb,.string X,.bool tg,.int .i64 ts,.int .i64 te] 66)) (w.heap.size+1) ⟨9,0,(k:Int),0,false,X,none,0,0⟩ (by simp) rfl) rfl ⟨rfl,(bP w _ _).drew⟩
theorem uz(w:World):Calls Tryz.prog 14 #[] w fun e w'=>e=.returned (.pointer (some ⟨w.heap.size+1,0,none⟩))∧Below w.heap.size w w'∧
  Sx (gh:=CU) 0 w.heap.size w' (w.heap.size+1) s0 [⟨0,0,0,[],(none,0,0),(none,0,0)⟩] [] (.slice (some ⟨w.heap.size,0,none⟩) 1 1) (.slice none 0 0) (.slice none 0 0):=by
 letI:Gh:=CU
 have HB:Hid (Below w.heap.size w ((w.alloc (.cells #[.int .i64 0,.int .i64 0,.int .i64 0,.int .i64 0,.bool false,.string ⟨#[]⟩,.slice none 0 0,.slice none 0 0,.slice none 0 0,.slice none 0 0] 58)).alloc (.cells #[nextV (w.heap.size+1) 0,.slice (some ⟨w.heap.size,0,none⟩) 1 1,.slice none 0 0,.slice none 0 0] 64))):=bP _ _ _
 have HS:Hid (Sx (gh:=CU) 0 w.heap.size ((w.alloc (.cells #[.int .i64 0,.int .i64 0,.int .i64 0,.int .i64 0,.bool false,.string ⟨#[]⟩,.slice none 0 0,.slice none 0 0,.slice none 0 0,.slice none 0 0] 58)).alloc (.cells #[nextV (w.heap.size+1) 0,.slice (some ⟨w.heap.size,0,none⟩) 1 1,.slice none 0 0,.slice none 0 0] 64)) (w.heap.size+1) s0 [⟨0,0,0,[],(none,0,0),(none,0,0)⟩] [] (.slice (some ⟨w.heap.size,0,none⟩) 1 1) (.slice none 0 0) (.slice none 0 0)):=by
  refine⟨⟨bk2,by omega,(World.ownsRow_lit w _ 1 (Nat.le_refl _) (by decide) rfl).alloc _,World.ownsRow_nil _ _ _ _,World.ownsRow_nil _ _ _ _,fun k o e=>by cases e⟩,.cons _ _ _ _ rfl ⟨ai _ (by decide),ai _ (by decide),ai _ (by decide)⟩ (by decide) .nil,.nil,Rows.Ch (Rows.Ch ⟨fun r h=>(by cases h),.nil⟩),by simp,by simp,by simp[s0],fun r hr=>?_⟩
  have hr:r∈[((Value.slice none 0 0,[]):Lr),(Value.slice none 0 0,[])]:=hr
  simp at hr
  subst hr
  exact Nat.le_refl _
 go_enter Tryz.func14,Tryz.ntmps14
 go_wp2
 go_ret
 exact⟨rfl,HB.out,HS.out⟩
end Go.Proofs.YtgbkolonhddolaaGreatDoor.prs
