import Derived.Test.YtbbeciofgnkggaaGreatDoorBqTre11
import Derived.Test.YtbbeciofgnkggaaGreatDoorBqNod1
import Derived.Deep.RegionHeld3
import Derived.Deep.RegionWith
set_option linter.unusedSimpArgs false
set_option linter.unusedVariables false
set_option maxRecDepth 10000
set_option maxHeartbeats 4000000
namespace Go.Proofs.YtbbeciofgnkggaaGreatDoor.tre
open Go.RowKit nod tok
open rng(R RV ret_int ret_bool)
theorem oz_1(m a b:Int)(g:Bool)(n:ByteArray)(s:List R)(ks:List Nd):bareB m a b g n s.length ks.length 0 a 0 false ⟨#[]⟩ 0=othersZ (.mk 1 m a b g n s ks):=by
 unfold bareB othersZ
 dsimp only
 rw[show may 1 1=false from by decide,show may 1 2=true from by decide,show may 1 4=false from by decide,show may 1 8=false from by decide,show may 1 16=false from by decide,show may 1 32=false from by decide,Bool.eq_iff_iff]
 simp[List.isEmpty_iff,List.length_eq_zero_iff]
 try(intros;constructor<;>(intro h;simp_all))
theorem oz_2(m a b:Int)(g:Bool)(n:ByteArray)(s:List R)(ks:List Nd):bareB m a b g n s.length ks.length 0 0 0 false ⟨#[]⟩ 0=othersZ (.mk 2 m a b g n s ks):=by
 unfold bareB othersZ
 dsimp only
 rw[show may 2 1=false from by decide,show may 2 2=false from by decide,show may 2 4=false from by decide,show may 2 8=false from by decide,show may 2 16=false from by decide,show may 2 32=false from by decide,Bool.eq_iff_iff]
 simp[List.isEmpty_iff,List.length_eq_zero_iff]
 try(intros;constructor<;>(intro h;simp_all))
theorem oz_3(m a b:Int)(g:Bool)(n:ByteArray)(s:List R)(ks:List Nd):bareB m a b g n s.length ks.length m 0 0 g ⟨#[]⟩ ks.length=othersZ (.mk 3 m a b g n s ks):=by
 unfold bareB othersZ
 dsimp only
 rw[show may 3 1=true from by decide,show may 3 2=false from by decide,show may 3 4=false from by decide,show may 3 8=true from by decide,show may 3 16=false from by decide,show may 3 32=true from by decide,Bool.eq_iff_iff]
 simp[List.isEmpty_iff,List.length_eq_zero_iff]
 try(intros;constructor<;>(intro h;simp_all))
theorem oz_4(m a b:Int)(g:Bool)(n:ByteArray)(s:List R)(ks:List Nd):bareB m a b g n s.length ks.length 0 a b false ⟨#[]⟩ 0=othersZ (.mk 4 m a b g n s ks):=by
 unfold bareB othersZ
 dsimp only
 rw[show may 4 1=false from by decide,show may 4 2=true from by decide,show may 4 4=true from by decide,show may 4 8=false from by decide,show may 4 16=false from by decide,show may 4 32=false from by decide,Bool.eq_iff_iff]
 simp[List.isEmpty_iff,List.length_eq_zero_iff]
 try(intros;constructor<;>(intro h;simp_all))
theorem oz_5(m a b:Int)(g:Bool)(n:ByteArray)(s:List R)(ks:List Nd):bareB m a b g n s.length ks.length 0 0 0 g n 0=othersZ (.mk 5 m a b g n s ks):=by
 unfold bareB othersZ
 dsimp only
 rw[show may 5 1=false from by decide,show may 5 2=false from by decide,show may 5 4=false from by decide,show may 5 8=true from by decide,show may 5 16=true from by decide,show may 5 32=false from by decide,Bool.eq_iff_iff]
 simp[List.isEmpty_iff,List.length_eq_zero_iff]
 try(intros;constructor<;>(intro h;simp_all))
theorem oz_6(m a b:Int)(g:Bool)(n:ByteArray)(s:List R)(ks:List Nd):bareB m a b g n s.length ks.length 0 0 0 false ⟨#[]⟩ ks.length=othersZ (.mk 6 m a b g n s ks):=by
 unfold bareB othersZ
 dsimp only
 rw[show may 6 1=false from by decide,show may 6 2=false from by decide,show may 6 4=false from by decide,show may 6 8=false from by decide,show may 6 16=false from by decide,show may 6 32=true from by decide,Bool.eq_iff_iff]
 simp[List.isEmpty_iff,List.length_eq_zero_iff]
 try(intros;constructor<;>(intro h;simp_all))
theorem oz_7(m a b:Int)(g:Bool)(n:ByteArray)(s:List R)(ks:List Nd):bareB m a b g n s.length ks.length 0 0 0 false ⟨#[]⟩ ks.length=othersZ (.mk 7 m a b g n s ks):=by
 unfold bareB othersZ
 dsimp only
 rw[show may 7 1=false from by decide,show may 7 2=false from by decide,show may 7 4=false from by decide,show may 7 8=false from by decide,show may 7 16=false from by decide,show may 7 32=true from by decide,Bool.eq_iff_iff]
 simp[List.isEmpty_iff,List.length_eq_zero_iff]
 try(intros;constructor<;>(intro h;simp_all))
theorem oz_8(m a b:Int)(g:Bool)(n:ByteArray)(s:List R)(ks:List Nd):bareB m a b g n s.length ks.length m a b false ⟨#[]⟩ ks.length=othersZ (.mk 8 m a b g n s ks):=by
 unfold bareB othersZ
 dsimp only
 rw[show may 8 1=true from by decide,show may 8 2=true from by decide,show may 8 4=true from by decide,show may 8 8=false from by decide,show may 8 16=false from by decide,show may 8 32=true from by decide,Bool.eq_iff_iff]
 simp[List.isEmpty_iff,List.length_eq_zero_iff]
 try(intros;constructor<;>(intro h;simp_all))
theorem oz_9(m a b:Int)(g:Bool)(n:ByteArray)(s:List R)(ks:List Nd):bareB m a b g n s.length ks.length 0 a 0 false n ks.length=othersZ (.mk 9 m a b g n s ks):=by
 unfold bareB othersZ
 dsimp only
 rw[show may 9 1=false from by decide,show may 9 2=true from by decide,show may 9 4=false from by decide,show may 9 8=false from by decide,show may 9 16=true from by decide,show may 9 32=true from by decide,Bool.eq_iff_iff]
 simp[List.isEmpty_iff,List.length_eq_zero_iff]
 try(intros;constructor<;>(intro h;simp_all))
theorem oz_10(m a b:Int)(g:Bool)(n:ByteArray)(s:List R)(ks:List Nd):bareB m a b g n s.length ks.length m 0 0 false ⟨#[]⟩ ks.length=othersZ (.mk 10 m a b g n s ks):=by
 unfold bareB othersZ
 dsimp only
 rw[show may 10 1=true from by decide,show may 10 2=false from by decide,show may 10 4=false from by decide,show may 10 8=false from by decide,show may 10 16=false from by decide,show may 10 32=true from by decide,Bool.eq_iff_iff]
 simp[List.isEmpty_iff,List.length_eq_zero_iff]
 try(intros;constructor<;>(intro h;simp_all))
theorem oz_11(m a b:Int)(g:Bool)(n:ByteArray)(s:List R)(ks:List Nd):bareB m a b g n s.length ks.length 0 0 0 false ⟨#[]⟩ ks.length=othersZ (.mk 11 m a b g n s ks):=by
 unfold bareB othersZ
 dsimp only
 rw[show may 11 1=false from by decide,show may 11 2=false from by decide,show may 11 4=false from by decide,show may 11 8=false from by decide,show may 11 16=false from by decide,show may 11 32=true from by decide,Bool.eq_iff_iff]
 simp[List.isEmpty_iff,List.length_eq_zero_iff]
 try(intros;constructor<;>(intro h;simp_all))
theorem oz_12(m a b:Int)(g:Bool)(n:ByteArray)(s:List R)(ks:List Nd):bareB m a b g n s.length ks.length m 0 0 false ⟨#[]⟩ 0=othersZ (.mk 12 m a b g n s ks):=by
 unfold bareB othersZ
 dsimp only
 rw[show may 12 1=true from by decide,show may 12 2=false from by decide,show may 12 4=false from by decide,show may 12 8=false from by decide,show may 12 16=false from by decide,show may 12 32=false from by decide,Bool.eq_iff_iff]
 simp[List.isEmpty_iff,List.length_eq_zero_iff]
 try(intros;constructor<;>(intro h;simp_all))
theorem oz_13(m a b:Int)(g:Bool)(n:ByteArray)(s:List R)(ks:List Nd):bareB m a b g n s.length ks.length 0 a 0 false ⟨#[]⟩ 0=othersZ (.mk 13 m a b g n s ks):=by
 unfold bareB othersZ
 dsimp only
 rw[show may 13 1=false from by decide,show may 13 2=true from by decide,show may 13 4=false from by decide,show may 13 8=false from by decide,show may 13 16=false from by decide,show may 13 32=false from by decide,Bool.eq_iff_iff]
 simp[List.isEmpty_iff,List.length_eq_zero_iff]
 try(intros;constructor<;>(intro h;simp_all))
theorem oz_14(m a b:Int)(g:Bool)(n:ByteArray)(s:List R)(ks:List Nd):bareB m a b g n s.length ks.length 0 0 0 false ⟨#[]⟩ 0=othersZ (.mk 14 m a b g n s ks):=by
 unfold bareB othersZ
 dsimp only
 rw[show may 14 1=false from by decide,show may 14 2=false from by decide,show may 14 4=false from by decide,show may 14 8=false from by decide,show may 14 16=false from by decide,show may 14 32=false from by decide,Bool.eq_iff_iff]
 simp[List.isEmpty_iff,List.length_eq_zero_iff]
 try(intros;constructor<;>(intro h;simp_all))
theorem point_len(a:Int):pointB a=decide (utf.len a≠0):=by
 unfold pointB utf.len
 rw[Bool.eq_iff_iff]
 simp
 (repeat' split)<;>simp<;>omega
/--A class, that lies so deep. -/
def clsB(N:Nat)(t:Nd)(d:Int):Bool:=decide (t.kind=3)&&decide (d≤50)&&othersZ t&&insD N t d
theorem mem_1(ins:Nd→Int→Bool)(m a b:Int)(g:Bool)(n:ByteArray)(s:List R)(ks:List Nd)(d:Int):memD ins (.mk 1 m a b g n s ks) d=(bareB m a b g n s.length ks.length 0 a 0 false ⟨#[]⟩ 0&&pointB a):=by
 rw[oz_1,point_len];rfl
theorem mem_4(ins:Nd→Int→Bool)(m a b:Int)(g:Bool)(n:ByteArray)(s:List R)(ks:List Nd)(d:Int):memD ins (.mk 4 m a b g n s ks) d=(bareB m a b g n s.length ks.length 0 a b false ⟨#[]⟩ 0&&(pointB a&&(pointB b&&decide (a≤b)))):=by
 rw[oz_4,point_len,point_len]
 show(othersZ (.mk 4 m a b g n s ks)&&(decide (a≤b)&&(decide (utf.len a≠0)&&decide (utf.len b≠0))))=_
 cases othersZ (.mk 4 m a b g n s ks)<;>cases decide (a≤b)<;>cases decide (utf.len a≠0)<;>cases decide (utf.len b≠0)<;>rfl
theorem mem_5(ins:Nd→Int→Bool)(m a b:Int)(g:Bool)(n:ByteArray)(s:List R)(ks:List Nd)(d:Int):memD ins (.mk 5 m a b g n s ks) d=(bareB m a b g n s.length ks.length 0 0 0 g n 0&&propD n):=by
 rw[oz_5];rfl
theorem mem_3(M:Nat)(m a b:Int)(g:Bool)(n:ByteArray)(s:List R)(ks:List Nd)(d:Int):memD (insD M) (.mk 3 m a b g n s ks) d=clsB M (.mk 3 m a b g n s ks) (d+1):=by
 show(othersZ (.mk 3 m a b g n s ks)&&(decide (d+1≤50)&&insD M (.mk 3 m a b g n s ks) (d+1)))=(true&&decide (d+1≤50)&&othersZ (.mk 3 m a b g n s ks)&&insD M (.mk 3 m a b g n s ks) (d+1))
 cases othersZ (.mk 3 m a b g n s ks)<;>cases decide (d+1≤50)<;>cases insD M (.mk 3 m a b g n s ks) (d+1)<;>rfl
theorem mem_0(ins:Nd→Int→Bool)(k m a b:Int)(g:Bool)(n:ByteArray)(s:List R)(ks:List Nd)(d:Int)(h1:¬k=1)(h4:¬k=4)(h5:¬k=5)(h3:¬k=3):memD ins (.mk k m a b g n s ks) d=false:=by
 unfold memD
 simp[Nd.kind,h1,h4,h5,h3]
abbrev ClsC(M:Nat):Prop:=∀(t:Nd)(v:Value)(B:Nat)(w:World)(d:Int),t.sz≤M→shortN t→NV B w t v→B≤w.heap.size→0≤d→d≤60→Calls Tryz.prog 34 #[v,.int .i64 d] w fun e w'=>e=.returned (.bool (clsB M t d))∧Below w.heap.size w w'
theorem member_1(m a b:Int)(g:Bool)(n:ByteArray)(ta:Option Addr)(tl tc:Nat)(ka:Option Addr)(kl kc:Nat)(d:Int)(w:World):Calls Tryz.prog 50 #[.agg (n8 1 m a b g n ta tl tc ka kl kc),.int .i64 d] w fun e w'=>e=.returned (.bool ((bareB m a b g n tl kl 0 a 0 false ⟨#[]⟩ 0)&&pointB a))∧Below w.heap.size w w':=by
 have bk:=Bk.new w (n8 1 m a b g n ta tl tc ka kl kc) 25
 have HBK:Hid (Bk (w.alloc (.cells (n8 1 m a b g n ta tl tc ka kl kc) 25)) w.heap.size (n8 1 m a b g n ta tl tc ka kl kc) 25):=bk
 have HB0:Hid (Below w.heap.size w (w.alloc (.cells (n8 1 m a b g n ta tl tc ka kl kc) 25))):=(Below.refl _ w).alloc (Nat.le_refl _) _
 clear bk
 have C:=bare_any 1 m a b g n ta tl tc ka kl kc 0 0 a 0 false ⟨#[]⟩ none 0 0 none 0 0 (w.alloc (.cells (n8 1 m a b g n ta tl tc ka kl kc) 25))
 generalize(bareB m a b g n tl kl 0 a 0 false ⟨#[]⟩ 0)=R at*
 have x2:=HBK.out.cell 2 (u:=.int .i64 a) rfl
 go_enter Tryz.func50,Tryz.ntmps50
 go_wp2_with fail
 refine C.mono ?_
 rintro e w1⟨rfl,b1⟩
 have y2:=(HBK.out.on b1).cell 2 (u:=.int .i64 a) rfl
 have HB1:Hid (Below w.heap.size w w1):=HB0.out.trans (b1.mono HB0.out.size)
 clear C b1 HBK HB0 x2
 cases R with
 |false=>
  go_wp2
  go_ret
  exact⟨rfl,HB1.out⟩
 |true=>
  have C:=point_d a w1
  obtain⟨P,hP⟩:∃P,pointB a=P:=⟨_,rfl⟩
  rw[hP]at C
  have HPa:Hid (pointB a=P):=hP
  clear hP
  go_wp2_with fail
  refine C.mono ?_
  rintro e w2⟨rfl,hw⟩
  rw[hw]
  clear C hw
  go_wp2
  go_ret
  exact⟨rt_bool (by rw[HPa.out];cases P<;>rfl),HB1.out⟩
theorem member_4(m a b:Int)(g:Bool)(n:ByteArray)(ta:Option Addr)(tl tc:Nat)(ka:Option Addr)(kl kc:Nat)(d:Int)(w:World):Calls Tryz.prog 50 #[.agg (n8 4 m a b g n ta tl tc ka kl kc),.int .i64 d] w fun e w'=>e=.returned (.bool ((bareB m a b g n tl kl 0 a b false ⟨#[]⟩ 0)&&(pointB a&&(pointB b&&decide (a≤b)))))∧Below w.heap.size w w':=by
 have bk:=Bk.new w (n8 4 m a b g n ta tl tc ka kl kc) 25
 have HBK:Hid (Bk (w.alloc (.cells (n8 4 m a b g n ta tl tc ka kl kc) 25)) w.heap.size (n8 4 m a b g n ta tl tc ka kl kc) 25):=bk
 have HB0:Hid (Below w.heap.size w (w.alloc (.cells (n8 4 m a b g n ta tl tc ka kl kc) 25))):=(Below.refl _ w).alloc (Nat.le_refl _) _
 clear bk
 have C:=bare_any 4 m a b g n ta tl tc ka kl kc 0 0 a b false ⟨#[]⟩ none 0 0 none 0 0 (w.alloc (.cells (n8 4 m a b g n ta tl tc ka kl kc) 25))
 generalize(bareB m a b g n tl kl 0 a b false ⟨#[]⟩ 0)=R at*
 have x2:=HBK.out.cell 2 (u:=.int .i64 a) rfl
 have x3:=HBK.out.cell 3 (u:=.int .i64 b) rfl
 go_enter Tryz.func50,Tryz.ntmps50
 go_wp2_with fail
 refine C.mono ?_
 rintro e w1⟨rfl,b1⟩
 have y2:=(HBK.out.on b1).cell 2 (u:=.int .i64 a) rfl
 have y3:=(HBK.out.on b1).cell 3 (u:=.int .i64 b) rfl
 have HB1:Hid (Below w.heap.size w w1):=HB0.out.trans (b1.mono HB0.out.size)
 clear C b1 HBK HB0 x2 x3
 cases R with
 |false=>
  go_wp2
  go_ret
  exact⟨rfl,HB1.out⟩
 |true=>
  have C:=point_d a w1
  obtain⟨P,hP⟩:∃P,pointB a=P:=⟨_,rfl⟩
  rw[hP]at C
  have HPa:Hid (pointB a=P):=hP
  clear hP
  go_wp2_with fail
  refine C.mono ?_
  rintro e w2⟨rfl,hw⟩
  rw[hw]
  clear C hw
  cases P with
  |false=>
   go_wp2
   go_ret
   exact⟨rt_bool (by rw[HPa.out];rfl),HB1.out⟩
  |true=>
   have C:=point_d b w1
   obtain⟨Q,hP⟩:∃P,pointB b=P:=⟨_,rfl⟩
   rw[hP]at C
   have HPb:Hid (pointB b=Q):=hP
   clear hP
   go_wp2_with fail
   refine C.mono ?_
   rintro e w3⟨rfl,hw⟩
   rw[hw]
   clear C hw
   cases Q with
   |false=>
    go_wp2
    go_ret
    exact⟨rt_bool (by rw[HPa.out,HPb.out];rfl),HB1.out⟩
   |true=>
    by_cases hab:a≤b
    ·have h2:decide (a≤b)=true:=decide_eq_true hab
     go_wp2
     go_ret
     exact⟨rt_bool (by rw[HPa.out,HPb.out];simp[hab]),HB1.out⟩
    ·have h2:decide (a≤b)=false:=decide_eq_false hab
     go_wp2
     go_ret
     exact⟨rt_bool (by rw[HPa.out,HPb.out];simp[hab]),HB1.out⟩
theorem member_5(m a b:Int)(g:Bool)(n:ByteArray)(ta:Option Addr)(tl tc:Nat)(ka:Option Addr)(kl kc:Nat)(d:Int)(w:World)(hn:n.size≤140737488355327):Calls Tryz.prog 50 #[.agg (n8 5 m a b g n ta tl tc ka kl kc),.int .i64 d] w fun e w'=>e=.returned (.bool ((bareB m a b g n tl kl 0 0 0 g n 0)&&propD n))∧Below w.heap.size w w':=by
 have HB0:Hid (Below w.heap.size w (w.alloc (.cells (n8 5 m a b g n ta tl tc ka kl kc) 25))):=(Below.refl _ w).alloc (Nat.le_refl _) _
 have C:=prop_d 5 m a b g n ta tl tc ka kl kc (w.alloc (.cells (n8 5 m a b g n ta tl tc ka kl kc) 25)) hn
 generalize((bareB m a b g n tl kl 0 0 0 g n 0)&&propD n)=R at*
 go_enter Tryz.func50,Tryz.ntmps50
 go_wp2_with fail
 refine C.mono ?_
 rintro e w1⟨rfl,b1⟩
 clear C
 go_wp2
 go_ret
 exact⟨rfl,HB0.out.trans (b1.mono HB0.out.size)⟩
theorem member_3(m a b:Int)(g:Bool)(n:ByteArray)(ta:Option Addr)(tl tc:Nat)(ka:Option Addr)(kl kc:Nat)(d:Int)(R:Bool)(w:World)(hd:0≤d∧d≤59)(C:Calls Tryz.prog 34 #[.agg (n8 3 m a b g n ta tl tc ka kl kc),.int .i64 (d+1)] (w.alloc (.cells (n8 3 m a b g n ta tl tc ka kl kc) 25)) fun e w'=>e=.returned (.bool R)∧Below (w.alloc (.cells (n8 3 m a b g n ta tl tc ka kl kc) 25)).heap.size (w.alloc (.cells (n8 3 m a b g n ta tl tc ka kl kc) 25)) w'):Calls Tryz.prog 50 #[.agg (n8 3 m a b g n ta tl tc ka kl kc),.int .i64 d] w fun e w'=>e=.returned (.bool R)∧Below w.heap.size w w':=by
 have HB0:Hid (Below w.heap.size w (w.alloc (.cells (n8 3 m a b g n ta tl tc ka kl kc) 25))):=(Below.refl _ w).alloc (Nat.le_refl _) _
 have wd:IntKind.i64.wrap (d+1)=d+1:=by rw[IntKind.wrap_i64];omega
 go_enter Tryz.func50,Tryz.ntmps50
 go_wp2_with fail
 refine C.mono ?_
 rintro e w1⟨rfl,b1⟩
 clear C
 go_wp2
 go_ret
 exact⟨rfl,HB0.out.trans (b1.mono HB0.out.size)⟩
theorem member_0(k m a b:Int)(g:Bool)(n:ByteArray)(ta:Option Addr)(tl tc:Nat)(ka:Option Addr)(kl kc:Nat)(d:Int)(w:World)(h1:¬k=1)(h4:¬k=4)(h5:¬k=5)(h3:¬k=3):Calls Tryz.prog 50 #[.agg (n8 k m a b g n ta tl tc ka kl kc),.int .i64 d] w fun e w'=>e=.returned (.bool false)∧Below w.heap.size w w':=by
 have f1:(k==1)=false:=by rw[beq_eq_false_iff_ne];exact h1
 have f4:(k==4)=false:=by rw[beq_eq_false_iff_ne];exact h4
 have f5:(k==5)=false:=by rw[beq_eq_false_iff_ne];exact h5
 have f3:(k==3)=false:=by rw[beq_eq_false_iff_ne];exact h3
 have HB0:Hid (Below w.heap.size w (w.alloc (.cells (n8 k m a b g n ta tl tc ka kl kc) 25))):=(Below.refl _ w).alloc (Nat.le_refl _) _
 go_enter Tryz.func50,Tryz.ntmps50
 go_wp2
 go_ret
 exact⟨rfl,HB0.out⟩
theorem member_d(M:Nat)(HC:ClsC M)(t:Nd)(v:Value)(B:Nat)(w:World)(d:Int)(hz:t.sz≤M)(hs:shortN t)(hv:NV B w t v)(hB:B≤w.heap.size)(h0:0≤d)(h1:d≤59):Calls Tryz.prog 50 #[v,.int .i64 d] w fun e w'=>e=.returned (.bool (memD (insD M) t d))∧Below w.heap.size w w':=by
 obtain⟨k,m,a,b,g,n,s,ks,ta,tc,ka,kc,rfl,rfl,_⟩:=hv.open
 by_cases c1:k=1
 ·subst c1;rw[mem_1];exact member_1 m a b g n ta s.length tc ka ks.length kc d w
 by_cases c4:k=4
 ·subst c4;rw[mem_4];exact member_4 m a b g n ta s.length tc ka ks.length kc d w
 by_cases c5:k=5
 ·subst c5;rw[mem_5];rw[shortN]at hs;exact member_5 m a b g n ta s.length tc ka ks.length kc d w hs.1
 by_cases c3:k=3
 ·subst c3;rw[mem_3]
  have BW:Below w.heap.size w (w.alloc (.cells (n8 3 m a b g n ta s.length tc ka ks.length kc) 25)):=(Below.refl _ w).alloc (Nat.le_refl _) _
  exact member_3 m a b g n ta s.length tc ka ks.length kc d _ w ⟨h0,h1⟩ (HC _ _ B _ (d+1) hz hs (hv.on BW hB) (by simp;omega) (by omega) (by omega))
 ·rw[mem_0 _ k m a b g n s ks d c1 c4 c5 c3];exact member_0 k m a b g n ta s.length tc ka ks.length kc d w c1 c4 c5 c3
theorem cls_no{M:Nat}{t:Nd}{d:Int}(h:¬(t.kind=3∧d≤50∧othersZ t=true)):clsB M t d=false:=by
 unfold clsB
 by_cases h1:t.kind=3
 ·by_cases h2:d≤50
  ·cases h3:othersZ t with
   |false=>simp
   |true=>exact absurd ⟨h1,h2,h3⟩ h
  ·simp[h2]
 ·simp[h1]
theorem cls_yes{M:Nat}{t:Nd}{d:Int}(h1:t.kind=3)(h2:d≤50)(h3:othersZ t=true):clsB M t d=insD M t d:=by
 unfold clsB;simp[h1,h2,h3]
theorem class_kind(k m a b:Int)(g:Bool)(n:ByteArray)(ta:Option Addr)(tl tc:Nat)(ka:Option Addr)(kl kc:Nat)(d:Int)(w:World)(h:¬k=3):Calls Tryz.prog 34 #[.agg (n8 k m a b g n ta tl tc ka kl kc),.int .i64 d] w fun e w'=>e=.returned (.bool false)∧Below w.heap.size w w':=by
 have f1:(k==3)=false:=by rw[beq_eq_false_iff_ne];exact h
 have f2:(k !=3)=true:=by simpa using h
 have HB0:Hid (Below w.heap.size w (w.alloc (.cells (n8 k m a b g n ta tl tc ka kl kc) 25))):=(Below.refl _ w).alloc (Nat.le_refl _) _
 go_enter Tryz.func34,Tryz.ntmps34
 go_wp2
 go_ret
 exact⟨rfl,HB0.out⟩
theorem class_deep(m a b:Int)(g:Bool)(n:ByteArray)(ta:Option Addr)(tl tc:Nat)(ka:Option Addr)(kl kc:Nat)(d:Int)(w:World)(h:¬d≤50):Calls Tryz.prog 34 #[.agg (n8 3 m a b g n ta tl tc ka kl kc),.int .i64 d] w fun e w'=>e=.returned (.bool false)∧Below w.heap.size w w':=by
 have h2:50<d:=by omega
 have HB0:Hid (Below w.heap.size w (w.alloc (.cells (n8 3 m a b g n ta tl tc ka kl kc) 25))):=(Below.refl _ w).alloc (Nat.le_refl _) _
 clear h
 go_enter Tryz.func34,Tryz.ntmps34
 go_wp2
 go_ret
 exact⟨rfl,HB0.out⟩
theorem class_bare(m a b:Int)(g:Bool)(n:ByteArray)(ta:Option Addr)(tl tc:Nat)(ka:Option Addr)(kl kc:Nat)(d:Int)(w:World)(hd:d≤50)(h:(bareB m a b g n tl kl m 0 0 g ⟨#[]⟩ kl)=false):Calls Tryz.prog 34 #[.agg (n8 3 m a b g n ta tl tc ka kl kc),.int .i64 d] w fun e w'=>e=.returned (.bool false)∧Below w.heap.size w w':=by
 have C:=bare_any 3 m a b g n ta tl tc ka kl kc 0 m 0 0 g ⟨#[]⟩ none 0 0 ka kl kc (w.alloc (.cells (n8 3 m a b g n ta tl tc ka kl kc) 25))
 rw[h]at C
 have h2:¬50<d:=by omega
 have HB0:Hid (Below w.heap.size w (w.alloc (.cells (n8 3 m a b g n ta tl tc ka kl kc) 25))):=(Below.refl _ w).alloc (Nat.le_refl _) _
 clear h hd
 go_enter Tryz.func34,Tryz.ntmps34
 go_wp2_with fail
 refine C.mono ?_
 rintro e w1⟨rfl,b1⟩
 clear C
 go_wp2
 go_ret
 exact⟨rfl,HB0.out.trans (b1.mono HB0.out.size)⟩
theorem class_bad(m a b:Int)(g:Bool)(n:ByteArray)(ta:Option Addr)(tl tc:Nat)(ka:Option Addr)(kl kc:Nat)(d:Int)(w:World)(hd:d≤50)(h:(bareB m a b g n tl kl m 0 0 g ⟨#[]⟩ kl)=true)(hm0:¬m=0)(hm:¬(1≤m∧m≤3∧kl=2)):Calls Tryz.prog 34 #[.agg (n8 3 m a b g n ta tl tc ka kl kc),.int .i64 d] w fun e w'=>e=.returned (.bool false)∧Below w.heap.size w w':=by
 have C:=bare_any 3 m a b g n ta tl tc ka kl kc 0 m 0 0 g ⟨#[]⟩ none 0 0 ka kl kc (w.alloc (.cells (n8 3 m a b g n ta tl tc ka kl kc) 25))
 rw[h]at C
 have h2:¬50<d:=by omega
 have HB0:Hid (Below w.heap.size w (w.alloc (.cells (n8 3 m a b g n ta tl tc ka kl kc) 25))):=(Below.refl _ w).alloc (Nat.le_refl _) _
 have HBK:Hid (Bk (w.alloc (.cells (n8 3 m a b g n ta tl tc ka kl kc) 25)) w.heap.size (n8 3 m a b g n ta tl tc ka kl kc) 25):=Bk.new w _ _
 have f0:(m==0)=false:=by rw[beq_eq_false_iff_ne];exact hm0
 clear h hd
 go_enter Tryz.func34,Tryz.ntmps34
 go_wp2_with fail
 refine C.mono ?_
 rintro e w1⟨rfl,b1⟩
 have x1:=(HBK.out.on b1).cell 1 (u:=.int .i64 m) rfl
 have x7:=(HBK.out.on b1).cell 7 (u:=.slice ka kl kc) rfl
 have HB1:Hid (Below w.heap.size w w1):=HB0.out.trans (b1.mono HB0.out.size)
 clear C b1 HBK HB0
 by_cases c1:m<1
 ·clear hm
  go_wp2
  go_ret
  exact⟨rfl,HB1.out⟩
 by_cases c3:3<m
 ·clear hm
  go_wp2
  go_ret
  exact⟨rfl,HB1.out⟩
 ·have hk:¬(kl:Int)=2:=by omega
  have hk2:((kl:Int)==2)=false:=by rw[beq_eq_false_iff_ne];exact hk
  have hk3:¬kl=2:=by omega
  have hk4:((kl:Int)!=2)=true:=by simpa using hk
  clear hm
  go_wp2
  go_ret
  exact⟨rfl,HB1.out⟩
theorem class_union(M:Nat)(HC:ClsC M)(a b:Int)(g:Bool)(n:ByteArray)(ta:Option Addr)(tl tc:Nat)(ka:Option Addr)(kl kc:Nat)(ks:List Nd)(B:Nat)(d:Int)(w:World)(h0:0≤d)(hd:d≤50)(h:bareB 0 a b g n tl kl 0 0 0 g ⟨#[]⟩ kl=true)(hkl:ks.length=kl)(hkm:kl≤9223372036854775807)(hkv:KV B w ka ks)(hB:B≤w.heap.size)(hsz:szL ks≤M)(hsh:shortL ks):
  Calls Tryz.prog 34 #[.agg (n8 3 0 a b g n ta tl tc ka kl kc),.int .i64 d] w fun e w'=>e=.returned (.bool (!ks.isEmpty&&ks.all (fun k=>memD (insD M) k d)))∧Below w.heap.size w w':=by
 have C:=bare_any 3 0 a b g n ta tl tc ka kl kc 0 0 0 0 g ⟨#[]⟩ none 0 0 ka kl kc (w.alloc (.cells (n8 3 0 a b g n ta tl tc ka kl kc) 25))
 rw[h]at C
 have h2:¬50<d:=by omega
 have HB0:Hid (Below w.heap.size w (w.alloc (.cells (n8 3 0 a b g n ta tl tc ka kl kc) 25))):=(Below.refl _ w).alloc (Nat.le_refl _) _
 have HBK:Hid (Bk (w.alloc (.cells (n8 3 0 a b g n ta tl tc ka kl kc) 25)) w.heap.size (n8 3 0 a b g n ta tl tc ka kl kc) 25):=Bk.new w _ _
 have HL:Hid (ks.length=kl):=hkl
 have HK:Hid (KV B w ka ks):=hkv
 have HI:Hid (∀(t:Nd)(v:Value)(W:World),t∈ks→NV B W t v→B≤W.heap.size→Calls Tryz.prog 50 #[v,.int .i64 d] W fun e w'=>e=.returned (.bool (memD (insD M) t d))∧Below W.heap.size W w'):=fun t v W hm hv hs=>member_d M HC t v B W d (by have:=szL_mem hm;omega) (short_mem hsh hm) hv hs h0 (by omega)
 obtain⟨RR,hRR⟩:∃x,(!ks.isEmpty&&ks.all (fun k=>memD (insD M) k d))=x:=⟨_,rfl⟩
 rw[hRR]
 have HRR:Hid ((!ks.isEmpty&&ks.all (fun k=>memD (insD M) k d))=RR):=hRR
 clear h hd hkv hkl hsz hsh hRR
 go_enter Tryz.func34,Tryz.ntmps34
 go_wp2_with fail
 refine C.mono ?_
 rintro e w1⟨rfl,b1⟩
 have x1:=(HBK.out.on b1).cell 1 (u:=.int .i64 0) rfl
 have x7:=(HBK.out.on b1).cell 7 (u:=.slice ka kl kc) rfl
 have HB1:Hid (Below w.heap.size w w1):=HB0.out.trans (b1.mono HB0.out.size)
 have HBK1:Hid (Bk w1 w.heap.size (n8 3 0 a b g n ta tl tc ka kl kc) 25):=HBK.out.on b1
 clear C b1 HBK HB0
 go_wp2
 go_loopw[34](fun i wr=>∃j:Nat,j≤kl∧i=.int .i64 j∧Hid ((ks.take j).all (fun k=>memD (insD M) k d)=true)∧Hid (Bk wr w.heap.size (n8 3 0 a b g n ta tl tc ka kl kc) 25)∧Hid (Below w.heap.size w wr))(fun i _=>kl-(RowKit.intOf i).toNat)
 case atStart=>exact⟨0,Nat.zero_le _,rfl,rfl,HBK1,HB1⟩
 case round=>
  clear HBK1 HB1 x1 x7
  obtain⟨j,hj,rfl,HA,HBK,HW⟩:=hrel
  by_cases hlt:j<kl
  ·have hlt':(j:Int)<(kl:Int):=by omega
   obtain⟨t,ht⟩:=getX HL.out hlt
   obtain⟨bb,off,rfl,hka⟩:=(HK.out.below (below_less HW.out hB)).some (by have:=HL.out;omega)
   obtain⟨k',m',a',b',g',n',s',kk,sa',sc',ao',cap',rfl,⟨e0,e1,e2,e3,e4,e5,e6,e7⟩,hv'⟩:=hka.kid ht
   have hmem:=List.mem_of_getElem? ht
   have hBr:B≤wr.heap.size:=Nat.le_trans hB HW.out.size
   have HT:Hid (∀x,memD (insD M) (.mk k' m' a' b' g' n' s' kk) d=x→(ks.take (j+1)).all (fun k=>memD (insD M) k d)=x):=fun x hx=>by
    rw[takeX ht,List.all_append,HA.out];simp[hx]
   have HF:Hid (memD (insD M) (.mk k' m' a' b' g' n' s' kk) d=false→RR=false):=fun hx=>by
    rw[←HRR.out]
    have:ks.all (fun k=>memD (insD M) k d)=false:=by rw[List.all_eq_false];exact⟨_,hmem,by rw[hx];decide⟩
    rw[this,Bool.and_false]
   generalize s'.length=sl' at*
   generalize kk.length=nk' at*
   have W1:Below wr.heap.size wr (wr.alloc (.cells (n8 k' m' a' b' g' n' sa' sl' sc' ao' nk' cap') 25)):=(Below.refl _ wr).alloc (Nat.le_refl _) _
   have C:=HI.out _ _ (wr.alloc (.cells (n8 k' m' a' b' g' n' sa' sl' sc' ao' nk' cap') 25)) hmem (hv'.on W1 hBr) (by simp;omega)
   have HC1:Hid (Below w.heap.size w (wr.alloc (.cells (n8 k' m' a' b' g' n' sa' sl' sc' ao' nk' cap') 25))):=HW.out.trans (W1.mono HW.out.size)
   have HBK2:Hid (Bk (wr.alloc (.cells (n8 k' m' a' b' g' n' sa' sl' sc' ao' nk' cap') 25)) w.heap.size _ _):=HBK.out.on W1
   clear HK HW hka hv' ht hmem W1 HI HBK HA
   generalize memD (insD M) (.mk k' m' a' b' g' n' s' kk) d=r at*
   cases r with
   |false=>
    have hx:Hid (RR=false):=HF.out rfl
    clear HF HT HRR
    go_wp2_with(go_at_call 50;refine C.mono ?_;rintro e w2⟨rfl,d3⟩;have D3:Hid (Below _ _ w2):=d3;clear d3)
    go_ret
    exact⟨rt_bool hx.out.symm,HC1.out.trans (D3.out.mono HC1.out.size)⟩
   |true=>
    have HX:Hid ((ks.take (j+1)).all (fun k=>memD (insD M) k d)=true):=HT.out true rfl
    clear HF HT
    go_wp2_with(go_at_call 50;refine C.mono ?_;rintro e w2⟨rfl,d3⟩;have D3:Hid (Below _ _ w2):=d3;clear d3)
    go_roundw
    case rel=>exact⟨j+1,by omega,by go_num,HX,HBK2.out.on D3.out,HC1.out.trans (D3.out.mono HC1.out.size)⟩
    case measure=>simp[RowKit.intOf];omega
  ·have hA:ks.all (fun k=>memD (insD M) k d)=true:=by have:=HA.out;rw[List.take_of_length_le (by have:=HL.out;omega)]at this;exact this
   have hlt':¬(j:Int)<(kl:Int):=by omega
   have x7:=HBK.out.cell 7 (u:=.slice ka kl kc) rfl
   have HR2:Hid (RR=decide (0<kl)):=by
    show _=_
    rw[←HRR.out,hA,←HL.out]
    cases ks<;>simp
   clear HI HK HA hA HRR HBK
   go_wp2
   go_ret
   exact⟨rt_bool (by first|(rw[HR2.out,Bool.eq_iff_iff];done)|(rw[HR2.out,Bool.eq_iff_iff];simp)),HW.out⟩
end Go.Proofs.YtbbeciofgnkggaaGreatDoor.tre
