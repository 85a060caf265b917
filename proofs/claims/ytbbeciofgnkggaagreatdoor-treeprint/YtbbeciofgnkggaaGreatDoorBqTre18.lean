import Derived.Test.YtbbeciofgnkggaaGreatDoorBqTre17
import Derived.Test.YtbbeciofgnkggaaGreatDoorBqNod1
import Derived.Test.YtbbeciofgnkggaaGreatDoorBqLin4
set_option linter.unusedSimpArgs false
set_option linter.unusedVariables false
set_option maxRecDepth 100000
set_option maxHeartbeats 8000000
namespace Go.Proofs.YtbbeciofgnkggaaGreatDoor.tre
open Go.RowKit nod tok
open rng(R RV ret_int ret_bool info_parts own_below')
theorem pt_11(m a b:Int)(g:Bool)(n:ByteArray)(ta:Option Addr)(tl tc kb ko kc:Nat)(c0 c1 c2 c3 c4 c5 c6 c7:Value)(w:World)(TK:List UInt8)(hkc:1≤kc)(hA:At8 w kb ko (.agg #[c0,c1,c2,c3,c4,c5,c6,c7]))(hkb:kb<w.heap.size)(hlen:TK.length≤8888888888888888888)
  (HC:Hid (∀W,Below w.heap.size w W→Calls Tryz.prog 14 #[.agg #[c0,c1,c2,c3,c4,c5,c6,c7]] W fun e w'=>e=.returned (.string (S8 TK))∧Below W.heap.size W w')):
  Calls Tryz.prog 14 #[.agg (n8 11 m a b g n ta tl tc (some ⟨kb,ko,none⟩) 1 kc)] w fun e w'=>e=.returned (.string ((⟨#[40,63,62]⟩++S8 TK)++⟨#[41]⟩))∧Below w.heap.size w w':=by
 obtain⟨W0,hW0,HW0,b0,HX0⟩:=st0 w (n8 11 m a b g n ta tl tc (some ⟨kb,ko,none⟩) 1 kc) 25
 have HB0:Hid (Below w.heap.size w W0):=b0
 have HC0:Hid (∀W,Below W0.heap.size W0 W→Calls Tryz.prog 14 #[.agg #[c0,c1,c2,c3,c4,c5,c6,c7]] W fun e w'=>e=.returned (.string (S8 TK))∧Below W.heap.size W w'):=fun W h=>HC.out W (b0.trans (below_less h b0.size))
 have HSd:Hid (∀w',Below W0.heap.size W0 w'→(w'.cell? ⟨w.heap.size,7,none⟩=some (.slice (some ⟨kb,ko,none⟩) 1 kc))∧(w'.cell? ⟨kb,ko,none⟩=some c0∧w'.cell? ⟨kb,ko+1,none⟩=some c1∧w'.cell? ⟨kb,ko+2,none⟩=some c2∧w'.cell? ⟨kb,ko+3,none⟩=some c3∧w'.cell? ⟨kb,ko+4,none⟩=some c4∧w'.cell? ⟨kb,ko+5,none⟩=some c5∧w'.cell? ⟨kb,ko+6,none⟩=some c6∧w'.cell? ⟨kb,ko+7,none⟩=some c7)):=fun w' d=>⟨(HX0.out.on d).cell 7 rfl,at8_cells (hA.below (b0.trans (below_less d b0.size)) hkb)⟩
 have u1:¬9223372036854775807<3+(S8 TK).size:=by rw[s8_sz];omega
 have u2:¬9223372036854775807<3+(S8 TK).size+1:=by rw[s8_sz];omega
 clear hW0 b0 hA hkb HC hlen
 replace HC:=HC0
 clear HC0
 go_enter Tryz.func14,Tryz.ntmps14
 go_upto_region 2 with fail
 rw[HW0.out]
 clear HW0
 obtain⟨x0,x1,x2,x3,x4,x5,x6,x7⟩:=at8c HX0.out
 obtain⟨y7,e0,e1,e2,e3,e4,e5,e6,e7⟩:=HSd.out _ (Below.refl _ _)
 have CC:=HC.out _ (Below.refl _ _)
 go_wp2_with fail
 refine CC.mono ?_
 rintro e w1⟨rfl,b1⟩
 have HB1:Hid (Below w.heap.size w w1):=HB0.out.trans (below_less b1 HB0.out.size)
 clear CC HC b1 HX0 HSd HB0 x0 x1 x2 x3 x4 x5 x6 x7 y7 e0 e1 e2 e3 e4 e5 e6 e7
 go_wp2
 go_ret
 exact⟨rfl,HB1.out⟩
theorem pt_9a(m a b:Int)(g:Bool)(n:ByteArray)(ta:Option Addr)(tl tc kb ko kc:Nat)(c0 c1 c2 c3 c4 c5 c6 c7:Value)(w:World)(TK:List UInt8)(hkc:1≤kc)(hA:At8 w kb ko (.agg #[c0,c1,c2,c3,c4,c5,c6,c7]))(hkb:kb<w.heap.size)(hlen:TK.length≤8888888888888888888)
  (HC:Hid (∀W,Below w.heap.size w W→Calls Tryz.prog 14 #[.agg #[c0,c1,c2,c3,c4,c5,c6,c7]] W fun e w'=>e=.returned (.string (S8 TK))∧Below W.heap.size W w')):
  Calls Tryz.prog 14 #[.agg (n8 9 m 0 b g n ta tl tc (some ⟨kb,ko,none⟩) 1 kc)] w fun e w'=>e=.returned (.string ((⟨#[40,63,58]⟩++S8 TK)++⟨#[41]⟩))∧Below w.heap.size w w':=by
 obtain⟨W0,hW0,HW0,b0,HX0⟩:=st0 w (n8 9 m 0 b g n ta tl tc (some ⟨kb,ko,none⟩) 1 kc) 25
 have HB0:Hid (Below w.heap.size w W0):=b0
 have HC0:Hid (∀W,Below W0.heap.size W0 W→Calls Tryz.prog 14 #[.agg #[c0,c1,c2,c3,c4,c5,c6,c7]] W fun e w'=>e=.returned (.string (S8 TK))∧Below W.heap.size W w'):=fun W h=>HC.out W (b0.trans (below_less h b0.size))
 have HSd:Hid (∀w',Below W0.heap.size W0 w'→(w'.cell? ⟨w.heap.size,7,none⟩=some (.slice (some ⟨kb,ko,none⟩) 1 kc))∧(w'.cell? ⟨kb,ko,none⟩=some c0∧w'.cell? ⟨kb,ko+1,none⟩=some c1∧w'.cell? ⟨kb,ko+2,none⟩=some c2∧w'.cell? ⟨kb,ko+3,none⟩=some c3∧w'.cell? ⟨kb,ko+4,none⟩=some c4∧w'.cell? ⟨kb,ko+5,none⟩=some c5∧w'.cell? ⟨kb,ko+6,none⟩=some c6∧w'.cell? ⟨kb,ko+7,none⟩=some c7)):=fun w' d=>⟨(HX0.out.on d).cell 7 rfl,at8_cells (hA.below (b0.trans (below_less d b0.size)) hkb)⟩
 have u1:¬9223372036854775807<3+(S8 TK).size:=by rw[s8_sz];omega
 have u2:¬9223372036854775807<3+(S8 TK).size+1:=by rw[s8_sz];omega
 clear hW0 b0 hA hkb HC hlen
 replace HC:=HC0
 clear HC0
 go_enter Tryz.func14,Tryz.ntmps14
 go_upto_region 2 with fail
 rw[HW0.out]
 clear HW0
 obtain⟨x0,x1,x2,x3,x4,x5,x6,x7⟩:=at8c HX0.out
 obtain⟨y7,e0,e1,e2,e3,e4,e5,e6,e7⟩:=HSd.out _ (Below.refl _ _)
 have CC:=HC.out _ (Below.refl _ _)
 go_wp2_with fail
 refine CC.mono ?_
 rintro e w1⟨rfl,b1⟩
 have HB1:Hid (Below w.heap.size w w1):=HB0.out.trans (below_less b1 HB0.out.size)
 clear CC HC b1 HX0 HSd HB0 x0 x1 x2 x3 x4 x5 x6 x7 y7 e0 e1 e2 e3 e4 e5 e6 e7
 go_wp2
 go_ret
 exact⟨rfl,HB1.out⟩
theorem pt_9b(m a b:Int)(g:Bool)(n:ByteArray)(ta:Option Addr)(tl tc kb ko kc:Nat)(c0 c1 c2 c3 c4 c5 c6 c7:Value)(w:World)(TK:List UInt8)(hkc:1≤kc)(ha:¬a=0)(hA:At8 w kb ko (.agg #[c0,c1,c2,c3,c4,c5,c6,c7]))(hkb:kb<w.heap.size)(hlen:TK.length≤8888888888888888888)
  (HC:Hid (∀W,Below w.heap.size w W→Calls Tryz.prog 14 #[.agg #[c0,c1,c2,c3,c4,c5,c6,c7]] W fun e w'=>e=.returned (.string (S8 TK))∧Below W.heap.size W w')):
  Calls Tryz.prog 14 #[.agg (n8 9 m a b g ⟨#[]⟩ ta tl tc (some ⟨kb,ko,none⟩) 1 kc)] w fun e w'=>e=.returned (.string ((⟨#[40]⟩++S8 TK)++⟨#[41]⟩))∧Below w.heap.size w w':=by
 obtain⟨W0,hW0,HW0,b0,HX0⟩:=st0 w (n8 9 m a b g ⟨#[]⟩ ta tl tc (some ⟨kb,ko,none⟩) 1 kc) 25
 have HB0:Hid (Below w.heap.size w W0):=b0
 have HC0:Hid (∀W,Below W0.heap.size W0 W→Calls Tryz.prog 14 #[.agg #[c0,c1,c2,c3,c4,c5,c6,c7]] W fun e w'=>e=.returned (.string (S8 TK))∧Below W.heap.size W w'):=fun W h=>HC.out W (b0.trans (below_less h b0.size))
 have HSd:Hid (∀w',Below W0.heap.size W0 w'→(w'.cell? ⟨w.heap.size,7,none⟩=some (.slice (some ⟨kb,ko,none⟩) 1 kc))∧(w'.cell? ⟨kb,ko,none⟩=some c0∧w'.cell? ⟨kb,ko+1,none⟩=some c1∧w'.cell? ⟨kb,ko+2,none⟩=some c2∧w'.cell? ⟨kb,ko+3,none⟩=some c3∧w'.cell? ⟨kb,ko+4,none⟩=some c4∧w'.cell? ⟨kb,ko+5,none⟩=some c5∧w'.cell? ⟨kb,ko+6,none⟩=some c6∧w'.cell? ⟨kb,ko+7,none⟩=some c7)):=fun w' d=>⟨(HX0.out.on d).cell 7 rfl,at8_cells (hA.below (b0.trans (below_less d b0.size)) hkb)⟩
 have z1:(a==0)=false:=by simp[ha]
 have u1:¬9223372036854775807<1+(S8 TK).size:=by rw[s8_sz];omega
 have u2:¬9223372036854775807<1+(S8 TK).size+1:=by rw[s8_sz];omega
 clear hW0 b0 hA hkb HC hlen
 replace HC:=HC0
 clear HC0
 go_enter Tryz.func14,Tryz.ntmps14
 go_upto_region 2 with fail
 rw[HW0.out]
 clear HW0
 obtain⟨x0,x1,x2,x3,x4,x5,x6,x7⟩:=at8c HX0.out
 obtain⟨y7,e0,e1,e2,e3,e4,e5,e6,e7⟩:=HSd.out _ (Below.refl _ _)
 have CC:=HC.out _ (Below.refl _ _)
 go_wp2_with fail
 refine CC.mono ?_
 rintro e w1⟨rfl,b1⟩
 have HB1:Hid (Below w.heap.size w w1):=HB0.out.trans (below_less b1 HB0.out.size)
 clear CC HC b1 HX0 HSd HB0 x0 x1 x2 x3 x4 x5 x6 x7 y7 e0 e1 e2 e3 e4 e5 e6 e7
 go_wp2
 go_ret
 exact⟨rfl,HB1.out⟩
theorem pt_9c(m a b:Int)(g:Bool)(n:ByteArray)(ta:Option Addr)(tl tc kb ko kc:Nat)(c0 c1 c2 c3 c4 c5 c6 c7:Value)(w:World)(TK:List UInt8)(hkc:1≤kc)(ha:¬a=0)(hn:¬n.size=0)(hs:n.size≤140737488355327)(hA:At8 w kb ko (.agg #[c0,c1,c2,c3,c4,c5,c6,c7]))(hkb:kb<w.heap.size)(hlen:TK.length≤8888888888888888888)
  (HC:Hid (∀W,Below w.heap.size w W→Calls Tryz.prog 14 #[.agg #[c0,c1,c2,c3,c4,c5,c6,c7]] W fun e w'=>e=.returned (.string (S8 TK))∧Below W.heap.size W w')):
  Calls Tryz.prog 14 #[.agg (n8 9 m a b g n ta tl tc (some ⟨kb,ko,none⟩) 1 kc)] w fun e w'=>e=.returned (.string ((openN n++S8 TK)++⟨#[41]⟩))∧Below w.heap.size w w':=by
 obtain⟨W0,hW0,HW0,b0,HX0⟩:=st0 w (n8 9 m a b g n ta tl tc (some ⟨kb,ko,none⟩) 1 kc) 25
 have HB0:Hid (Below w.heap.size w W0):=b0
 have HC0:Hid (∀W,Below W0.heap.size W0 W→Calls Tryz.prog 14 #[.agg #[c0,c1,c2,c3,c4,c5,c6,c7]] W fun e w'=>e=.returned (.string (S8 TK))∧Below W.heap.size W w'):=fun W h=>HC.out W (b0.trans (below_less h b0.size))
 have HSd:Hid (∀w',Below W0.heap.size W0 w'→(w'.cell? ⟨w.heap.size,7,none⟩=some (.slice (some ⟨kb,ko,none⟩) 1 kc)∧w'.cell? ⟨w.heap.size,5,none⟩=some (.string n))∧(w'.cell? ⟨kb,ko,none⟩=some c0∧w'.cell? ⟨kb,ko+1,none⟩=some c1∧w'.cell? ⟨kb,ko+2,none⟩=some c2∧w'.cell? ⟨kb,ko+3,none⟩=some c3∧w'.cell? ⟨kb,ko+4,none⟩=some c4∧w'.cell? ⟨kb,ko+5,none⟩=some c5∧w'.cell? ⟨kb,ko+6,none⟩=some c6∧w'.cell? ⟨kb,ko+7,none⟩=some c7)):=fun w' d=>⟨⟨(HX0.out.on d).cell 7 rfl,(HX0.out.on d).cell 5 rfl⟩,at8_cells (hA.below (b0.trans (below_less d b0.size)) hkb)⟩
 have z1:(a==0)=false:=by simp[ha]
 have q1:(n.toList==[])=false:=nil_ne hn
 have q2:¬n.toList=[]:=by simpa using q1
 have r1:¬9223372036854775807<3+n.size:=by omega
 have r2:¬9223372036854775807<3+n.size+1:=by omega
 have r3:¬9223372036854775807<3+n.size+1+(S8 TK).size:=by rw[s8_sz];omega
 have r4:¬9223372036854775807<3+n.size+1+(S8 TK).size+1:=by rw[s8_sz];omega
 clear hn hs
 clear hW0 b0 hA hkb HC hlen
 replace HC:=HC0
 clear HC0
 go_enter Tryz.func14,Tryz.ntmps14
 go_upto_region 2 with fail
 rw[HW0.out]
 clear HW0
 obtain⟨x0,x1,x2,x3,x4,x5,x6,x7⟩:=at8c HX0.out
 go_upto_region 33 with fail
 refine wp_region_noPanic (lin.wp_region_k 11 (fun w'=>(w'.cell? ⟨w.heap.size,7,none⟩=some (.slice (some ⟨kb,ko,none⟩) 1 kc)∧w'.cell? ⟨w.heap.size,5,none⟩=some (.string n))∧(w'.cell? ⟨kb,ko,none⟩=some c0∧w'.cell? ⟨kb,ko+1,none⟩=some c1∧w'.cell? ⟨kb,ko+2,none⟩=some c2∧w'.cell? ⟨kb,ko+3,none⟩=some c3∧w'.cell? ⟨kb,ko+4,none⟩=some c4∧w'.cell? ⟨kb,ko+5,none⟩=some c5∧w'.cell? ⟨kb,ko+6,none⟩=some c6∧w'.cell? ⟨kb,ko+7,none⟩=some c7)) (by kernel_rfl) (HSd.out _ (Below.refl _ _).drew) fun hHeld=>?_)
 obtain⟨Wd,hWd⟩:∃Wd,W0.drew=Wd:=⟨_,rfl⟩
 have HBW:Hid (Below W0.heap.size W0 Wd):=by unfold Hid;rw[←hWd];exact(Below.refl _ _).drew
 rw[hWd]at hHeld⊢
 clear hWd x0 x1 x2 x3 x4 x5 x6 x7 q1 q2
 refine lin.tK 0 (v:=?_) ?_
 try simp only[Act.put,lin.sm]
 refine lin.tK 1 (v:=?_) ?_
 try simp only[Act.put,lin.sm]
 refine lin.tK 2 (v:=?_) ?_
 try simp only[Act.put,lin.sm]
 refine lin.tK 3 (v:=?_) ?_
 try simp only[Act.put,lin.sm]
 refine lin.tK 4 (v:=?_) ?_
 try simp only[Act.put,lin.sm]
 refine lin.tK 5 (v:=?_) ?_
 try simp only[Act.put,lin.sm]
 refine lin.tK 6 (v:=?_) ?_
 try simp only[Act.put,lin.sm]
 refine lin.tK 7 (v:=?_) ?_
 try simp only[Act.put,lin.sm]
 have CC:=HC.out _ HBW.out
 refine lin.wpAnyK_one (j:=8) (by kernel_rfl) (by decide) rfl (fun K hK=>?_)
 go_simp
 refine CC.mono ?_
 rintro e w1⟨rfl,b1⟩
 have HB01:Hid (Below W0.heap.size W0 w1):=HBW.out.trans (below_less b1 HBW.out.size)
 have HB1:Hid (Below w.heap.size w w1):=HB0.out.trans (below_less HB01.out HB0.out.size)
 refine hK.out _ _ (HSd.out _ HB01.out) (fun hHeld=>?_)
 clear hK K CC b1 HC HB0 HB01 HBW HX0
 try simp only[Act.put,lin.sm]
 refine lin.tK 9 (v:=?_) ?_
 try simp only[Act.put,lin.sm]
 refine lin.tK 10 (v:=?_) ?_
 try simp only[Act.put,lin.sm]
 refine lin.wpAnyK_last (by kernel_rfl) rfl (fun K hK=>?_)
 go_simp
 refine hK.out _ _ ?_
 clear hK K hHeld
 try simp only[Act.put,lin.sm]
 refine⟨by kernel_rfl,?_⟩
 refine NoPanic.normal ?_
 go_wp2
 go_ret
 exact⟨rfl,HB1.out⟩
theorem pt_10(a b:Int)(mn:Nat)(g:Bool)(n:ByteArray)(ta:Option Addr)(tl tc kb ko kc:Nat)(c0 c1 c2 c3 c4 c5 c6 c7:Value)(w:World)(TK:List UInt8)(hkc:1≤kc)(OP:ByteArray)(hm:mn≤3)(hOP:(#[.string ⟨#[40,63,61]⟩,.string ⟨#[40,63,33]⟩,.string ⟨#[40,63,60,61]⟩,.string ⟨#[40,63,60,33]⟩]:Array Value)[mn]?=some (.string OP))(hos:OP.size≤4)(hA:At8 w kb ko (.agg #[c0,c1,c2,c3,c4,c5,c6,c7]))(hkb:kb<w.heap.size)(hlen:TK.length≤8888888888888888888)
  (HC:Hid (∀W,Below w.heap.size w W→Calls Tryz.prog 14 #[.agg #[c0,c1,c2,c3,c4,c5,c6,c7]] W fun e w'=>e=.returned (.string (S8 TK))∧Below W.heap.size W w')):
  Calls Tryz.prog 14 #[.agg (n8 10 (mn:Int) a b g n ta tl tc (some ⟨kb,ko,none⟩) 1 kc)] w fun e w'=>e=.returned (.string ((OP++S8 TK)++⟨#[41]⟩))∧Below w.heap.size w w':=by
 obtain⟨W0,hW0,HW0,b0,HX0⟩:=st0 w (n8 10 (mn:Int) a b g n ta tl tc (some ⟨kb,ko,none⟩) 1 kc) 25
 have HB0:Hid (Below w.heap.size w W0):=b0
 have HC0:Hid (∀W,Below W0.heap.size W0 W→Calls Tryz.prog 14 #[.agg #[c0,c1,c2,c3,c4,c5,c6,c7]] W fun e w'=>e=.returned (.string (S8 TK))∧Below W.heap.size W w'):=fun W h=>HC.out W (b0.trans (below_less h b0.size))
 have HSd:Hid (∀w',Below W0.heap.size W0 w'→(w'.cell? ⟨w.heap.size,7,none⟩=some (.slice (some ⟨kb,ko,none⟩) 1 kc)∧w'.cell? ⟨w.heap.size,1,none⟩=some (.int .i64 (mn:Int)))∧(w'.cell? ⟨kb,ko,none⟩=some c0∧w'.cell? ⟨kb,ko+1,none⟩=some c1∧w'.cell? ⟨kb,ko+2,none⟩=some c2∧w'.cell? ⟨kb,ko+3,none⟩=some c3∧w'.cell? ⟨kb,ko+4,none⟩=some c4∧w'.cell? ⟨kb,ko+5,none⟩=some c5∧w'.cell? ⟨kb,ko+6,none⟩=some c6∧w'.cell? ⟨kb,ko+7,none⟩=some c7)):=fun w' d=>⟨⟨(HX0.out.on d).cell 7 rfl,(HX0.out.on d).cell 1 rfl⟩,at8_cells (hA.below (b0.trans (below_less d b0.size)) hkb)⟩
 have HOP:Hid ((#[.string ⟨#[40,63,61]⟩,.string ⟨#[40,63,33]⟩,.string ⟨#[40,63,60,61]⟩,.string ⟨#[40,63,60,33]⟩]:Array Value)[mn]?=some (.string OP)):=hOP
 have u1:¬9223372036854775807<OP.size+(S8 TK).size:=by rw[s8_sz];omega
 have u2:¬9223372036854775807<OP.size+(S8 TK).size+1:=by rw[s8_sz];omega
 have hm4:(mn:Int)<4:=by omega
 clear hOP hos
 clear hW0 b0 hA hkb HC hlen
 replace HC:=HC0
 clear HC0
 go_enter Tryz.func14,Tryz.ntmps14
 go_upto_region 2 with fail
 rw[HW0.out]
 clear HW0
 obtain⟨x0,x1,x2,x3,x4,x5,x6,x7⟩:=at8c HX0.out
 go_upto_region 36 with fail
 refine wp_region_noPanic (wp_region_held_drew (S:=fun w'=>(w'.cell? ⟨w.heap.size,7,none⟩=some (.slice (some ⟨kb,ko,none⟩) 1 kc)∧w'.cell? ⟨w.heap.size,1,none⟩=some (.int .i64 (mn:Int)))∧(w'.cell? ⟨kb,ko,none⟩=some c0∧w'.cell? ⟨kb,ko+1,none⟩=some c1∧w'.cell? ⟨kb,ko+2,none⟩=some c2∧w'.cell? ⟨kb,ko+3,none⟩=some c3∧w'.cell? ⟨kb,ko+4,none⟩=some c4∧w'.cell? ⟨kb,ko+5,none⟩=some c5∧w'.cell? ⟨kb,ko+6,none⟩=some c6∧w'.cell? ⟨kb,ko+7,none⟩=some c7)) (by kernel_rfl) (HSd.out _ (Below.refl _ _).drew) fun hHeld=>?_)
 obtain⟨Wc,hWc⟩:∃Wc,W0.drew=Wc:=⟨_,rfl⟩
 have HBW:Hid (Below W0.heap.size W0 Wc):=by unfold Hid;rw[←hWc];exact(Below.refl _ _).drew
 rw[hWc]at hHeld⊢
 clear hWc x0 x1 x2 x3 x4 x5 x6 x7
 (refine lin.tH 1 (v:=?_) ?_;(try simp only[Act.put,lin.sm]))
 (refine lin.tH 2 (v:=?_) ?_;(try simp only[Act.put,lin.sm]))
 (refine lin.tH 5 (v:=?_) ?_;(try simp only[Act.put,lin.sm]))
 (refine lin.tH 6 (v:=?_) ?_;(try simp only[Act.put,lin.sm]))
 (refine lin.tH 7 (v:=?_) ?_;(try simp only[Act.put,lin.sm]))
 (refine lin.tH 8 (v:=?_) ?_;(try simp only[Act.put,lin.sm]))
 refine wpAnyH_ready (rs:=[0,9]) (by kernel_rfl) (by simp) ?_;refine(AllReadyH.cons rfl (fun K hK0=>?_) (AllReadyH.cons rfl (fun K hK9=>?_) AllReadyH.nil))
 all_goals
  first
   |(have q:=hK9;clear q;have CC:=HC.out Wc HBW.out;go_simp;refine CC.mono ?_;rintro e Wn⟨rfl,d⟩;clear CC;(try(replace H5:Hid (Bk Wn p5 #[.string ⟨#[40,63,61]⟩,.string ⟨#[40,63,33]⟩,.string ⟨#[40,63,60,61]⟩,.string ⟨#[40,63,60,33]⟩] 9):=H5.out.on d));replace HBW:Hid (Below W0.heap.size W0 Wn):=HBW.out.trans (below_less d HBW.out.size);have H4:Hid (True):=trivial;refine hK9.out _ _ (HSd.out _ HBW.out) (fun hHeld=>?_);clear hK9 K d;rename World=>Wc;(try simp only[Act.put,lin.sm]))
   |(have q:=hK0;clear q;go_simp;obtain⟨Wn,hWn⟩:∃Wn,Wc.alloc (.cells #[.string ⟨#[40,63,61]⟩,.string ⟨#[40,63,33]⟩,.string ⟨#[40,63,60,61]⟩,.string ⟨#[40,63,60,33]⟩] 9)=Wn:=⟨_,rfl⟩;have d:Below Wc.heap.size Wc Wn:=(by rw[←hWn];exact(Below.refl _ _).alloc (Nat.le_refl _) _);have k:Bk Wn Wc.heap.size #[.string ⟨#[40,63,61]⟩,.string ⟨#[40,63,33]⟩,.string ⟨#[40,63,60,61]⟩,.string ⟨#[40,63,60,33]⟩] 9:=(by rw[←hWn];exact Bk.new _ _ _);rw[hWn];clear hWn;obtain⟨p5,hp5⟩:∃p,Wc.heap.size=p:=⟨_,rfl⟩;rw[hp5]at k⊢;clear hp5;(try(replace H5:Hid (Bk Wn p5 #[.string ⟨#[40,63,61]⟩,.string ⟨#[40,63,33]⟩,.string ⟨#[40,63,60,61]⟩,.string ⟨#[40,63,60,33]⟩] 9):=H5.out.on d));replace HBW:Hid (Below W0.heap.size W0 Wn):=HBW.out.trans (below_less d HBW.out.size);have H5:Hid (Bk Wn p5 #[.string ⟨#[40,63,61]⟩,.string ⟨#[40,63,33]⟩,.string ⟨#[40,63,60,61]⟩,.string ⟨#[40,63,60,33]⟩] 9):=k;clear k;refine hK0.out _ _ (HSd.out _ HBW.out) (fun hHeld=>?_);clear hK0 K d;rename World=>Wc;(try simp only[Act.put,lin.sm]);(refine lin.tH 3 (v:=?_) ?_;(try simp only[Act.put,lin.sm])))
   |(have q:=hK4;clear q;have c9:=H5.out.cell mn HOP.out;have d:Below Wc.heap.size Wc Wc:=Below.refl _ _;go_simp;have H9:Hid (True):=trivial;clear H5 c9;refine hK4.out _ _ (HSd.out _ HBW.out) (fun hHeld=>?_);clear hK4 K d;(try simp only[Act.put,lin.sm]))
 all_goals
  first
   |(have q:=H9;clear q;refine wpAnyH_ready (rs:=[9]) (by kernel_rfl) (by simp) ?_;refine(AllReadyH.cons rfl (fun K hK9=>?_) AllReadyH.nil))
   |(have q:=H4;clear q;have q:=H5;clear q;refine wpAnyH_ready (rs:=[4]) (by kernel_rfl) (by simp) ?_;refine(AllReadyH.cons rfl (fun K hK4=>?_) AllReadyH.nil))
   |(have q:=H4;clear q;refine wpAnyH_ready (rs:=[0]) (by kernel_rfl) (by simp) ?_;refine(AllReadyH.cons rfl (fun K hK0=>?_) AllReadyH.nil))
   |(have q:=H5;clear q;refine wpAnyH_ready (rs:=[4,9]) (by kernel_rfl) (by simp) ?_;refine(AllReadyH.cons rfl (fun K hK4=>?_) (AllReadyH.cons rfl (fun K hK9=>?_) AllReadyH.nil)))
 all_goals
  first
   |(have q:=hK9;clear q;have CC:=HC.out Wc HBW.out;go_simp;refine CC.mono ?_;rintro e Wn⟨rfl,d⟩;clear CC;(try(replace H5:Hid (Bk Wn p5 #[.string ⟨#[40,63,61]⟩,.string ⟨#[40,63,33]⟩,.string ⟨#[40,63,60,61]⟩,.string ⟨#[40,63,60,33]⟩] 9):=H5.out.on d));replace HBW:Hid (Below W0.heap.size W0 Wn):=HBW.out.trans (below_less d HBW.out.size);have H4:Hid (True):=trivial;refine hK9.out _ _ (HSd.out _ HBW.out) (fun hHeld=>?_);clear hK9 K d;rename World=>Wc;(try simp only[Act.put,lin.sm]))
   |(have q:=hK0;clear q;go_simp;obtain⟨Wn,hWn⟩:∃Wn,Wc.alloc (.cells #[.string ⟨#[40,63,61]⟩,.string ⟨#[40,63,33]⟩,.string ⟨#[40,63,60,61]⟩,.string ⟨#[40,63,60,33]⟩] 9)=Wn:=⟨_,rfl⟩;have d:Below Wc.heap.size Wc Wn:=(by rw[←hWn];exact(Below.refl _ _).alloc (Nat.le_refl _) _);have k:Bk Wn Wc.heap.size #[.string ⟨#[40,63,61]⟩,.string ⟨#[40,63,33]⟩,.string ⟨#[40,63,60,61]⟩,.string ⟨#[40,63,60,33]⟩] 9:=(by rw[←hWn];exact Bk.new _ _ _);rw[hWn];clear hWn;obtain⟨p5,hp5⟩:∃p,Wc.heap.size=p:=⟨_,rfl⟩;rw[hp5]at k⊢;clear hp5;(try(replace H5:Hid (Bk Wn p5 #[.string ⟨#[40,63,61]⟩,.string ⟨#[40,63,33]⟩,.string ⟨#[40,63,60,61]⟩,.string ⟨#[40,63,60,33]⟩] 9):=H5.out.on d));replace HBW:Hid (Below W0.heap.size W0 Wn):=HBW.out.trans (below_less d HBW.out.size);have H5:Hid (Bk Wn p5 #[.string ⟨#[40,63,61]⟩,.string ⟨#[40,63,33]⟩,.string ⟨#[40,63,60,61]⟩,.string ⟨#[40,63,60,33]⟩] 9):=k;clear k;refine hK0.out _ _ (HSd.out _ HBW.out) (fun hHeld=>?_);clear hK0 K d;rename World=>Wc;(try simp only[Act.put,lin.sm]);(refine lin.tH 3 (v:=?_) ?_;(try simp only[Act.put,lin.sm])))
   |(have q:=hK4;clear q;have c9:=H5.out.cell mn HOP.out;have d:Below Wc.heap.size Wc Wc:=Below.refl _ _;go_simp;have H9:Hid (True):=trivial;clear H5 c9;refine hK4.out _ _ (HSd.out _ HBW.out) (fun hHeld=>?_);clear hK4 K d;(try simp only[Act.put,lin.sm]))
 all_goals
  first
   |(have q:=H9;clear q;refine wpAnyH_ready (rs:=[9]) (by kernel_rfl) (by simp) ?_;refine(AllReadyH.cons rfl (fun K hK9=>?_) AllReadyH.nil))
   |(have q:=H4;clear q;have q:=H5;clear q;refine wpAnyH_ready (rs:=[4]) (by kernel_rfl) (by simp) ?_;refine(AllReadyH.cons rfl (fun K hK4=>?_) AllReadyH.nil))
   |(have q:=H4;clear q;refine wpAnyH_ready (rs:=[0]) (by kernel_rfl) (by simp) ?_;refine(AllReadyH.cons rfl (fun K hK0=>?_) AllReadyH.nil))
   |(have q:=H5;clear q;refine wpAnyH_ready (rs:=[4,9]) (by kernel_rfl) (by simp) ?_;refine(AllReadyH.cons rfl (fun K hK4=>?_) (AllReadyH.cons rfl (fun K hK9=>?_) AllReadyH.nil)))
 all_goals
  first
   |(have q:=hK9;clear q;have CC:=HC.out Wc HBW.out;go_simp;refine CC.mono ?_;rintro e Wn⟨rfl,d⟩;clear CC;(try(replace H5:Hid (Bk Wn p5 #[.string ⟨#[40,63,61]⟩,.string ⟨#[40,63,33]⟩,.string ⟨#[40,63,60,61]⟩,.string ⟨#[40,63,60,33]⟩] 9):=H5.out.on d));replace HBW:Hid (Below W0.heap.size W0 Wn):=HBW.out.trans (below_less d HBW.out.size);have H4:Hid (True):=trivial;refine hK9.out _ _ (HSd.out _ HBW.out) (fun hHeld=>?_);clear hK9 K d;rename World=>Wc;(try simp only[Act.put,lin.sm]))
   |(have q:=hK0;clear q;go_simp;obtain⟨Wn,hWn⟩:∃Wn,Wc.alloc (.cells #[.string ⟨#[40,63,61]⟩,.string ⟨#[40,63,33]⟩,.string ⟨#[40,63,60,61]⟩,.string ⟨#[40,63,60,33]⟩] 9)=Wn:=⟨_,rfl⟩;have d:Below Wc.heap.size Wc Wn:=(by rw[←hWn];exact(Below.refl _ _).alloc (Nat.le_refl _) _);have k:Bk Wn Wc.heap.size #[.string ⟨#[40,63,61]⟩,.string ⟨#[40,63,33]⟩,.string ⟨#[40,63,60,61]⟩,.string ⟨#[40,63,60,33]⟩] 9:=(by rw[←hWn];exact Bk.new _ _ _);rw[hWn];clear hWn;obtain⟨p5,hp5⟩:∃p,Wc.heap.size=p:=⟨_,rfl⟩;rw[hp5]at k⊢;clear hp5;(try(replace H5:Hid (Bk Wn p5 #[.string ⟨#[40,63,61]⟩,.string ⟨#[40,63,33]⟩,.string ⟨#[40,63,60,61]⟩,.string ⟨#[40,63,60,33]⟩] 9):=H5.out.on d));replace HBW:Hid (Below W0.heap.size W0 Wn):=HBW.out.trans (below_less d HBW.out.size);have H5:Hid (Bk Wn p5 #[.string ⟨#[40,63,61]⟩,.string ⟨#[40,63,33]⟩,.string ⟨#[40,63,60,61]⟩,.string ⟨#[40,63,60,33]⟩] 9):=k;clear k;refine hK0.out _ _ (HSd.out _ HBW.out) (fun hHeld=>?_);clear hK0 K d;rename World=>Wc;(try simp only[Act.put,lin.sm]);(refine lin.tH 3 (v:=?_) ?_;(try simp only[Act.put,lin.sm])))
   |(have q:=hK4;clear q;have c9:=H5.out.cell mn HOP.out;have d:Below Wc.heap.size Wc Wc:=Below.refl _ _;go_simp;have H9:Hid (True):=trivial;clear H5 c9;refine hK4.out _ _ (HSd.out _ HBW.out) (fun hHeld=>?_);clear hK4 K d;(try simp only[Act.put,lin.sm]))
 all_goals
  (refine lin.tH 10 (v:=?_) ?_;(try simp only[Act.put,lin.sm]))
 all_goals
  (refine lin.tH 11 (v:=?_) ?_;(try simp only[Act.put,lin.sm]))
 all_goals
  (refine lin.tH 12 (v:=?_) ?_;(try simp only[Act.put,lin.sm]))
 all_goals
  refine wpAnyH_done (by kernel_rfl) ?_ _
  refine NoPanic.normal ?_
  have HBZ:Hid (Below w.heap.size w Wc):=HB0.out.trans (below_less HBW.out HB0.out.size)
  clear HX0 HB0 HSd HC HBW hHeld
  go_wp2
  go_ret
  exact⟨rfl,HBZ.out⟩
end Go.Proofs.YtbbeciofgnkggaaGreatDoor.tre
namespace Go.Proofs.YtbbeciofgnkggaaGreatDoor.tre
open Go.RowKit nod tok
open rng(R RV ret_int ret_bool info_parts own_below')
def K20(c:Ck):Prop:=0≤c.1∧c.1≤20
/--It keeps the groups at most 20. -/
abbrev G20(D:DP):Prop:=∀t c d c',D t c d=some c'→K20 c→K20 c'
/--It may be, with some groups ahead. -/
def OkD(D:DP)(t:Nd)(d:Int):Prop:=∃c c',K20 c∧D t c d=some c'
theorem loop_ok{D:DP}(h:G20 D):∀(ts:List Nd)(c:Ck)(d:Int)(c':Ck),loopD D ts c d=some c'→K20 c→K20 c'∧∀t∈ts,OkD D t d
 |[],c,d,c',e,hc=>by
  rw[loopD]at e
  cases e
  exact⟨hc,fun t ht=>by cases ht⟩
 |t::ts,c,d,c',e,hc=>by
  rw[loopD]at e
  cases e1:D t c d with
  |none=>rw[e1]at e;cases e
  |some c1=>
   rw[e1]at e
   have h1:=h t c d c1 e1 hc
   obtain⟨h2,h3⟩:=loop_ok h ts c1 d c' e h1
   refine⟨h2,fun x hx=>?_⟩
   rcases List.mem_cons.1 hx with rfl|hx
   ·exact⟨c,c1,hc,e1⟩
   ·exact h3 x hx
theorem seq_ok{D:DP}(h:G20 D){t:Nd}{c:Ck}{d:Int}{c':Ck}(e:seqD D t c d=some c')(hc:K20 c):K20 c'∧t.kind=6∧∀x∈t.kids,OkD D x d:=by
 unfold seqD at e
 split at e
 ·rename_i q
  obtain⟨h1,h2⟩:=loop_ok h _ _ _ _ e hc
  exact⟨h1,q.1,h2⟩
 ·cases e
theorem g_seq{D:DP}(h:G20 D):G20 (seqD D):=fun t c d c' e hc=>(seq_ok h e hc).1
theorem body_ok{D:DP}(h:G20 D){t:Nd}{c:Ck}{d:Int}{c':Ck}(e:bodyD D t c d=some c')(hc:K20 c):K20 c'∧((t.kind=6∧∀x∈t.kids,OkD D x d)∨(t.kind=7∧∀x∈t.kids,OkD (seqD D) x d)):=by
 unfold bodyD at e
 split at e
 ·obtain⟨h1,h2,h3⟩:=seq_ok h e hc
  exact⟨h1,.inl ⟨h2,h3⟩⟩
 ·split at e
  ·rename_i q
   split at e
   ·obtain⟨h1,h2⟩:=loop_ok (g_seq h) _ _ _ _ e hc
    exact⟨h1,.inr ⟨q,h2⟩⟩
   ·cases e
  ·cases e
theorem g_body{D:DP}(h:G20 D):G20 (bodyD D):=fun t c d c' e hc=>(body_ok h e hc).1
theorem encl_ok{D:DP}(h:G20 D){ks:List Nd}{c:Ck}{d:Int}{c':Ck}(e:enclD D ks c d=some c')(hc:K20 c):K20 c'∧∃x,ks=[x]∧OkD (bodyD D) x (d+1):=by
 match ks with
 |[]=>cases e
 |_::_::_=>cases e
 |[x]=>
  have e:(if d+1≤50 then bodyD D x c (d+1)else none)=some c':=e
  split at e
  ·exact⟨g_body h _ _ _ _ e hc,x,rfl,c,c',hc,e⟩
  ·cases e
theorem grp_ok{t:Nd}{c c':Ck}(e:grpD t c=some c')(hc:K20 c):K20 c'∧(t.a=0→t.name.size=0):=by
 obtain⟨g0,g1⟩:=hc
 unfold grpD at e
 split at e
 ·rename_i q;cases e;exact⟨⟨g0,g1⟩,fun _=>q.2⟩
 ·split at e
  ·cases e
  ·rename_i q
   have ha:¬t.a=0:=by omega
   have hk:∀l,K20 (c.1+1,l):=fun l=>⟨by show 0≤c.1+1;omega,by show c.1+1≤20;omega⟩
   split at e
   ·cases e;exact⟨hk _,fun h=>absurd h ha⟩
   ·split at e
    ·cases e;exact⟨hk _,fun h=>absurd h ha⟩
    ·cases e
theorem bd_ok{b:Int→Bool}{c c':Ck}{d:Int}(e:bD b c d=some c'):c'=c∧b d=true:=by
 unfold bD at e
 split at e
 ·rename_i q;cases e;exact⟨rfl,q⟩
 ·cases e
theorem part_ok{N:Nat}(h:G20 (partD N)){t:Nd}{c:Ck}{d:Int}{c':Ck}(e:partD (N+1) t c d=some c')(hc:K20 c):K20 c'∧(t.kind=1∨t.kind=2∨(t.kind=3∧insD N t (d+1)=true)∨(t.kind=5∧propD t.name=true)∨
  (t.kind=8∧∃x,t.kids=[x]∧0≤t.mode∧t.mode≤2∧timesB t.a t.b=true∧OkD (partD N) x d)∨(t.kind=9∧(t.a=0→t.name.size=0)∧∃x,t.kids=[x]∧OkD (bodyD (partD N)) x (d+1))∨
  (t.kind=10∧0≤t.mode∧t.mode≤3∧∃x,t.kids=[x]∧OkD (bodyD (partD N)) x (d+1))∨(t.kind=11∧∃x,t.kids=[x]∧OkD (bodyD (partD N)) x (d+1))∨(t.kind=12∧1≤t.mode∧t.mode≤10)∨(t.kind=13∧1≤t.a∧t.a≤20)∨t.kind=14):=by
 rw[partD]at e
 by_cases k:othersZ t=false
 ·rw[if_pos k]at e;cases e
 rw[if_neg k]at e
 clear k
 by_cases k:t.kind=1
 ·rw[if_pos k]at e;exact⟨(bd_ok e).1▸hc,.inl k⟩
 rw[if_neg k]at e
 clear k
 by_cases k:t.kind=2
 ·rw[if_pos k]at e;cases e;exact⟨hc,.inr (.inl k)⟩
 rw[if_neg k]at e
 clear k
 by_cases k:t.kind=3
 ·rw[if_pos k]at e
  obtain⟨rfl,q⟩:=bd_ok e
  rw[Bool.and_eq_true]at q
  exact⟨hc,.inr (.inr (.inl ⟨k,q.2⟩))⟩
 rw[if_neg k]at e
 clear k
 by_cases k:t.kind=5
 ·rw[if_pos k]at e
  obtain⟨rfl,q⟩:=bd_ok e
  exact⟨hc,.inr (.inr (.inr (.inl ⟨k,q⟩)))⟩
 rw[if_neg k]at e
 clear k
 by_cases k:t.kind=8
 ·rw[if_pos k]at e
  split at e
  ·rename_i x hx
   split at e
   ·rename_i q
    exact⟨h _ _ _ _ e hc,.inr (.inr (.inr (.inr (.inl ⟨k,x,hx,q.2.1,q.2.2.1,q.2.2.2,c,c',hc,e⟩))))⟩
   ·cases e
  ·cases e
 rw[if_neg k]at e
 clear k
 by_cases k:t.kind=9
 ·rw[if_pos k]at e
  cases e1:grpD t c with
  |none=>rw[e1]at e;cases e
  |some cg=>
   rw[e1]at e
   obtain⟨k1,k2⟩:=grp_ok e1 hc
   obtain⟨k3,k4⟩:=encl_ok h (show enclD (partD N) t.kids cg d=some c' from e) k1
   exact⟨k3,.inr (.inr (.inr (.inr (.inr (.inl ⟨k,k2,k4⟩)))))⟩
 rw[if_neg k]at e
 clear k
 by_cases k:t.kind=10
 ·rw[if_pos k]at e
  split at e
  ·rename_i q
   obtain⟨k3,k4⟩:=encl_ok h e hc
   exact⟨k3,.inr (.inr (.inr (.inr (.inr (.inr (.inl ⟨k,q.1,q.2,k4⟩))))))⟩
  ·cases e
 rw[if_neg k]at e
 clear k
 by_cases k:t.kind=11
 ·rw[if_pos k]at e
  obtain⟨k3,k4⟩:=encl_ok h e hc
  exact⟨k3,.inr (.inr (.inr (.inr (.inr (.inr (.inr (.inl ⟨k,k4⟩)))))))⟩
 rw[if_neg k]at e
 clear k
 by_cases k:t.kind=12
 ·rw[if_pos k]at e
  obtain⟨rfl,q⟩:=bd_ok e
  simp only[Bool.and_eq_true,decide_eq_true_eq]at q
  exact⟨hc,.inr (.inr (.inr (.inr (.inr (.inr (.inr (.inr (.inl ⟨k,q⟩))))))))⟩
 rw[if_neg k]at e
 clear k
 by_cases k:t.kind=13
 ·rw[if_pos k]at e
  split at e
  ·rename_i q
   cases e
   exact⟨hc,.inr (.inr (.inr (.inr (.inr (.inr (.inr (.inr (.inr (.inl ⟨k,by omega,by have:=hc.2;omega⟩)))))))))⟩
  ·cases e
 rw[if_neg k]at e
 clear k
 by_cases k:t.kind=14
 ·rw[if_pos k]at e;cases e;exact⟨hc,.inr (.inr (.inr (.inr (.inr (.inr (.inr (.inr (.inr (.inr k)))))))))⟩
 ·rw[if_neg k]at e;cases e
theorem g_part:∀N:Nat,G20 (partD N)
 |0=>fun t c d c' e _=>by rw[partD]at e;cases e
 |N+1=>fun t c d c' e hc=>(part_ok (g_part N) e hc).1
end Go.Proofs.YtbbeciofgnkggaaGreatDoor.tre
namespace Go.Proofs.YtbbeciofgnkggaaGreatDoor.tre
open Go.RowKit nod tok
open rng(R RV ret_int ret_bool info_parts own_below')
theorem sz_kids(t:Nd):t.sz=szL t.kids+1:=by cases t;rw[Nd.sz];rfl
theorem short_kids{t:Nd}(h:shortN t):t.name.size≤140737488355327∧shortL t.kids:=by cases t;rw[shortN]at h;exact h
theorem bar_le{F:Nd→List UInt8}:∀(ks:List Nd),(∀x,x∈ks→(F x).length+1≤nodeB*x.sz)→(barT F ks).length≤nodeB*szL ks
 |[],_=>Nat.zero_le _
 |x::xs,h=>by
  have h1:=h x (by simp)
  have h2:=flat_le (F:=fun y=>[124]++F y) xs (fun y hy=>by have:=h y (by simp[hy]);simp;omega)
  show(F x++xs.flatMap _).length≤_
  rw[List.length_append,szL,Nat.mul_add]
  omega
theorem body_bar(p:Nd→List UInt8)(t:Nd):bodyT p t=if t.kind=6 then t.kids.flatMap p else barT (seqT p) t.kids:=by
 unfold bodyT
 by_cases k:t.kind=6
 ·rw[if_pos k,if_pos k];rfl
 ·rw[if_neg k,if_neg k];cases t.kids<;>rfl
theorem nodeB_eq:nodeB=140737488355347:=rfl
theorem body_le{N:Nat}(hp:∀x d,OkD (partD N) x d→shortN x→(partT N x).length≤nodeB*x.sz)(t:Nd)(d:Int)(h:OkD (bodyD (partD N)) t d)(hs:shortN t):(bodyT (partT N) t).length+nodeB≤nodeB*t.sz:=by
 obtain⟨c,c',hc,e⟩:=h
 have hk:=(short_kids hs).2
 rw[body_bar,sz_kids,Nat.mul_add,Nat.mul_one]
 have hseq:∀y d,OkD (seqD (partD N)) y d→shortN y→(seqT (partT N) y).length+1≤nodeB*y.sz:=fun y d⟨c,c',hc,e⟩hs=>by
  obtain⟨_,_,h3⟩:=seq_ok (g_part N) e hc
  have:=flat_le (F:=partT N) y.kids (fun x hx=>hp x d (h3 x hx) (short_mem (short_kids hs).2 hx))
  rw[sz_kids,Nat.mul_add,Nat.mul_one]
  show(y.kids.flatMap (partT N)).length+1≤_
  rw[nodeB_eq]at*
  omega
 rcases(body_ok (g_part N) e hc).2 with⟨k,h3⟩|⟨k,h3⟩
 ·rw[if_pos k]
  have:=flat_le (F:=partT N) t.kids (fun x hx=>hp x d (h3 x hx) (short_mem hk hx))
  omega
 ·rw[if_neg (by rw[k];decide)]
  have:=bar_le (F:=seqT (partT N)) t.kids (fun x hx=>hseq x d (h3 x hx) (short_mem hk hx))
  omega
theorem text_le{m:Int}{l:List ByteArray}{n:Nat}(h:∀x∈l,x.size≤n):(textP m l).data.toList.length≤n:=by
 have e:(textP m l).data.toList.length=(textP m l).size:=Array.length_toList
 rw[e]
 unfold textP
 split
 ·exact Nat.zero_le _
 ·cases hq:l[m.toNat]? with
  |none=>exact Nat.zero_le _
  |some x=>exact h x (List.mem_of_getElem? hq)
theorem ba_len(t:ByteArray):t.data.toList.length=t.size:=Array.length_toList
theorem part_le:∀(N:Nat)(t:Nd)(d:Int),OkD (partD N) t d→shortN t→(partT N t).length≤nodeB*t.sz
 |0,t,d,_,_=>Nat.zero_le _
 |N+1,t,d,⟨c,c',hc,e⟩,hs=>by
  have ih:=part_le N
  have hbl:=body_le ih
  obtain⟨hn,hk⟩:=short_kids hs
  have hpos:=sz_pos t
  have hins:=ins_le N t hs
  have hC:nodeB*1≤nodeB*t.sz:=Nat.mul_le_mul_left _ hpos
  have hB:=nodeB_eq
  have e1:=tx_le t.a false
  have e3:=ptext_sz t.name t.neg
  have l4:(openC t.neg).size≤2:=by unfold openC;split<;>decide
  have lm:(textP t.mode modeTexts).data.toList.length≤1:=text_le (by decide)
  have ll:(textP t.mode lookTexts).data.toList.length≤4:=text_le (by decide)
  have la:(textP t.mode asrtTexts).data.toList.length≤5:=text_le (by decide)
  have hencl:∀(op:ByteArray)(x:Nd),op.size≤140737488355327+4→t.kids=[x]→OkD (bodyD (partD N)) x (d+1)→(enclT (partT N) op t.kids).length≤nodeB*t.sz:=fun op x ho hx hb=>by
   have h1:=hbl x (d+1) hb (short_mem hk (by rw[hx];simp))
   have h2:t.sz=x.sz+1:=by rw[sz_kids,hx,szL,szL]
   rw[hx,h2,Nat.mul_add]
   show(op.data.toList++bodyT (partT N) x++[41]).length≤_
   rw[List.length_append,List.length_append,ba_len]
   simp only[List.length_cons,List.length_nil]
   generalize nodeB*x.sz=M at*
   rw[hB]at*
   omega
  obtain⟨_,h⟩:=part_ok (g_part N) e hc
  rcases h with k|k|⟨k,_⟩|⟨k,_⟩|⟨k,x,hx,h0,h2,ht,ho⟩|⟨k,ha,x,hx,ho⟩|⟨k,h0,h3,x,hx,ho⟩|⟨k,x,hx,ho⟩|⟨k,_⟩|⟨k,a1,a2⟩|k
  ·simp only[partT,k];rw[if_pos (by decide),ba_len];generalize nodeB*t.sz=M at*;omega
  ·simp only[partT,k];show 1≤_;generalize nodeB*t.sz=M at*;omega
  ·simp only[partT,k]
   show((openC t.neg).data.toList++insT N t++[93]).length≤_
   rw[List.length_append,List.length_append,ba_len]
   simp only[List.length_cons,List.length_nil]
   generalize nodeB*t.sz=M at*;omega
  ·simp only[partT,k];show(propT t.name t.neg).data.toList.length≤_;rw[ba_len];generalize nodeB*t.sz=M at*;omega
  ·simp only[partT,k,hx]
   show(partT N x++(timesT t.a t.b++textP t.mode modeTexts).data.toList).length≤_
   have h1:=ih x d ho (short_mem hk (by rw[hx];simp))
   have h2:t.sz=x.sz+1:=by rw[sz_kids,hx,szL,szL]
   have h3:=times_sz ht
   rw[ba_len]at lm
   rw[List.length_append,ba_len,app_size,h2,Nat.mul_add]
   generalize nodeB*x.sz=M at*
   rw[hB]at*
   omega
  ·simp only[partT,k]
   refine hencl (openT t) x ?_ hx ho
   unfold openT
   split
   ·decide
   ·split
    ·decide
    ·unfold openN;rw[app_size,app_size];show 3+t.name.size+1≤_;omega
  ·simp only[partT,k];rw[ba_len]at ll;exact hencl _ x (by omega) hx ho
  ·simp only[partT,k];exact hencl _ x (by decide) hx ho
  ·simp only[partT,k];show(textP t.mode asrtTexts).data.toList.length≤_;generalize nodeB*t.sz=M at*;omega
  ·simp only[partT,k]
   have hd:=dec_in (a:=t.a) (by omega) (by omega)
   show(backT t.a).data.toList.length≤_
   unfold backT
   rw[ba_len,app_size,app_size]
   show 3+_+1≤_
   generalize nodeB*t.sz=M at*;omega
  ·simp only[partT,k];show 2≤_;generalize nodeB*t.sz=M at*;omega
end Go.Proofs.YtbbeciofgnkggaaGreatDoor.tre
