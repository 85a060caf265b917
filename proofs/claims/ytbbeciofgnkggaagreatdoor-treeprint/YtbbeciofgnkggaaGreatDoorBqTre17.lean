import Derived.Test.YtbbeciofgnkggaaGreatDoorBqTre16
import Derived.Test.YtbbeciofgnkggaaGreatDoorBqLin4
import Derived.Test.YtbbeciofgnkggaaGreatDoorBqNod1
set_option linter.unusedSimpArgs false
set_option linter.unusedVariables false
set_option maxRecDepth 100000
set_option maxHeartbeats 8000000
namespace Go.Proofs.YtbbeciofgnkggaaGreatDoor.tre
open Go.RowKit nod tok
open rng(R RV ret_int ret_bool info_parts own_below')
theorem times_cases{a b:Int}(h:timesB a b=true):0≤a∧a≤100∧b≤100∧((a=0∧b=-1∧timesT a b=⟨#[42]⟩)∨(a=1∧b=-1∧timesT a b=⟨#[43]⟩)∨(a=0∧b=1∧timesT a b=⟨#[63]⟩)∨
  (2≤a∧b=-1∧timesT a b=(⟨#[123]⟩++dec a)++⟨#[44,125]⟩)∨(0≤b∧a=b∧timesT a b=(⟨#[123]⟩++dec a)++⟨#[125]⟩)∨(0≤b∧a≠b∧¬(a=0∧b=1)∧timesT a b=(((⟨#[123]⟩++dec a)++⟨#[44]⟩)++dec b)++⟨#[125]⟩)):=by
 unfold timesB at h
 simp only[Bool.and_eq_true,Bool.or_eq_true,decide_eq_true_eq]at h
 refine⟨by omega,by omega,by omega,?_⟩
 unfold timesT
 rw[if_neg (by omega)]
 by_cases h1:a=0∧b=-1
 ·left;rw[if_pos h1];exact⟨h1.1,h1.2,rfl⟩
 rw[if_neg h1]
 by_cases h2:a=1∧b=-1
 ·right;left;rw[if_pos h2];exact⟨h2.1,h2.2,rfl⟩
 rw[if_neg h2]
 by_cases h3:a=0∧b=1
 ·right;right;left;rw[if_pos h3];exact⟨h3.1,h3.2,rfl⟩
 rw[if_neg h3]
 by_cases h4:a=b
 ·right;right;right;right;left;rw[if_pos h4];exact⟨by omega,h4,rfl⟩
 rw[if_neg h4]
 by_cases h5:b=-1
 ·right;right;right;left;rw[if_pos h5];exact⟨by omega,h5,rfl⟩
 ·right;right;right;right;right;rw[if_neg h5];exact⟨by omega,h4,h3,rfl⟩
theorem dec_in{a:Int}(h0:0≤a)(h1:a≤100):(dec a).size≤3:=by
 obtain⟨k,rfl⟩:∃k:Nat,a=k:=⟨a.toNat,by omega⟩
 exact dec_sz k (by omega)
theorem times_sz{a b:Int}(h:timesB a b=true):(timesT a b).size≤9:=by
 obtain⟨h0,h1,h2,h3⟩:=times_cases h
 have d1:=dec_in h0 h1
 rcases h3 with⟨_,_,e⟩|⟨_,_,e⟩|⟨_,_,e⟩|⟨_,_,e⟩|⟨_,_,e⟩|⟨hb,_,_,e⟩
 ·rw[e];decide
 ·rw[e];decide
 ·rw[e];decide
 ·rw[e,app_size,app_size];show 1+_+2≤9;omega
 ·rw[e,app_size,app_size];show 1+_+1≤9;omega
 ·have d2:=dec_in hb h2
  rw[e,app_size,app_size,app_size,app_size];show 1+_+1+_+1≤9;omega
theorem rp_t(a b:Int)(mn:Nat)(g:Bool)(n:ByteArray)(ta:Option Addr)(tl tc kb ko kc:Nat)(c0 c1 c2 c3 c4 c5 c6 c7:Value)(w:World)(TK:List UInt8)(OP:ByteArray)(hm:mn≤2)(hkc:1≤kc)(hOP:(#[.string ⟨#[]⟩,.string ⟨#[63]⟩,.string ⟨#[43]⟩]:Array Value)[mn]?=some (.string OP))(hos:OP.size≤1)(htb:timesB a b=true)
  (hA:At8 w kb ko (.agg #[c0,c1,c2,c3,c4,c5,c6,c7]))(hkb:kb<w.heap.size)(hlen:TK.length≤9223372036854775000)
  (HC:Hid (∀W,Below w.heap.size w W→Calls Tryz.prog 14 #[.agg #[c0,c1,c2,c3,c4,c5,c6,c7]] W fun e w'=>e=.returned (.string (S8 TK))∧Below W.heap.size W w')):
  Calls Tryz.prog 21 #[.agg (n8 8 (mn:Int) a b g n ta tl tc (some ⟨kb,ko,none⟩) 1 kc)] w fun e w'=>e=.returned (.string (S8 (TK++(timesT a b++OP).data.toList)))∧Below w.heap.size w w':=by
 obtain⟨W0,hW0,HW0,b0,HX0⟩:=st0 w (n8 8 (mn:Int) a b g n ta tl tc (some ⟨kb,ko,none⟩) 1 kc) 25
 have HB0:Hid (Below w.heap.size w W0):=b0
 have HC0:Hid (∀W,Below W0.heap.size W0 W→Calls Tryz.prog 14 #[.agg #[c0,c1,c2,c3,c4,c5,c6,c7]] W fun e w'=>e=.returned (.string (S8 TK))∧Below W.heap.size W w'):=fun W h=>HC.out W (b0.trans (below_less h b0.size))
 have HSd:Hid (∀w',Below W0.heap.size W0 w'→(w'.cell? ⟨w.heap.size,1,none⟩=some (.int .i64 (mn:Int))∧w'.cell? ⟨w.heap.size,2,none⟩=some (.int .i64 a)∧w'.cell? ⟨w.heap.size,3,none⟩=some (.int .i64 b)∧w'.cell? ⟨w.heap.size,7,none⟩=some (.slice (some ⟨kb,ko,none⟩) 1 kc))∧(w'.cell? ⟨kb,ko,none⟩=some c0∧w'.cell? ⟨kb,ko+1,none⟩=some c1∧w'.cell? ⟨kb,ko+2,none⟩=some c2∧w'.cell? ⟨kb,ko+3,none⟩=some c3∧w'.cell? ⟨kb,ko+4,none⟩=some c4∧w'.cell? ⟨kb,ko+5,none⟩=some c5∧w'.cell? ⟨kb,ko+6,none⟩=some c6∧w'.cell? ⟨kb,ko+7,none⟩=some c7)):=fun w' d=>⟨⟨(HX0.out.on d).cell 1 rfl,(HX0.out.on d).cell 2 rfl,(HX0.out.on d).cell 3 rfl,(HX0.out.on d).cell 7 rfl⟩,at8_cells (hA.below (b0.trans (below_less d b0.size)) hkb)⟩
 have HSt:Hid (∀w',Below W0.heap.size W0 w'→(w'.cell? ⟨w.heap.size,1,none⟩=some (.int .i64 (mn:Int))∧w'.cell? ⟨w.heap.size,7,none⟩=some (.slice (some ⟨kb,ko,none⟩) 1 kc))∧(w'.cell? ⟨kb,ko,none⟩=some c0∧w'.cell? ⟨kb,ko+1,none⟩=some c1∧w'.cell? ⟨kb,ko+2,none⟩=some c2∧w'.cell? ⟨kb,ko+3,none⟩=some c3∧w'.cell? ⟨kb,ko+4,none⟩=some c4∧w'.cell? ⟨kb,ko+5,none⟩=some c5∧w'.cell? ⟨kb,ko+6,none⟩=some c6∧w'.cell? ⟨kb,ko+7,none⟩=some c7)):=fun w' d=>⟨⟨(HSd.out w' d).1.1,(HSd.out w' d).1.2.2.2⟩,(HSd.out w' d).2⟩
 have HOP:Hid ((#[.string ⟨#[]⟩,.string ⟨#[63]⟩,.string ⟨#[43]⟩]:Array Value)[mn]?=some (.string OP)):=hOP
 obtain⟨RS,hRS⟩:∃RS,S8 (TK++(timesT a b++OP).data.toList)=RS:=⟨_,rfl⟩
 rw[hRS]
 have hq0:(S8 TK++timesT a b)++OP=RS:=by rw[←hRS,←s8_app,s8_of,ByteArray.append_assoc]
 obtain⟨h0,h1,hb1,hcs⟩:=times_cases htb
 have hts:=times_sz htb
 have HNA:Hid (∀W,Calls Tryz.prog 22 #[.int .i64 a] W fun e w'=>e=.returned (.string (dec a))∧w'=W):=fun W=>number_d a h0 h1 W
 have HNB:Hid (0≤b→∀W,Calls Tryz.prog 22 #[.int .i64 b] W fun e w'=>e=.returned (.string (dec b))∧w'=W):=fun h W=>number_d b h hb1 W
 have da:=dec_in h0 h1
 have HDB:Hid (0≤b→(dec b).size≤3):=fun h=>dec_in h hb1
 obtain⟨T,hT⟩:∃T,timesT a b=T:=⟨_,rfl⟩
 rw[hT]at hcs hq0 hts
 have HJ:Hid ((S8 TK++T)++OP=RS):=hq0
 have u1:¬9223372036854775807<(S8 TK).size+T.size:=by rw[s8_sz];omega
 have u2:¬9223372036854775807<(S8 TK).size+T.size+OP.size:=by rw[s8_sz];omega
 have y1:¬9223372036854775807<(S8 TK).size+1:=by rw[s8_sz];omega
 have y2:¬9223372036854775807<(S8 TK).size+1+OP.size:=by rw[s8_sz];omega
 have v1:¬9223372036854775807<1+(dec a).size:=by omega
 have v2:¬9223372036854775807<1+(dec a).size+2:=by omega
 have v3:¬9223372036854775807<1+(dec a).size+1:=by omega
 have hm4:(mn:Int)<3:=by omega
 have HBW:Hid (Below W0.heap.size W0 W0):=Below.refl _ _
 clear hT hRS hW0 b0 hA hkb hOP hlen HC hos hq0 hts htb
 replace HC:=HC0
 clear HC0
 go_enter Tryz.func21,Tryz.ntmps21
 go_upto_region 1 with fail
 rw[HW0.out]
 clear HW0
 obtain⟨x0,x1,x2,x3,x4,x5,x6,x7⟩:=at8c HX0.out
 rcases hcs with⟨rfl,rfl,rfl⟩|⟨rfl,rfl,rfl⟩|⟨rfl,rfl,rfl⟩|⟨hc,rfl,hT⟩|⟨hc,rfl,hT⟩|⟨hc,hab,hn1,hT⟩
 focus
  go_upto_region 13 with fail
 rotate_left
 focus
  go_upto_region 13 with fail
 rotate_left
 focus
  go_upto_region 13 with fail
 rotate_left
 focus
  have HT:Hid (T=(⟨#[123]⟩++dec a)++⟨#[44,125]⟩):=hT
  have z0:(a==0)=false:=by simp;omega
  have z1:(a==1)=false:=by simp;omega
  clear hT
  go_upto_region 13 with(first|(go_at_call 22;refine(HNA.out _).mono ?_;rintro e wz⟨rfl,hw⟩;rw[hw];clear hw))
  rw[←HT.out]
  clear HT
 rotate_left
 have HT:Hid (T=(⟨#[123]⟩++dec a)++⟨#[125]⟩):=hT
 have z2:(a==-1)=false:=by simp;omega
 clear hT
 focus
  rcases(show a=0∨a=1∨(a≠0∧a≠1)from by omega)with q|q|⟨q,q1⟩
  rotate_left 2
  have z0:(a==0)=false:=by simp[q]
  have z1:(a==1)=false:=by simp[q1]
  clear q1
  rotate_left
  have z0:(a==0)=true:=by simp[q]
  have z1:(a==1)=false:=by simp[q]
  rotate_left
  have z0:(a==0)=false:=by simp[q]
  have z1:(a==1)=true:=by simp[q]
  all_goals
   clear q
   go_upto_region 13 with(first|(go_at_call 22;refine(HNA.out _).mono ?_;rintro e wz⟨rfl,hw⟩;rw[hw];clear hw))
   rw[←HT.out]
   clear HT
 rotate_left 3
 have HT:Hid (T=(((⟨#[123]⟩++dec a)++⟨#[44]⟩)++dec b)++⟨#[125]⟩):=hT
 have z2:(b==-1)=false:=by simp;omega
 have z3:(a==b)=false:=by simp[hab]
 have db:=HDB.out hc
 have v4:¬9223372036854775807<1+(dec a).size+1+(dec b).size:=by omega
 have v5:¬9223372036854775807<1+(dec a).size+1+(dec b).size+1:=by omega
 have HNB2:=HNB.out hc
 have HNB3:Hid (∀W,Calls Tryz.prog 22 #[.int .i64 b] W _):=HNB2
 clear hT HNB2 db
 focus
  rcases(show a=0∨a=1∨(a≠0∧a≠1)from by omega)with q|q|⟨q,q1⟩
  rotate_left 2
  have z0:(a==0)=false:=by simp[q]
  have z1:(a==1)=false:=by simp[q1]
  clear q q1
  rotate_left
  have z0:(a==0)=true:=by simp[q]
  have z4:(b==1)=false:=by simp;omega
  clear q
  rotate_left
  have z0:(a==0)=false:=by simp[q]
  have z1:(a==1)=true:=by simp[q]
  clear q
  all_goals
   go_upto_region 2 with fail
   refine wp_region_noPanic (lin.wp_region_k 10 (fun w'=>(w'.cell? ⟨w.heap.size,1,none⟩=some (.int .i64 (mn:Int))∧w'.cell? ⟨w.heap.size,2,none⟩=some (.int .i64 a)∧w'.cell? ⟨w.heap.size,3,none⟩=some (.int .i64 b)∧w'.cell? ⟨w.heap.size,7,none⟩=some (.slice (some ⟨kb,ko,none⟩) 1 kc))∧(w'.cell? ⟨kb,ko,none⟩=some c0∧w'.cell? ⟨kb,ko+1,none⟩=some c1∧w'.cell? ⟨kb,ko+2,none⟩=some c2∧w'.cell? ⟨kb,ko+3,none⟩=some c3∧w'.cell? ⟨kb,ko+4,none⟩=some c4∧w'.cell? ⟨kb,ko+5,none⟩=some c5∧w'.cell? ⟨kb,ko+6,none⟩=some c6∧w'.cell? ⟨kb,ko+7,none⟩=some c7)) (by kernel_rfl) (HSd.out _ (Below.refl _ _).drew) fun hHeld=>?_)
   refine lin.tK 0 (v:=?_) ?_
   try simp only[Act.put,lin.sm]
   refine lin.tK 1 (v:=?_) ?_
   try simp only[Act.put,lin.sm]
   refine lin.tK 5 (v:=?_) ?_
   try simp only[Act.put,lin.sm]
   refine lin.tK 6 (v:=?_) ?_
   try simp only[Act.put,lin.sm]
   obtain⟨Wd,hWd⟩:∃Wd,W0.drew=Wd:=⟨_,rfl⟩
   replace HBW:Hid (Below W0.heap.size W0 Wd):=by unfold Hid;rw[←hWd];exact(Below.refl _ _).drew
   rw[hWd]at hHeld⊢
   clear hWd x0 x1 x2 x3 x4 x5 x6 x7
   have CC:=HNA.out Wd
   refine lin.wpAnyK_one (j:=2) (by kernel_rfl) (by decide) rfl (fun K hK=>?_)
   go_simp
   refine CC.mono ?_
   rintro e w1⟨rfl,hw⟩
   rw[hw]
   refine hK.out _ _ (HSd.out _ HBW.out) (fun hHeld=>?_)
   clear hK K CC hw
   try simp only[Act.put,lin.sm]
   refine lin.tK 3 (v:=?_) ?_
   try simp only[Act.put,lin.sm]
   refine lin.tK 4 (v:=?_) ?_
   try simp only[Act.put,lin.sm]
   have CC:=HNB3.out Wd
   refine lin.wpAnyK_one (j:=7) (by kernel_rfl) (by decide) rfl (fun K hK=>?_)
   go_simp
   refine CC.mono ?_
   rintro e w2⟨rfl,hw⟩
   rw[hw]
   refine hK.out _ _ (HSd.out _ HBW.out) (fun hHeld=>?_)
   clear hK K CC hw
   try simp only[Act.put,lin.sm]
   refine lin.tK 8 (v:=?_) ?_
   try simp only[Act.put,lin.sm]
   refine lin.tK 9 (v:=?_) ?_
   try simp only[Act.put,lin.sm]
   refine lin.wpAnyK_last (by kernel_rfl) rfl (fun K hK=>?_)
   go_simp
   rw[←HT.out]
   clear HT
   refine hK.out _ _ ?_
   clear hK K hHeld
   try simp only[Act.put,lin.sm]
   refine⟨by kernel_rfl,?_⟩
   refine NoPanic.normal ?_
   go_upto_region 13 with fail
 rotate_left 3
 all_goals
  (try clear x0 x1 x2 x3 x4 x5 x6 x7)
  clear HSd HNA HNB HDB
  refine wp_region_noPanic (wp_region_held_drew (S:=fun w'=>(w'.cell? ⟨w.heap.size,1,none⟩=some (.int .i64 (mn:Int))∧w'.cell? ⟨w.heap.size,7,none⟩=some (.slice (some ⟨kb,ko,none⟩) 1 kc))∧(w'.cell? ⟨kb,ko,none⟩=some c0∧w'.cell? ⟨kb,ko+1,none⟩=some c1∧w'.cell? ⟨kb,ko+2,none⟩=some c2∧w'.cell? ⟨kb,ko+3,none⟩=some c3∧w'.cell? ⟨kb,ko+4,none⟩=some c4∧w'.cell? ⟨kb,ko+5,none⟩=some c5∧w'.cell? ⟨kb,ko+6,none⟩=some c6∧w'.cell? ⟨kb,ko+7,none⟩=some c7)) (by kernel_rfl) (HSt.out _ HBW.out.drew) fun hHeld=>?_)
  first|(obtain⟨Wc,hWc⟩:∃Wc,Wd.drew=Wc:=⟨_,rfl⟩;rw[hWc]at hHeld⊢;replace HBW:Hid (Below W0.heap.size W0 Wc):=(hWc▸HBW.out.drew);clear hWc)|(obtain⟨Wc,hWc⟩:∃Wc,W0.drew=Wc:=⟨_,rfl⟩;rw[hWc]at hHeld⊢;replace HBW:Hid (Below W0.heap.size W0 Wc):=(hWc▸HBW.out.drew);clear hWc)
  (refine lin.tH 0 (v:=?_) ?_;(try simp only[Act.put,lin.sm]))
  (refine lin.tH 1 (v:=?_) ?_;(try simp only[Act.put,lin.sm]))
  (refine lin.tH 2 (v:=?_) ?_;(try simp only[Act.put,lin.sm]))
  (refine lin.tH 3 (v:=?_) ?_;(try simp only[Act.put,lin.sm]))
  (refine lin.tH 5 (v:=?_) ?_;(try simp only[Act.put,lin.sm]))
  (refine lin.tH 8 (v:=?_) ?_;(try simp only[Act.put,lin.sm]))
  (refine lin.tH 9 (v:=?_) ?_;(try simp only[Act.put,lin.sm]))
  refine wpAnyH_ready (rs:=[4,7]) (by kernel_rfl) (by simp) ?_;refine(AllReadyH.cons rfl (fun K hK4=>?_) (AllReadyH.cons rfl (fun K hK7=>?_) AllReadyH.nil))
 iterate 3
  all_goals
   first
    |(have q:=hK4;clear q;have CC:=HC.out Wc HBW.out;go_simp;refine CC.mono ?_;rintro e Wn⟨rfl,d⟩;clear CC;(try(replace H5:Hid (Bk Wn p5 #[.string ⟨#[]⟩,.string ⟨#[63]⟩,.string ⟨#[43]⟩] 9):=H5.out.on d));replace HBW:Hid (Below W0.heap.size W0 Wn):=HBW.out.trans (below_less d HBW.out.size);have H4:Hid (True):=trivial;refine hK4.out _ _ (HSt.out _ HBW.out) (fun hHeld=>?_);clear hK4 K d;rename World=>Wc;(try simp only[Act.put,lin.sm]);(refine lin.tH 6 (v:=?_) ?_;(try simp only[Act.put,lin.sm])))
    |(have q:=hK7;clear q;go_simp;obtain⟨Wn,hWn⟩:∃Wn,Wc.alloc (.cells #[.string ⟨#[]⟩,.string ⟨#[63]⟩,.string ⟨#[43]⟩] 9)=Wn:=⟨_,rfl⟩;have d:Below Wc.heap.size Wc Wn:=(by rw[←hWn];exact(Below.refl _ _).alloc (Nat.le_refl _) _);have k:Bk Wn Wc.heap.size #[.string ⟨#[]⟩,.string ⟨#[63]⟩,.string ⟨#[43]⟩] 9:=(by rw[←hWn];exact Bk.new _ _ _);rw[hWn];clear hWn;obtain⟨p5,hp5⟩:∃p,Wc.heap.size=p:=⟨_,rfl⟩;rw[hp5]at k⊢;clear hp5;(try(replace H5:Hid (Bk Wn p5 #[.string ⟨#[]⟩,.string ⟨#[63]⟩,.string ⟨#[43]⟩] 9):=H5.out.on d));replace HBW:Hid (Below W0.heap.size W0 Wn):=HBW.out.trans (below_less d HBW.out.size);have H5:Hid (Bk Wn p5 #[.string ⟨#[]⟩,.string ⟨#[63]⟩,.string ⟨#[43]⟩] 9):=k;clear k;refine hK7.out _ _ (HSt.out _ HBW.out) (fun hHeld=>?_);clear hK7 K d;rename World=>Wc;(try simp only[Act.put,lin.sm]);(refine lin.tH 10 (v:=?_) ?_;(try simp only[Act.put,lin.sm])))
    |(have q:=hK11;clear q;have c9:=H5.out.cell mn HOP.out;have d:Below Wc.heap.size Wc Wc:=Below.refl _ _;go_simp;have H9:Hid (True):=trivial;clear H5 c9;refine hK11.out _ _ (HSt.out _ HBW.out) (fun hHeld=>?_);clear hK11 K d;(try simp only[Act.put,lin.sm]))
  all_goals
   first
    |(have q:=H4;clear q;have q:=H9;clear q)
    |(have q:=H9;clear q;refine wpAnyH_ready (rs:=[4]) (by kernel_rfl) (by simp) ?_;refine(AllReadyH.cons rfl (fun K hK4=>?_) AllReadyH.nil))
    |(have q:=H4;clear q;have q:=H5;clear q;refine wpAnyH_ready (rs:=[11]) (by kernel_rfl) (by simp) ?_;refine(AllReadyH.cons rfl (fun K hK11=>?_) AllReadyH.nil))
    |(have q:=H4;clear q;refine wpAnyH_ready (rs:=[7]) (by kernel_rfl) (by simp) ?_;refine(AllReadyH.cons rfl (fun K hK7=>?_) AllReadyH.nil))
    |(have q:=H5;clear q;refine wpAnyH_ready (rs:=[4,11]) (by kernel_rfl) (by simp) ?_;refine(AllReadyH.cons rfl (fun K hK4=>?_) (AllReadyH.cons rfl (fun K hK11=>?_) AllReadyH.nil)))
 all_goals
  (refine lin.tH 12 (v:=?_) ?_;(try simp only[Act.put,lin.sm]))
 all_goals
  (refine lin.tH 13 (v:=?_) ?_;(try simp only[Act.put,lin.sm]))
 all_goals
  refine wpAnyH_done (by kernel_rfl) ?_ _
  refine NoPanic.normal ?_
  rw[HJ.out]
  have HBZ:Hid (Below w.heap.size w Wc):=HB0.out.trans (below_less HBW.out HB0.out.size)
  clear HX0 HB0 HSt HC HBW hHeld HJ
  go_wp2
  go_ret
  exact⟨rfl,HBZ.out⟩
end Go.Proofs.YtbbeciofgnkggaaGreatDoor.tre
namespace Go.Proofs.YtbbeciofgnkggaaGreatDoor.tre
open Go.RowKit nod tok
open rng(R RV ret_int ret_bool info_parts own_below')
theorem pt_1(m a b:Int)(g:Bool)(n:ByteArray)(ta:Option Addr)(tl tc:Nat)(ka:Option Addr)(kl kc:Nat)(w:World):
  Calls Tryz.prog 14 #[.agg (n8 1 m a b g n ta tl tc ka kl kc)] w fun e w'=>e=.returned (.string (TX (printL a false)))∧Below w.heap.size w w':=by
 have HB0:Hid (Below w.heap.size w (w.alloc (.cells (n8 1 m a b g n ta tl tc ka kl kc) 25))):=(Below.refl _ w).alloc (Nat.le_refl _) _
 have C:=rprint_any a false (w.alloc (.cells (n8 1 m a b g n ta tl tc ka kl kc) 25))
 go_enter Tryz.func14,Tryz.ntmps14
 go_wp2_with fail
 refine C.mono ?_
 rintro e w1⟨rfl,b1⟩
 have HB1:Hid (Below w.heap.size w w1):=HB0.out.trans (below_less b1 HB0.out.size)
 clear C b1
 go_wp2
 go_ret
 exact⟨rfl,HB1.out⟩
theorem pt_2(m a b:Int)(g:Bool)(n:ByteArray)(ta:Option Addr)(tl tc:Nat)(ka:Option Addr)(kl kc:Nat)(w:World):
  Calls Tryz.prog 14 #[.agg (n8 2 m a b g n ta tl tc ka kl kc)] w fun e w'=>e=.returned (.string (⟨#[46]⟩))∧Below w.heap.size w w':=by
 have HB0:Hid (Below w.heap.size w (w.alloc (.cells (n8 2 m a b g n ta tl tc ka kl kc) 25))):=(Below.refl _ w).alloc (Nat.le_refl _) _
 go_enter Tryz.func14,Tryz.ntmps14
 go_wp2
 go_ret
 exact⟨rfl,HB0.out⟩
theorem pt_14(m a b:Int)(g:Bool)(n:ByteArray)(ta:Option Addr)(tl tc:Nat)(ka:Option Addr)(kl kc:Nat)(w:World):
  Calls Tryz.prog 14 #[.agg (n8 14 m a b g n ta tl tc ka kl kc)] w fun e w'=>e=.returned (.string (⟨#[92,88]⟩))∧Below w.heap.size w w':=by
 have HB0:Hid (Below w.heap.size w (w.alloc (.cells (n8 14 m a b g n ta tl tc ka kl kc) 25))):=(Below.refl _ w).alloc (Nat.le_refl _) _
 go_enter Tryz.func14,Tryz.ntmps14
 go_wp2
 go_ret
 exact⟨rfl,HB0.out⟩
theorem pt_5(m a b:Int)(g:Bool)(n:ByteArray)(ta:Option Addr)(tl tc:Nat)(ka:Option Addr)(kl kc:Nat)(w:World)(hp:propD n=true)(hs:n.size≤140737488355327):
  Calls Tryz.prog 14 #[.agg (n8 5 m a b g n ta tl tc ka kl kc)] w fun e w'=>e=.returned (.string (propT n g))∧Below w.heap.size w w':=by
 have HB0:Hid (Below w.heap.size w (w.alloc (.cells (n8 5 m a b g n ta tl tc ka kl kc) 25))):=(Below.refl _ w).alloc (Nat.le_refl _) _
 have C:=ptext_d n hp hs 5 m a b g ta tl tc ka kl kc (w.alloc (.cells (n8 5 m a b g n ta tl tc ka kl kc) 25))
 clear hp hs
 go_enter Tryz.func14,Tryz.ntmps14
 go_wp2_with fail
 refine C.mono ?_
 rintro e w1⟨rfl,b1⟩
 have HB1:Hid (Below w.heap.size w w1):=HB0.out.trans (below_less b1 HB0.out.size)
 clear C b1
 go_wp2
 go_ret
 exact⟨rfl,HB1.out⟩
theorem pt_3(m a b:Int)(g:Bool)(n:ByteArray)(ta:Option Addr)(tl tc:Nat)(ka:Option Addr)(kl kc:Nat)(w:World)(r:ByteArray)(C:Calls Tryz.prog 19 #[.agg (n8 3 m a b g n ta tl tc ka kl kc),.bool false] (w.alloc (.cells (n8 3 m a b g n ta tl tc ka kl kc) 25)) fun e w'=>e=.returned (.string r)∧Below (w.alloc (.cells (n8 3 m a b g n ta tl tc ka kl kc) 25)).heap.size (w.alloc (.cells (n8 3 m a b g n ta tl tc ka kl kc) 25)) w'):
  Calls Tryz.prog 14 #[.agg (n8 3 m a b g n ta tl tc ka kl kc)] w fun e w'=>e=.returned (.string (r))∧Below w.heap.size w w':=by
 have HB0:Hid (Below w.heap.size w (w.alloc (.cells (n8 3 m a b g n ta tl tc ka kl kc) 25))):=(Below.refl _ w).alloc (Nat.le_refl _) _
 go_enter Tryz.func14,Tryz.ntmps14
 go_wp2_with fail
 refine C.mono ?_
 rintro e w1⟨rfl,b1⟩
 have HB1:Hid (Below w.heap.size w w1):=HB0.out.trans (below_less b1 HB0.out.size)
 clear C b1
 go_wp2
 go_ret
 exact⟨rfl,HB1.out⟩
theorem pt_8(m a b:Int)(g:Bool)(n:ByteArray)(ta:Option Addr)(tl tc:Nat)(ka:Option Addr)(kl kc:Nat)(w:World)(r:ByteArray)(C:Calls Tryz.prog 21 #[.agg (n8 8 m a b g n ta tl tc ka kl kc)] (w.alloc (.cells (n8 8 m a b g n ta tl tc ka kl kc) 25)) fun e w'=>e=.returned (.string r)∧Below (w.alloc (.cells (n8 8 m a b g n ta tl tc ka kl kc) 25)).heap.size (w.alloc (.cells (n8 8 m a b g n ta tl tc ka kl kc) 25)) w'):
  Calls Tryz.prog 14 #[.agg (n8 8 m a b g n ta tl tc ka kl kc)] w fun e w'=>e=.returned (.string (r))∧Below w.heap.size w w':=by
 have HB0:Hid (Below w.heap.size w (w.alloc (.cells (n8 8 m a b g n ta tl tc ka kl kc) 25))):=(Below.refl _ w).alloc (Nat.le_refl _) _
 go_enter Tryz.func14,Tryz.ntmps14
 go_wp2_with fail
 refine C.mono ?_
 rintro e w1⟨rfl,b1⟩
 have HB1:Hid (Below w.heap.size w w1):=HB0.out.trans (below_less b1 HB0.out.size)
 clear C b1
 go_wp2
 go_ret
 exact⟨rfl,HB1.out⟩
theorem pt_13(m a b:Int)(g:Bool)(n:ByteArray)(ta:Option Addr)(tl tc:Nat)(ka:Option Addr)(kl kc:Nat)(w:World)(h0:0≤a)(h1:a≤100):
  Calls Tryz.prog 14 #[.agg (n8 13 m a b g n ta tl tc ka kl kc)] w fun e w'=>e=.returned (.string (backT a))∧Below w.heap.size w w':=by
 have HB0:Hid (Below w.heap.size w (w.alloc (.cells (n8 13 m a b g n ta tl tc ka kl kc) 25))):=(Below.refl _ w).alloc (Nat.le_refl _) _
 have C:=number_d a h0 h1 (w.alloc (.cells (n8 13 m a b g n ta tl tc ka kl kc) 25))
 have da:=dec_in h0 h1
 have v1:¬9223372036854775807<3+(dec a).size:=by omega
 have v2:¬9223372036854775807<3+(dec a).size+1:=by omega
 clear da h0 h1
 go_enter Tryz.func14,Tryz.ntmps14
 go_wp2_with fail
 refine C.mono ?_
 rintro e w1⟨rfl,hw⟩
 rw[hw]
 clear C hw
 go_wp2
 go_ret
 exact⟨rfl,HB0.out⟩
theorem pt_12(a b:Int)(mn:Nat)(g:Bool)(n:ByteArray)(ta:Option Addr)(tl tc:Nat)(ka:Option Addr)(kl kc:Nat)(w:World)(OP:ByteArray)(hm:mn≤10)(hOP:(#[.string ⟨#[]⟩,.string ⟨#[94]⟩,.string ⟨#[36]⟩,.string ⟨#[92,65]⟩,.string ⟨#[92,122]⟩,.string ⟨#[92,98]⟩,.string ⟨#[92,66]⟩,.string ⟨#[92,98,123,103,125]⟩,.string ⟨#[92,66,123,103,125]⟩,.string ⟨#[92,98,123,119,125]⟩,.string ⟨#[92,66,123,119,125]⟩]:Array Value)[mn]?=some (.string OP)):
  Calls Tryz.prog 14 #[.agg (n8 12 (mn:Int) a b g n ta tl tc ka kl kc)] w fun e w'=>e=.returned (.string (OP))∧Below w.heap.size w w':=by
 have HB0:Hid (Below w.heap.size w (w.alloc (.cells (n8 12 (mn:Int) a b g n ta tl tc ka kl kc) 25))):=(Below.refl _ w).alloc (Nat.le_refl _) _
 have hm4:(mn:Int)<11:=by omega
 have hsz:(w.alloc (.cells (n8 12 (mn:Int) a b g n ta tl tc ka kl kc) 25)).heap.size=w.heap.size+1:=Array.size_push ..
 have c9:((w.alloc (.cells (n8 12 (mn:Int) a b g n ta tl tc ka kl kc) 25)).alloc (.cells #[.string ⟨#[]⟩,.string ⟨#[94]⟩,.string ⟨#[36]⟩,.string ⟨#[92,65]⟩,.string ⟨#[92,122]⟩,.string ⟨#[92,98]⟩,.string ⟨#[92,66]⟩,.string ⟨#[92,98,123,103,125]⟩,.string ⟨#[92,66,123,103,125]⟩,.string ⟨#[92,98,123,119,125]⟩,.string ⟨#[92,66,123,119,125]⟩] 9)).cell? ⟨w.heap.size+1,mn,none⟩=some (.string OP):=by
  rw[←hsz]
  exact(Bk.new (w.alloc (.cells (n8 12 (mn:Int) a b g n ta tl tc ka kl kc) 25)) #[.string ⟨#[]⟩,.string ⟨#[94]⟩,.string ⟨#[36]⟩,.string ⟨#[92,65]⟩,.string ⟨#[92,122]⟩,.string ⟨#[92,98]⟩,.string ⟨#[92,66]⟩,.string ⟨#[92,98,123,103,125]⟩,.string ⟨#[92,66,123,103,125]⟩,.string ⟨#[92,98,123,119,125]⟩,.string ⟨#[92,66,123,119,125]⟩] 9).cell mn hOP
 have HB1:Hid (Below w.heap.size w ((w.alloc (.cells (n8 12 (mn:Int) a b g n ta tl tc ka kl kc) 25)).alloc (.cells #[.string ⟨#[]⟩,.string ⟨#[94]⟩,.string ⟨#[36]⟩,.string ⟨#[92,65]⟩,.string ⟨#[92,122]⟩,.string ⟨#[92,98]⟩,.string ⟨#[92,66]⟩,.string ⟨#[92,98,123,103,125]⟩,.string ⟨#[92,66,123,103,125]⟩,.string ⟨#[92,98,123,119,125]⟩,.string ⟨#[92,66,123,119,125]⟩] 9))):=HB0.out.alloc HB0.out.size _
 clear hsz hOP hm
 go_enter Tryz.func14,Tryz.ntmps14
 go_wp2
 go_ret
 exact⟨rfl,HB1.out⟩
end Go.Proofs.YtbbeciofgnkggaaGreatDoor.tre
namespace Go.Proofs.YtbbeciofgnkggaaGreatDoor.tre
open Go.RowKit nod tok
open rng(R RV ret_int ret_bool info_parts own_below')
def barT(F:Nd→List UInt8):List Nd→List UInt8
 |x::xs=>F x++xs.flatMap (fun y=>[124]++F y)
 |[]=>[]
theorem bar_app{F:Nd→List UInt8}(l l2:List Nd)(h:l≠[]):barT F (l++l2)=barT F l++l2.flatMap (fun y=>[124]++F y):=by
 cases l with
 |nil=>exact absurd rfl h
 |cons x xs=>
  show F x++(xs++l2).flatMap _=(F x++xs.flatMap _)++_
  rw[List.flatMap_append,List.append_assoc]
theorem bar_take{F:Nd→List UInt8}{ks:List Nd}{j:Nat}{t:Nd}(h:ks[j]?=some t):barT F (ks.take (j+1))=if j=0 then F t else barT F (ks.take j)++([124]++F t):=by
 rw[takeX h]
 by_cases h0:j=0
 ·subst h0
  rw[if_pos rfl]
  show F t++[]=F t
  rw[List.append_nil]
 ·rw[if_neg h0,bar_app _ _ (fun e=>by
   have hz:min j ks.length=0:=by have:=congrArg List.length e;rwa[List.length_take]at this
   have hl:=(List.getElem?_eq_some_iff.1 h).1
   omega)]
  simp
theorem bar_part{F:Nd→List UInt8}(ks:List Nd)(j:Nat):(barT F (ks.take j)).length≤(barT F ks).length:=by
 by_cases h:ks.take j=[]
 ·rw[h];exact Nat.zero_le _
 ·have e:barT F ks=barT F (ks.take j)++(ks.drop j).flatMap (fun y=>[124]++F y):=by rw[←bar_app _ _ h,List.take_append_drop]
  rw[e,List.length_append]
  omega
theorem pt_6(m a b:Int)(g:Bool)(n:ByteArray)(ta:Option Addr)(tl tc:Nat)(ka:Option Addr)(kl kc:Nat)(ks:List Nd)(B:Nat)(w:World)(F:Nd→List UInt8)(hkl:ks.length=kl)(hkm:kl≤9223372036854775807)(hkc:kl≤kc)(hkv:KV B w ka ks)(hB:B≤w.heap.size)(hL:(ks.flatMap F).length≤9223372036854775000)
  (HI:Hid (∀(t:Nd)(v:Value)(W:World),t∈ks→NV B W t v→B≤W.heap.size→Calls Tryz.prog 14 #[v] W fun e w'=>e=.returned (.string (S8 (F t)))∧Below W.heap.size W w')):
  Calls Tryz.prog 14 #[.agg (n8 6 m a b g n ta tl tc ka kl kc)] w fun e w'=>e=.returned (.string (S8 (ks.flatMap F)))∧Below w.heap.size w w':=by
 obtain⟨W0,hW0,HW0,b0,HX0⟩:=st0 w (n8 6 m a b g n ta tl tc ka kl kc) 25
 have HB0:Hid (Below w.heap.size w W0):=b0
 have HBR:Hid (Below W0.heap.size W0 W0):=Below.refl _ _
 have HBS:Hid (B≤W0.heap.size):=Nat.le_trans hB b0.size
 have HLN:Hid (ks.length=kl):=hkl
 have HK:Hid (KV B W0 ka ks):=hkv.below (below_less b0 hB)
 obtain⟨RS,hRS⟩:∃RS,S8 (ks.flatMap F)=RS:=⟨_,rfl⟩
 rw[hRS]
 have HRS:Hid (S8 (ks.flatMap F)=RS):=hRS
 have HTL:Hid ((ks.flatMap F).length≤9223372036854775000):=hL
 clear hRS hW0 b0 hkl hkv hB hL
 go_enter Tryz.func14,Tryz.ntmps14
 go_upto_region 2 with fail
 rw[HW0.out]
 clear HW0
 obtain⟨x0,x1,x2,x3,x4,x5,x6,x7⟩:=at8c HX0.out
 go_wp2
 go_loopw[3,15](fun s i wr=>∃j:Nat,j≤kl∧i=.int .i64 j∧s=.string (S8 ((ks.take j).flatMap F))∧Hid (Below W0.heap.size W0 wr))(fun _ i _=>kl-(intOf i).toNat)
 case atStart=>exact⟨0,Nat.zero_le _,rfl,rfl,HBR⟩
 case round=>
  clear HBR x0 x1 x2 x3 x4 x5 x6 x7
  obtain⟨j,hj,rfl,rfl,HW⟩:=hrel
  by_cases hlt:j<kl
  ·have hlt':(j:Int)<(kl:Int):=by omega
   obtain⟨t,ht⟩:=getX HLN.out hlt
   obtain⟨bb,off,rfl,hka⟩:=(HK.out.below (below_less HW.out HBS.out)).some (by have:=HLN.out;omega)
   have hft:=flat_take (F:=F) ht
   obtain⟨k',m',a',b',g',n',s',kk,sa',sc',ao',cap',rfl,⟨e0,e1,e2,e3,e4,e5,e6,e7⟩,hv'⟩:=hka.kid ht
   have hmem:=List.mem_of_getElem? ht
   have hBr:B≤wr.heap.size:=Nat.le_trans HBS.out HW.out.size
   have C:=HI.out (.mk k' m' a' b' g' n' s' kk) _ (wr.alloc (.cells (n8 k' m' a' b' g' n' sa' s'.length sc' ao' kk.length cap') 25)) hmem (hv'.keep ((Below.refl _ wr).alloc hBr _)) (by simp;omega)
   have hq:=flat_part (F:=F) ks (j+1)
   generalize s'.length=sl' at*
   generalize kk.length=nk' at*
   rw[hft]at hq
   generalize F (.mk k' m' a' b' g' n' s' kk)=T at*
   have HC1:Hid (Below W0.heap.size W0 (wr.alloc (.cells (n8 k' m' a' b' g' n' sa' sl' sc' ao' nk' cap') 25))):=HW.out.alloc HW.out.size _
   clear HW hka hv' ht hmem hBr
   rw[List.length_append]at hq
   have HFT:Hid ((ks.take (j+1)).flatMap F=(ks.take j).flatMap F++T):=hft
   have t1:¬9223372036854775807<(S8 ((ks.take j).flatMap F)).size+(S8 T).size:=by have:=HTL.out;rw[s8_sz,s8_sz];omega
   clear hft hq
   go_wp2_with(go_at_call 14;refine C.mono ?_;rintro e w2⟨rfl,dd⟩;have HG:Hid (Below W0.heap.size W0 w2):=HC1.out.trans (below_less dd HC1.out.size);clear dd)
   go_roundw
   case rel=>exact⟨j+1,by omega,by go_num,(by rw[HFT.out,←s8_app]),HG⟩
   case measure=>simp[intOf];omega
  ·have hj2:(ks.take j).flatMap F=ks.flatMap F:=by rw[List.take_of_length_le (by have:=HLN.out;omega)]
   have HBZ:Hid (Below w.heap.size w wr):=HB0.out.trans (below_less HW.out HB0.out.size)
   rw[hj2]
   clear HK HI hj2 HW HX0 HB0 HBS
   go_wp2
   go_ret
   exact⟨rt_str HRS.out,HBZ.out⟩
theorem pt_7(m a b:Int)(g:Bool)(n:ByteArray)(ta:Option Addr)(tl tc:Nat)(ka:Option Addr)(kl kc:Nat)(ks:List Nd)(B:Nat)(w:World)(F:Nd→List UInt8)(hkl:ks.length=kl)(hkm:kl≤9223372036854775807)(hkc:kl≤kc)(hkv:KV B w ka ks)(hB:B≤w.heap.size)(hL:(barT F ks).length≤9223372036854775000)
  (HI:Hid (∀(t:Nd)(v:Value)(W:World),t∈ks→NV B W t v→B≤W.heap.size→Calls Tryz.prog 14 #[v] W fun e w'=>e=.returned (.string (S8 (F t)))∧Below W.heap.size W w')):
  Calls Tryz.prog 14 #[.agg (n8 7 m a b g n ta tl tc ka kl kc)] w fun e w'=>e=.returned (.string (S8 (barT F ks)))∧Below w.heap.size w w':=by
 obtain⟨W0,hW0,HW0,b0,HX0⟩:=st0 w (n8 7 m a b g n ta tl tc ka kl kc) 25
 have HB0:Hid (Below w.heap.size w W0):=b0
 have HBR:Hid (Below W0.heap.size W0 W0):=Below.refl _ _
 have HBS:Hid (B≤W0.heap.size):=Nat.le_trans hB b0.size
 have HLN:Hid (ks.length=kl):=hkl
 have HK:Hid (KV B W0 ka ks):=hkv.below (below_less b0 hB)
 obtain⟨RS,hRS⟩:∃RS,S8 (barT F ks)=RS:=⟨_,rfl⟩
 rw[hRS]
 have HRS:Hid (S8 (barT F ks)=RS):=hRS
 have HTL:Hid ((barT F ks).length≤9223372036854775000):=hL
 clear hRS hW0 b0 hkl hkv hB hL
 go_enter Tryz.func14,Tryz.ntmps14
 go_upto_region 2 with fail
 rw[HW0.out]
 clear HW0
 obtain⟨x0,x1,x2,x3,x4,x5,x6,x7⟩:=at8c HX0.out
 go_wp2
 go_loopw[3,30](fun s i wr=>∃j:Nat,j≤kl∧i=.int .i64 j∧s=.string (S8 (barT F (ks.take j)))∧Hid (Below W0.heap.size W0 wr))(fun _ i _=>kl-(intOf i).toNat)
 case atStart=>exact⟨0,Nat.zero_le _,rfl,rfl,HBR⟩
 case round=>
  clear HBR x0 x1 x2 x3 x4 x5 x6 x7
  obtain⟨j,hj,rfl,rfl,HW⟩:=hrel
  by_cases hlt:j<kl
  ·have hlt':(j:Int)<(kl:Int):=by omega
   obtain⟨t,ht⟩:=getX HLN.out hlt
   obtain⟨bb,off,rfl,hka⟩:=(HK.out.below (below_less HW.out HBS.out)).some (by have:=HLN.out;omega)
   have hft:=bar_take (F:=F) ht
   obtain⟨k',m',a',b',g',n',s',kk,sa',sc',ao',cap',rfl,⟨e0,e1,e2,e3,e4,e5,e6,e7⟩,hv'⟩:=hka.kid ht
   have hmem:=List.mem_of_getElem? ht
   have hBr:B≤wr.heap.size:=Nat.le_trans HBS.out HW.out.size
   have C:=HI.out (.mk k' m' a' b' g' n' s' kk) _ (wr.alloc (.cells (n8 k' m' a' b' g' n' sa' s'.length sc' ao' kk.length cap') 25)) hmem (hv'.keep ((Below.refl _ wr).alloc hBr _)) (by simp;omega)
   have hq:=bar_part (F:=F) ks (j+1)
   generalize s'.length=sl' at*
   generalize kk.length=nk' at*
   rw[hft]at hq
   generalize F (.mk k' m' a' b' g' n' s' kk)=T at*
   have HC1:Hid (Below W0.heap.size W0 (wr.alloc (.cells (n8 k' m' a' b' g' n' sa' sl' sc' ao' nk' cap') 25))):=HW.out.alloc HW.out.size _
   clear HW hka hv' ht hmem hBr
   by_cases hj0:j=0
   ·subst hj0
    simp only[Nat.zero_mul,Nat.add_zero]at e0 e1 e2 e3 e4 e5 e6 e7
    have hlt2:(0:Int)<(kl:Int):=by omega
    rw[if_pos rfl]at hq hft
    have HFT:Hid (barT F (ks.take (0+1))=T):=hft
    have t1:¬9223372036854775807<(S8 (barT F (ks.take 0))).size+(S8 T).size:=by have:=HTL.out;show¬_<0+T.length;omega
    have HE0:Hid (S8 (barT F (ks.take 0))++S8 T=S8 T):=by rw[s8_app];rfl
    clear hft hq
    go_wp2_with(go_at_call 14;refine C.mono ?_;rintro e w2⟨rfl,dd⟩;have HG:Hid (Below W0.heap.size W0 w2):=HC1.out.trans (below_less dd HC1.out.size);clear dd)
    go_roundw
    case rel=>exact⟨0+1,by omega,by go_num,(by rw[HFT.out];exact congrArg Value.string HE0.out),HG⟩
    case measure=>simp[intOf];omega
   ·rw[if_neg hj0,List.length_append,List.length_append]at hq
    rw[if_neg hj0]at hft
    have HFT:Hid (barT F (ks.take (j+1))=barT F (ks.take j)++([124]++T)):=hft
    have q1:(0:Int)<(j:Int):=by omega
    have t0:¬9223372036854775807<(S8 (barT F (ks.take j))).size+1:=by have:=HTL.out;rw[s8_sz];simp at hq;omega
    have t1:¬9223372036854775807<(S8 (barT F (ks.take j))).size+1+(S8 T).size:=by have:=HTL.out;rw[s8_sz,s8_sz];simp at hq;omega
    have HE0:Hid ((S8 (barT F (ks.take j))++⟨#[124]⟩)++S8 T=S8 (barT F (ks.take j)++([124]++T))):=by unfold Hid;rw[←s8_app,←s8_app,ByteArray.append_assoc];rfl
    clear hft hq hj0
    go_wp2_with(go_at_call 14;refine C.mono ?_;rintro e w2⟨rfl,dd⟩;have HG:Hid (Below W0.heap.size W0 w2):=HC1.out.trans (below_less dd HC1.out.size);clear dd)
    go_roundw
    case rel=>exact⟨j+1,by omega,by go_num,(by rw[HFT.out,HE0.out]),HG⟩
    case measure=>simp[intOf];omega
  ·have hj2:barT F (ks.take j)=barT F ks:=by rw[List.take_of_length_le (by have:=HLN.out;omega)]
   have HBZ:Hid (Below w.heap.size w wr):=HB0.out.trans (below_less HW.out HB0.out.size)
   rw[hj2]
   clear HK HI hj2 HW HX0 HB0 HBS
   go_wp2
   go_ret
   exact⟨rt_str HRS.out,HBZ.out⟩
end Go.Proofs.YtbbeciofgnkggaaGreatDoor.tre
