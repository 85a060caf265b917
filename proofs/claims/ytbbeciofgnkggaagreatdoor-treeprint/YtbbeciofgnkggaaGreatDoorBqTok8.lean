import Derived.Test.YtbbeciofgnkggaaGreatDoorBqTok4
import Derived.Test.YtbbeciofgnkggaaGreatDoorBqTok7
import Derived.Test.YtbbeciofgnkggaaGreatDoorBqLin4
import Derived.Test.YtbbeciofgnkggaaGreatDoorBqUpS1
import Derived.Test.YtbbeciofgnkggaaGreatDoorBqLin1
import Derived.Test.YtbbeciofgnkggaaGreatDoorBqUtf1
import Derived.Test.YtbbeciofgnkggaaGreatDoorBqTok3
import Derived.Test.YtbbeciofgnkggaaGreatDoorBqNam4
import Derived.Deep.LoopGhost
set_option linter.unusedSimpArgs false
set_option linter.unusedVariables false
set_option maxRecDepth 100000
set_option maxHeartbeats 4000000
namespace Go.Proofs.YtbbeciofgnkggaaGreatDoor.tok
open Go.RowKit
open utf(len enc)
open lin(BA Turns)
structure PEnv(w:World):Prop where
 mks:utf.Marks w
 bj:w.cell? ⟨7,15,none⟩=some (.int .u8 4)
 ml:∃m,w.cell? ⟨3,0,none⟩=some (.int .i64 m)
theorem PEnv.below{w w':World}(h:PEnv w)(hb:Below w.heap.size w w'):PEnv w':=by
 obtain⟨m,hm⟩:=h.ml
 exact⟨h.mks.below hb,(hb.cell (World.block_lt_of_cell? w _ h.bj)).trans h.bj,m,(hb.cell (World.block_lt_of_cell? w _ hm)).trans hm⟩
/--Numbers as a text. -/
def TX(L:List Int):ByteArray:=BA (Lib.bytesOf L)
theorem upper_low:∀n:Fin 128,((lin.lowL n.val).map Lib.upperB)=Lib.bytesOf (hexU (n.val:Int)):=by decide+kernel
theorem low_asc:∀n:Fin 128,∀x∈lin.lowL n.val,x.toNat<128:=by decide+kernel
theorem has_mark:∀n:Fin 128,∀c:Bool,Lib.contains (if c=true then[91,93,94,45,38,126,92]else[46,91,40,41,124,42,43,63,123,94,36,92]) (Lib.bytesOf [(n.val:Int)])=decide ((n.val:Int)∈(if c=true then marksC else marksO)):=by decide+kernel
theorem nowhere(x:UInt8)(rest:List UInt8):∀s:List UInt8,(∀b∈s,b≠x)→Lib.index s (x::rest)=-1
 |[],_=>by simp[Lib.index]
 |b::l,h=>by
  have h1:=nowhere x rest l (fun c hc=>h c (List.mem_cons_of_mem _ hc))
  have h2:x≠b:=fun e=>h b (List.mem_cons_self ..) e.symm
  unfold Lib.index
  rw[h1]
  simp[List.isPrefixOf,h2]
theorem enc_high(r:Int)(hr:len r≠0)(h:128≤r):∃x rest,enc r=x::rest∧192≤x∧x≤255:=by
 obtain⟨r0,r1,r2,c|c|c|c⟩:=utf.len_cases r hr
 ·omega
 ·exact⟨_,_,utf.enc_of_2 r c.1,by omega,by omega⟩
 ·exact⟨_,_,utf.enc_of_3 r c.1,by omega,by omega⟩
 ·exact⟨_,_,utf.enc_of_4 r c.1,by omega,by omega⟩
theorem has_print(r:Int)(cls:Bool)(hr:len r≠0):Lib.contains (if cls=true then[91,93,94,45,38,126,92]else[46,91,40,41,124,42,43,63,123,94,36,92]) (Lib.bytesOf (enc r))=decide (r∈(if cls=true then marksC else marksO)):=by
 obtain⟨r0,r1,-⟩:=utf.len_cases r hr
 by_cases h:r≤127
 ·rw[enc_low r r0 h]
  have:=has_mark ⟨r.toNat,by omega⟩ cls
  rw[show((⟨r.toNat,by omega⟩:Fin 128).val:Int)=r by simp;omega]at this
  exact this
 ·obtain⟨x,rest,e,h1,h2⟩:=enc_high r hr (by omega)
  have hn:¬r∈(if cls=true then marksC else marksO):=fun hh=>by have:=marks_low r cls hh;omega
  rw[decide_eq_false hn,e]
  unfold Lib.contains
  have hx:(UInt8.ofNat x.toNat).toNat=x.toNat:=by rw[UInt8.toNat_ofNat'];omega
  have hb:Lib.bytesOf (x::rest)=UInt8.ofNat x.toNat::Lib.bytesOf rest:=by simp[Lib.bytesOf]
  rw[hb,nowhere]
  ·decide
  ·intro b hb2 e2
   have hb3:b.toNat≤126:=by
    revert hb2
    cases cls
    ·simp only[Bool.false_eq_true,if_false,List.mem_cons,List.not_mem_nil,or_false]
     intro hb2
     rcases hb2 with rfl|rfl|rfl|rfl|rfl|rfl|rfl|rfl|rfl|rfl|rfl|rfl<;>decide
    ·simp only[if_true,List.mem_cons,List.not_mem_nil,or_false]
     intro hb2
     rcases hb2 with rfl|rfl|rfl|rfl|rfl|rfl|rfl<;>decide
   rw[e2,hx]at hb3
   omega
theorem TX_size(L:List Int):(TX L).size=L.length:=by unfold TX;rw[lin.BA_size];simp[Lib.bytesOf]
theorem TX_app(L M:List Int):TX (L++M)=TX L++TX M:=by
 unfold TX
 rw[show Lib.bytesOf (L++M)=Lib.bytesOf L++Lib.bytesOf M by simp[Lib.bytesOf]]
 exact(nam.BA_app _ _).symm
theorem enc_text(r:Int)(w:World):(convert 47 9 (.slice (some ⟨w.heap.size,0,none⟩) (enc r).length (enc r).length)).run Tryz.prog (w.alloc (utf.encBlock r))=.ok (.string (TX (enc r))) (w.alloc (utf.encBlock r)):=
 utf.bts_block (xs:=enc r) (enc r).length (World.alloc_heap_new w (utf.encBlock r))
theorem print_false(r:Int)(w:World)(E:PEnv w):Calls Tryz.prog 40 #[.int .i64 r,.bool false] w fun e w'=>e=.returned (.string (TX (printL r false)))∧Below w.heap.size w w':=by
 by_cases hr:len r=0
 ·rw[print_none r false hr]
  have C:=utf.enc_no r w hr
  clear E hr
  go_enter Tryz.func40,Tryz.ntmps40
  go_wp2_with fail
  refine C.mono ?_
  rintro e w1⟨rfl,rfl⟩
  go_wp2
  go_ret
  exact⟨rfl,Below.refl _ _⟩
 ·have C:=utf.enc_yes r w hr E.mks
  have CV:=enc_text r w
  have hp:=utf.enc_pos r hr
  obtain⟨r0,r1,-⟩:=utf.len_cases r hr
  obtain⟨W,hW⟩:∃W,w.alloc (utf.encBlock r)=W:=⟨_,rfl⟩
  have bW:Below w.heap.size w W:=by rw[←hW];exact(Below.refl _ _).alloc (Nat.le_refl _) _
  rw[hW]at C CV
  have HB:Hid (Below w.heap.size w W):=bW
  have EW:=E.below bW
  have hbl:=World.block_lt_of_cell? W _ EW.bj
  simp only[]at hbl
  obtain⟨m,hm⟩:=EW.ml
  have HC:Hid (Lib.contains [46,91,40,41,124,42,43,63,123,94,36,92] (Lib.bytesOf (enc r))=decide (r∈marksO)):=has_print r false hr
  have hs:=TX_size (enc r)
  have HPL:Hid (printL r false=if r<32∨r=127 then[92,120,123]++hexU r++[125]else if r∈marksO then 92::enc r else enc r):=by unfold Hid printL;rw[if_neg hr];rfl
  have HX1:Hid (TX (92::enc r)=⟨#[92]⟩++TX (enc r)):=TX_app [92] (enc r)
  have HCT:Hid (∀W,W.cell? ⟨3,0,none⟩=some (.int .i64 m)→Calls Tryz.prog 56 #[.string ⟨#[46,91,40,41,124,42,43,63,123,94,36,92]⟩,.string (TX (enc r))] W fun e w'=>e=.returned (.bool (decide (r∈marksO)))∧w'=W):=fun W h=>by
   have:=Tryz.strings_Contains ⟨#[46,91,40,41,124,42,43,63,123,94,36,92]⟩ (TX (enc r)) m W (by decide) h
   rw[show Lib.contains (⟨#[46,91,40,41,124,42,43,63,123,94,36,92]⟩:ByteArray).data.toList (TX (enc r)).data.toList=decide (r∈marksO)from HC.out]at this
   exact this
  obtain⟨X,hX⟩:∃X,TX (enc r)=X:=⟨_,rfl⟩
  rw[hX]at CV hs HX1 HCT
  have HXE:Hid (TX (enc r)=X):=hX
  clear hX
  obtain⟨K,hK⟩:∃K,(enc r).length=K:=⟨_,rfl⟩
  rw[hK]at C CV hs hp
  by_cases hc:r<32∨r=127
  ·have HP2:Hid (printL r false=[92,120,123]++hexU r++[125]):=by unfold Hid;rw[HPL.out,if_pos hc]
   obtain⟨n,rfl⟩:∃n:Nat,r=n:=⟨r.toNat,by omega⟩
   have hn:n<128:=by omega
   have FM:=lin.fmt_any n W (by omega) EW.bj hbl
   have hup:=upper_low ⟨n,hn⟩
   have hll:=lin.lowL_len 1 n (by omega)
   have UP:∀W,Calls Tryz.prog 54 #[.string (BA (lin.lowL n))] W fun e w'=>e=.returned (.string (TX (hexU (n:Int))))∧Below W.heap.size W w':=fun W=>by
    have:=Tryz.strings_ToUpper_ascii (BA (lin.lowL n)) W (by rw[lin.BA_size];omega) (fun j b hb=>low_asc ⟨n,hn⟩ b (List.mem_of_getElem? hb))
    rw[show(⟨(Lib.toUpperA (BA (lin.lowL n)).data.toList).toArray⟩:ByteArray)=TX (hexU (n:Int))from by unfold TX;rw[←hup];rfl]at this
    exact this
   have HT:Hid (TX (printL (n:Int) false)=⟨#[92,120,123]⟩++TX (hexU (n:Int))++⟨#[125]⟩):=by unfold Hid;rw[HP2.out,TX_app,TX_app];rfl
   have hhs:(TX (hexU (n:Int))).size≤2:=by rw[TX_size];unfold hexU;split<;>simp
   have s1:ByteArray.size ⟨#[92,120,123]⟩=3:=rfl
   have s2:ByteArray.size ⟨#[125]⟩=1:=rfl
   rw[HT.out]
   obtain⟨Q,hQ⟩:∃Q,printL (n:Int) false=Q:=⟨_,rfl⟩
   clear hQ Q HT HP2 HPL HC HCT HX1 hup E EW
   generalize TX (hexU (n:Int))=H at*
   have d1:((⟨#[92,120,123]⟩:ByteArray)++H).size≤5:=by rw[ByteArray.size_append];show 3+H.size≤5;omega
   generalize BA (lin.lowL n)=LL at*
   rcases(show n<32∨n=127 from by omega)with h32|h127
   ·have c1:(n:Int)<32:=by omega
    clear hc
    go_enter Tryz.func40,Tryz.ntmps40
    go_wp2_with fail
    refine C.mono ?_
    rintro e w1⟨rfl,rfl⟩
    clear C
    go_wp2_with fail
    refine FM.mono ?_
    rintro e w2⟨rfl,hb2⟩
    go_wp2_with fail
    refine(UP _).mono ?_
    rintro e w3⟨rfl,hb3⟩
    generalize(⟨#[92,120,123]⟩:ByteArray)++H=Y at*
    go_wp2
    go_ret
    exact⟨rfl,(HB.out.trans (hb2.mono HB.out.size)).trans (hb3.mono (Nat.le_trans HB.out.size hb2.size))⟩
   ·subst h127
    clear hc
    go_enter Tryz.func40,Tryz.ntmps40
    go_wp2_with fail
    refine C.mono ?_
    rintro e w1⟨rfl,rfl⟩
    clear C
    go_wp2_with fail
    refine FM.mono ?_
    rintro e w2⟨rfl,hb2⟩
    go_wp2_with fail
    refine(UP _).mono ?_
    rintro e w3⟨rfl,hb3⟩
    generalize(⟨#[92,120,123]⟩:ByteArray)++H=Y at*
    go_wp2
    go_ret
    exact⟨rfl,(HB.out.trans (hb2.mono HB.out.size)).trans (hb3.mono (Nat.le_trans HB.out.size hb2.size))⟩
  ·have HP2:Hid (printL r false=if r∈marksO then 92::enc r else enc r):=by unfold Hid;rw[HPL.out,if_neg hc]
   have CT:=HCT.out W hm
   have c1:¬r<32:=by omega
   have c2:¬r=127:=by omega
   have c3:(r==127)=false:=by simp[c2]
   have s1:ByteArray.size ⟨#[92]⟩=1:=rfl
   by_cases hmk:r∈marksO
   ·have HT:Hid (TX (printL r false)=⟨#[92]⟩++X):=by unfold Hid;rw[HP2.out,if_pos hmk];exact HX1.out
    rw[HT.out]
    rw[decide_eq_true hmk]at CT
    clear HT HP2 HPL HC HCT HX1 E EW hc hmk
    go_enter Tryz.func40,Tryz.ntmps40
    go_wp2_with fail
    refine C.mono ?_
    rintro e w1⟨rfl,rfl⟩
    clear C
    go_wp2_with fail
    refine CT.mono ?_
    rintro e w2⟨rfl,rfl⟩
    go_wp2
    go_ret
    exact⟨rfl,HB.out⟩
   ·have HT:Hid (TX (printL r false)=X):=by unfold Hid;rw[HP2.out,if_neg hmk];exact HXE.out
    rw[HT.out]
    rw[decide_eq_false hmk]at CT
    clear HT HP2 HPL HC HCT HX1 E EW hc hmk HXE
    go_enter Tryz.func40,Tryz.ntmps40
    go_wp2_with fail
    refine C.mono ?_
    rintro e w1⟨rfl,rfl⟩
    clear C
    go_wp2_with fail
    refine CT.mono ?_
    rintro e w2⟨rfl,rfl⟩
    go_wp2
    go_ret
    exact⟨rfl,HB.out⟩
theorem print_true(r:Int)(w:World)(E:PEnv w):Calls Tryz.prog 40 #[.int .i64 r,.bool true] w fun e w'=>e=.returned (.string (TX (printL r true)))∧Below w.heap.size w w':=by
 by_cases hr:len r=0
 ·rw[print_none r true hr]
  have C:=utf.enc_no r w hr
  clear E hr
  go_enter Tryz.func40,Tryz.ntmps40
  go_wp2_with fail
  refine C.mono ?_
  rintro e w1⟨rfl,rfl⟩
  go_wp2
  go_ret
  exact⟨rfl,Below.refl _ _⟩
 ·have C:=utf.enc_yes r w hr E.mks
  have CV:=enc_text r w
  have hp:=utf.enc_pos r hr
  obtain⟨r0,r1,-⟩:=utf.len_cases r hr
  obtain⟨W,hW⟩:∃W,w.alloc (utf.encBlock r)=W:=⟨_,rfl⟩
  have bW:Below w.heap.size w W:=by rw[←hW];exact(Below.refl _ _).alloc (Nat.le_refl _) _
  rw[hW]at C CV
  have HB:Hid (Below w.heap.size w W):=bW
  have EW:=E.below bW
  have hbl:=World.block_lt_of_cell? W _ EW.bj
  simp only[]at hbl
  obtain⟨m,hm⟩:=EW.ml
  have HC:Hid (Lib.contains [91,93,94,45,38,126,92] (Lib.bytesOf (enc r))=decide (r∈marksC)):=has_print r true hr
  have hs:=TX_size (enc r)
  have HPL:Hid (printL r true=if r<32∨r=127 then[92,120,123]++hexU r++[125]else if r∈marksC then 92::enc r else enc r):=by unfold Hid printL;rw[if_neg hr];rfl
  have HX1:Hid (TX (92::enc r)=⟨#[92]⟩++TX (enc r)):=TX_app [92] (enc r)
  have HCT:Hid (∀W,W.cell? ⟨3,0,none⟩=some (.int .i64 m)→Calls Tryz.prog 56 #[.string ⟨#[91,93,94,45,38,126,92]⟩,.string (TX (enc r))] W fun e w'=>e=.returned (.bool (decide (r∈marksC)))∧w'=W):=fun W h=>by
   have:=Tryz.strings_Contains ⟨#[91,93,94,45,38,126,92]⟩ (TX (enc r)) m W (by decide) h
   rw[show Lib.contains (⟨#[91,93,94,45,38,126,92]⟩:ByteArray).data.toList (TX (enc r)).data.toList=decide (r∈marksC)from HC.out]at this
   exact this
  obtain⟨X,hX⟩:∃X,TX (enc r)=X:=⟨_,rfl⟩
  rw[hX]at CV hs HX1 HCT
  have HXE:Hid (TX (enc r)=X):=hX
  clear hX
  obtain⟨K,hK⟩:∃K,(enc r).length=K:=⟨_,rfl⟩
  rw[hK]at C CV hs hp
  by_cases hc:r<32∨r=127
  ·have HP2:Hid (printL r true=[92,120,123]++hexU r++[125]):=by unfold Hid;rw[HPL.out,if_pos hc]
   obtain⟨n,rfl⟩:∃n:Nat,r=n:=⟨r.toNat,by omega⟩
   have hn:n<128:=by omega
   have FM:=lin.fmt_any n W (by omega) EW.bj hbl
   have hup:=upper_low ⟨n,hn⟩
   have hll:=lin.lowL_len 1 n (by omega)
   have UP:∀W,Calls Tryz.prog 54 #[.string (BA (lin.lowL n))] W fun e w'=>e=.returned (.string (TX (hexU (n:Int))))∧Below W.heap.size W w':=fun W=>by
    have:=Tryz.strings_ToUpper_ascii (BA (lin.lowL n)) W (by rw[lin.BA_size];omega) (fun j b hb=>low_asc ⟨n,hn⟩ b (List.mem_of_getElem? hb))
    rw[show(⟨(Lib.toUpperA (BA (lin.lowL n)).data.toList).toArray⟩:ByteArray)=TX (hexU (n:Int))from by unfold TX;rw[←hup];rfl]at this
    exact this
   have HT:Hid (TX (printL (n:Int) true)=⟨#[92,120,123]⟩++TX (hexU (n:Int))++⟨#[125]⟩):=by unfold Hid;rw[HP2.out,TX_app,TX_app];rfl
   have hhs:(TX (hexU (n:Int))).size≤2:=by rw[TX_size];unfold hexU;split<;>simp
   have s1:ByteArray.size ⟨#[92,120,123]⟩=3:=rfl
   have s2:ByteArray.size ⟨#[125]⟩=1:=rfl
   rw[HT.out]
   obtain⟨Q,hQ⟩:∃Q,printL (n:Int) true=Q:=⟨_,rfl⟩
   clear hQ Q HT HP2 HPL HC HCT HX1 hup E EW
   generalize TX (hexU (n:Int))=H at*
   have d1:((⟨#[92,120,123]⟩:ByteArray)++H).size≤5:=by rw[ByteArray.size_append];show 3+H.size≤5;omega
   generalize BA (lin.lowL n)=LL at*
   rcases(show n<32∨n=127 from by omega)with h32|h127
   ·have c1:(n:Int)<32:=by omega
    clear hc
    go_enter Tryz.func40,Tryz.ntmps40
    go_wp2_with fail
    refine C.mono ?_
    rintro e w1⟨rfl,rfl⟩
    clear C
    go_wp2_with fail
    refine FM.mono ?_
    rintro e w2⟨rfl,hb2⟩
    go_wp2_with fail
    refine(UP _).mono ?_
    rintro e w3⟨rfl,hb3⟩
    generalize(⟨#[92,120,123]⟩:ByteArray)++H=Y at*
    go_wp2
    go_ret
    exact⟨rfl,(HB.out.trans (hb2.mono HB.out.size)).trans (hb3.mono (Nat.le_trans HB.out.size hb2.size))⟩
   ·subst h127
    clear hc
    go_enter Tryz.func40,Tryz.ntmps40
    go_wp2_with fail
    refine C.mono ?_
    rintro e w1⟨rfl,rfl⟩
    clear C
    go_wp2_with fail
    refine FM.mono ?_
    rintro e w2⟨rfl,hb2⟩
    go_wp2_with fail
    refine(UP _).mono ?_
    rintro e w3⟨rfl,hb3⟩
    generalize(⟨#[92,120,123]⟩:ByteArray)++H=Y at*
    go_wp2
    go_ret
    exact⟨rfl,(HB.out.trans (hb2.mono HB.out.size)).trans (hb3.mono (Nat.le_trans HB.out.size hb2.size))⟩
  ·have HP2:Hid (printL r true=if r∈marksC then 92::enc r else enc r):=by unfold Hid;rw[HPL.out,if_neg hc]
   have CT:=HCT.out W hm
   have c1:¬r<32:=by omega
   have c2:¬r=127:=by omega
   have c3:(r==127)=false:=by simp[c2]
   have s1:ByteArray.size ⟨#[92]⟩=1:=rfl
   by_cases hmk:r∈marksC
   ·have HT:Hid (TX (printL r true)=⟨#[92]⟩++X):=by unfold Hid;rw[HP2.out,if_pos hmk];exact HX1.out
    rw[HT.out]
    rw[decide_eq_true hmk]at CT
    clear HT HP2 HPL HC HCT HX1 E EW hc hmk
    go_enter Tryz.func40,Tryz.ntmps40
    go_wp2_with fail
    refine C.mono ?_
    rintro e w1⟨rfl,rfl⟩
    clear C
    go_wp2_with fail
    refine CT.mono ?_
    rintro e w2⟨rfl,rfl⟩
    go_wp2
    go_ret
    exact⟨rfl,HB.out⟩
   ·have HT:Hid (TX (printL r true)=X):=by unfold Hid;rw[HP2.out,if_neg hmk];exact HXE.out
    rw[HT.out]
    rw[decide_eq_false hmk]at CT
    clear HT HP2 HPL HC HCT HX1 E EW hc hmk HXE
    go_enter Tryz.func40,Tryz.ntmps40
    go_wp2_with fail
    refine C.mono ?_
    rintro e w1⟨rfl,rfl⟩
    clear C
    go_wp2_with fail
    refine CT.mono ?_
    rintro e w2⟨rfl,rfl⟩
    go_wp2
    go_ret
    exact⟨rfl,HB.out⟩
theorem print_any(r:Int)(cls:Bool)(w:World)(E:PEnv w):Calls Tryz.prog 40 #[.int .i64 r,.bool cls] w fun e w'=>e=.returned (.string (TX (printL r cls)))∧Below w.heap.size w w':=by
 cases cls
 ·exact print_false r w E
 ·exact print_true r w E
end Go.Proofs.YtbbeciofgnkggaaGreatDoor.tok
namespace Go.Proofs.YtbbeciofgnkggaaGreatDoor.tok
open Go.RowKit
open lin(BA Turns)
def rA(ao:Option Addr)(a cap:Nat):Option Addr:=if a<cap then ao.map (fun x=>⟨x.block,x.off+a,none⟩)else ao
theorem rdigit_any(x:Int)(w:World):Calls Tryz.prog 69 #[.int .u8 x] w fun e w'=>e=.returned (.bool (digitB x))∧w'=w:=by
 unfold digitB
 by_cases h1:48≤x<;>by_cases h2:x≤57
 all_goals first|(exfalso;omega)|skip
 all_goals go_enter Tryz.func69,Tryz.ntmps69
 all_goals go_wp2
 all_goals go_ret
 all_goals exact⟨by simp[*],rfl⟩
/--A letter of a name, or a stroke. -/
def lettB(x:Int):Bool:=letterB x||x==95
theorem rletter_any(x:Int)(w:World):Calls Tryz.prog 68 #[.int .u8 x] w fun e w'=>e=.returned (.bool (lettB x))∧w'=w:=by
 unfold lettB letterB
 by_cases h1:97≤x<;>by_cases h2:x≤122<;>by_cases h3:65≤x<;>by_cases h4:x≤90<;>by_cases h5:x=95
 all_goals first|(exfalso;omega)|skip
 all_goals first|subst h5|have h6:(x==95)=false:=by simp[h5]
 all_goals go_enter Tryz.func68,Tryz.ntmps68
 all_goals go_wp2
 all_goals go_ret
 all_goals exact⟨by simp[*],rfl⟩
def hexB(x:Int):Bool:=digitB x||(decide (97≤x)&&decide (x≤102))||(decide (65≤x)&&decide (x≤70))
end Go.Proofs.YtbbeciofgnkggaaGreatDoor.tok
namespace Go.Proofs.YtbbeciofgnkggaaGreatDoor.tok
open Go.RowKit
open lin(BA Turns)
def hasB(f:Nat→Int)(n:Nat):Nat→List UInt8→Bool
 |_,[]=>true
 |a,x::l=>at_ f n a (x.toNat:Int)&&hasB f n (a+1) l
/--Whether what is left is a beginning of a text, and not all of it. -/
def endsB(f:Nat→Int)(n:Nat):Nat→List UInt8→Bool
 |_,[]=>false
 |a,x::l=>decide (n≤a)||(at_ f n a (x.toNat:Int)&&endsB f n (a+1) l)
end Go.Proofs.YtbbeciofgnkggaaGreatDoor.tok
namespace Go.Proofs.YtbbeciofgnkggaaGreatDoor.tok
open Go.RowKit
open lin(BA Turns)
def cv(r:Int):Value:=.tuple #[.int .i64 r,.bool true]
end Go.Proofs.YtbbeciofgnkggaaGreatDoor.tok
namespace Go.Proofs.YtbbeciofgnkggaaGreatDoor.tok
open Go.RowKit
open lin(BA Turns)
def cntD(d:Int→Bool)(f:Nat→Int)(n:Nat):Nat→Nat→Nat
 |0,_=>0
 |m+1,a=>if a<n∧d (f a)=true then cntD d f n m (a+1)+1 else 0
/--The number that so many digits from a on say, behind acc. -/
def valD(base:Int)(f:Nat→Int):Nat→Nat→Int→Int
 |0,_,acc=>acc
 |m+1,a,acc=>valD base f m (a+1) (acc*base+dgV (f a) base)
/--The value of a row of decimal digits, if there is one. -/
def numV(f:Nat→Int)(n m a:Nat):Int:=if cntD digitB f n m a=0 then-1 else valD 10 f (cntD digitB f n m a) a 0
end Go.Proofs.YtbbeciofgnkggaaGreatDoor.tok
section
namespace Go.Proofs.YtbbeciofgnkggaaGreatDoor.tok
open Go.RowKit
open lin(BA)
section
variable(f:Nat→Int)(n:Nat)
theorem at_eq(a:Nat)(c:Int):at_ f n a c=true↔a<n∧f a=c:=by unfold at_;simp
theorem at_ne(a:Nat)(c:Int):at_ f n a c=false↔¬(a<n∧f a=c):=by rw[←at_eq f n a c];simp
end
end Go.Proofs.YtbbeciofgnkggaaGreatDoor.tok
end
namespace Go.Proofs.YtbbeciofgnkggaaGreatDoor.tok
open Go.RowKit
open lin(BA Turns)
abbrev T2(rb tb:Nat)(w w':World):Prop:=Turns (fun q=>q=rb∨q=tb) w w'
end Go.Proofs.YtbbeciofgnkggaaGreatDoor.tok
namespace Go.Proofs.YtbbeciofgnkggaaGreatDoor.tok
open Go.RowKit
open lin(BA Turns)
end Go.Proofs.YtbbeciofgnkggaaGreatDoor.tok
namespace Go.Proofs.YtbbeciofgnkggaaGreatDoor.tok
open Go.RowKit
open lin(BA Turns)
end Go.Proofs.YtbbeciofgnkggaaGreatDoor.tok
section
namespace Go.Proofs.YtbbeciofgnkggaaGreatDoor.tok
open Go.RowKit
open lin(BA)
section
variable(f:Nat→Int)(n:Nat)
/--The last test of both numbers. -/
def chk(st:Nat)(x y:Int)(e:Nat):Out (Int×Int):=if n≤e then .no 130 n else if x<0∨¬f e=125∨100<x∨100<y∨(0≤y∧y<x)then nope f st else .ok (x,y) (e+1)
def countsR(st a:Nat):Out (Int×Int):=
 if 0≤numV f n 3 a∧hasB f n (a+cntD digitB f n 3 a) [44]=true then chk f n st (numV f n 3 a) (numV f n 3 (a+cntD digitB f n 3 a+1)) (a+cntD digitB f n 3 a+1+cntD digitB f n 3 (a+cntD digitB f n 3 a+1))
 else chk f n st (numV f n 3 a) (numV f n 3 a) (a+cntD digitB f n 3 a)
end
end Go.Proofs.YtbbeciofgnkggaaGreatDoor.tok
end
namespace Go.Proofs.YtbbeciofgnkggaaGreatDoor.tok
open Go.RowKit
open lin(BA Turns)
end Go.Proofs.YtbbeciofgnkggaaGreatDoor.tok
namespace Go.Proofs.YtbbeciofgnkggaaGreatDoor.tok
open Go.RowKit
open lin(BA Turns)
end Go.Proofs.YtbbeciofgnkggaaGreatDoor.tok
namespace Go.Proofs.YtbbeciofgnkggaaGreatDoor.tok
open Go.RowKit
open lin(BA Turns)
end Go.Proofs.YtbbeciofgnkggaaGreatDoor.tok
namespace Go.Proofs.YtbbeciofgnkggaaGreatDoor.tok
open Go.RowKit
open lin(BA Turns)
end Go.Proofs.YtbbeciofgnkggaaGreatDoor.tok
namespace Go.Proofs.YtbbeciofgnkggaaGreatDoor.tok
open Go.RowKit
open lin(BA Turns)
end Go.Proofs.YtbbeciofgnkggaaGreatDoor.tok
namespace Go.Proofs.YtbbeciofgnkggaaGreatDoor.tok
open Go.RowKit
open lin(BA Turns)
end Go.Proofs.YtbbeciofgnkggaaGreatDoor.tok
namespace Go.Proofs.YtbbeciofgnkggaaGreatDoor.tok
open Go.RowKit
open lin(BA Turns)
end Go.Proofs.YtbbeciofgnkggaaGreatDoor.tok
namespace Go.Proofs.YtbbeciofgnkggaaGreatDoor.tok
open Go.RowKit
open lin(BA Turns)
end Go.Proofs.YtbbeciofgnkggaaGreatDoor.tok
namespace Go.Proofs.YtbbeciofgnkggaaGreatDoor.tok
open Go.RowKit
open lin(BA Turns)
end Go.Proofs.YtbbeciofgnkggaaGreatDoor.tok
namespace Go.Proofs.YtbbeciofgnkggaaGreatDoor.tok
open Go.RowKit
open lin(BA Turns)
end Go.Proofs.YtbbeciofgnkggaaGreatDoor.tok
namespace Go.Proofs.YtbbeciofgnkggaaGreatDoor.tok
open Go.RowKit
open lin(BA Turns at8 at8_eq)
def gdN(s:ByteArray)(p:Nat):Bool:=lettB (at8 s p)||(decide (0<p)&&digitB (at8 s p))
def isN(s:ByteArray):Bool:=decide ((∀p,p<s.size→gdN s p=true)∧1≤s.size∧s.size≤20)
theorem isN_bad{s:ByteArray}{p:Nat}(h:p<s.size)(hb:gdN s p=false):isN s=false:=by
 unfold isN
 rw[decide_eq_false_iff_not]
 intro q
 rw[q.1 p h]at hb
 cases hb
theorem isN_all{s:ByteArray}(h:∀p,p<s.size→gdN s p=true):isN s=(decide (1≤s.size)&&decide (s.size≤20)):=by
 unfold isN
 by_cases h1:1≤s.size<;>by_cases h2:s.size≤20<;>simp[h1,h2]
 exact h
theorem isName_any(s:ByteArray)(w:World)(hs:s.size≤140737488355327):
  Calls Tryz.prog 52 #[.string s] w fun e w'=>e=.returned (.bool (isN s))∧w'=w:=by
 obtain⟨R,hR⟩:∃R,isN s=R:=⟨_,rfl⟩
 rw[hR]
 have HR:Hid (isN s=R):=hR
 clear hR
 go_enter Tryz.func52,Tryz.ntmps52
 go_wp2
 go_loopw[3](fun i wr=>∃p:Nat,p≤s.size∧i=.int .i64 p∧Hid (∀j,j<p→gdN s j=true)∧wr=w)(fun i _=>s.size-(RowKit.intOf i).toNat)
 case atStart=>exact⟨0,Nat.zero_le _,rfl,fun j h=>absurd h (Nat.not_lt_zero _),rfl⟩
 case round=>
  obtain⟨p,hp,rfl,HN,hz⟩:=hrel
  subst hz
  by_cases hlt:p<s.size
  ·have hlt':(p:Int)<(s.size:Int):=by omega
   have LT:=fun W=>rletter_any ((s[p]'hlt).toNat:Int) W
   have DG:=fun W=>rdigit_any ((s[p]'hlt).toNat:Int) W
   have HG:Hid (gdN s p=(lettB ((s[p]'hlt).toNat:Int)||(decide (0<p)&&digitB ((s[p]'hlt).toNat:Int)))):=by unfold Hid gdN;rw[at8_eq s p hlt]
   have HN2:Hid (gdN s p=true→∀j,j<p+1→gdN s j=true):=fun g j h1=>by
    rcases Nat.lt_or_ge j p with h3|h3
    ·exact HN.out j h3
    ·obtain rfl:j=p:=by omega
     exact g
   clear HN
   cases hl:lettB ((s[p]'hlt).toNat:Int)with
   |true=>
    have HN3:Hid (∀j,j<p+1→gdN s j=true):=HN2.out (by rw[HG.out,hl];rfl)
    rw[hl]at LT
    clear HN2 HG DG hl
    go_wp2_with fail
    refine(LT _).mono ?_
    rintro e w1⟨rfl,rfl⟩
    go_wp2
    exact⟨⟨p+1,by omega,by go_num,HN3,by trivial⟩,by(first|simp[intOf]|simp[Go.RowKit.intOf]);omega⟩
   |false=>
    by_cases h0:p=0
    ·subst h0
     obtain rfl:R=false:=by rw[←HR.out];exact isN_bad hlt (by rw[HG.out,hl];rfl)
     rw[hl]at LT
     clear HN2 HG DG hl HR
     go_wp2_with fail
     refine(LT _).mono ?_
     rintro e w1⟨rfl,rfl⟩
     go_wp2
     go_ret
     exact⟨rfl,rfl⟩
    ·have h1:((p:Int)==0)=false:=by rw[beq_eq_false_iff_ne];omega
     have h2:decide (0<p)=true:=by simp;omega
     cases hd:digitB ((s[p]'hlt).toNat:Int)with
     |true=>
      have HN3:Hid (∀j,j<p+1→gdN s j=true):=HN2.out (by rw[HG.out,hl,hd,h2];rfl)
      rw[hl]at LT
      rw[hd]at DG
      clear HN2 HG hl hd h2
      go_wp2_with fail
      refine(LT _).mono ?_
      rintro e w1⟨rfl,rfl⟩
      go_wp2_with fail
      refine(DG _).mono ?_
      rintro e w1⟨rfl,rfl⟩
      go_wp2
      exact⟨⟨p+1,by omega,by go_num,HN3,by trivial⟩,by(first|simp[intOf]|simp[Go.RowKit.intOf]);omega⟩
     |false=>
      obtain rfl:R=false:=by rw[←HR.out];exact isN_bad hlt (by rw[HG.out,hl,hd,h2];rfl)
      rw[hl]at LT
      rw[hd]at DG
      clear HN2 HG hl hd h2 HR
      go_wp2_with fail
      refine(LT _).mono ?_
      rintro e w1⟨rfl,rfl⟩
      go_wp2_with fail
      refine(DG _).mono ?_
      rintro e w1⟨rfl,rfl⟩
      go_wp2
      go_ret
      exact⟨rfl,rfl⟩
  ·obtain rfl:p=s.size:=by omega
   have hlt':¬(s.size:Int)<(s.size:Int):=by omega
   have HQ:Hid (R=(decide (1≤s.size)&&decide (s.size≤20))):=by unfold Hid;rw[←HR.out];exact isN_all HN.out
   clear HR HN
   by_cases h1:1≤s.size
   ·have h1':(1:Int)≤(s.size:Int):=by omega
    by_cases h2:s.size≤20
    ·have h2':(s.size:Int)≤20:=by omega
     obtain rfl:R=true:=by rw[HQ.out];simp[h1,h2]
     clear HQ
     go_wp2
     go_ret
     exact⟨rfl,rfl⟩
    ·have h2':¬(s.size:Int)≤20:=by omega
     obtain rfl:R=false:=by rw[HQ.out];simp[h1,h2]
     clear HQ
     go_wp2
     go_ret
     exact⟨rfl,rfl⟩
   ·have h1':¬(1:Int)≤(s.size:Int):=by omega
    obtain rfl:R=false:=by rw[HQ.out];simp[h1]
    clear HQ
    go_wp2
    go_ret
    exact⟨rfl,rfl⟩
end Go.Proofs.YtbbeciofgnkggaaGreatDoor.tok
section
namespace Go.Proofs.YtbbeciofgnkggaaGreatDoor.tok
open lin(BA)
open utf(it len enc seg)
section
variable(f:Nat→Int)(n:Nat)
end
end Go.Proofs.YtbbeciofgnkggaaGreatDoor.tok
end
section
namespace Go.Proofs.YtbbeciofgnkggaaGreatDoor.tok
open Go.RowKit
open lin(BA at8)
section
variable(f:Nat→Int)(n:Nat)
/--How many of up to m bytes from a on are a name's. -/
def cntM:Nat→Nat→Bool→Nat
 |0,_,_=>0
 |m+1,a,first=>if a<n∧nmC (f a) first=true then cntM m (a+1) false+1 else 0
end
end Go.Proofs.YtbbeciofgnkggaaGreatDoor.tok
end
section
namespace Go.Proofs.YtbbeciofgnkggaaGreatDoor.tok
open Go.RowKit
open lin(BA at8)
section
variable(f:Nat→Int)(n:Nat)
end
end Go.Proofs.YtbbeciofgnkggaaGreatDoor.tok
end
namespace Go.Proofs.YtbbeciofgnkggaaGreatDoor.tok
open Go.RowKit
open lin(BA Turns)
def nmV(s:List UInt8):Value:=.tuple #[.string (BA s),.bool true]
def nmZ:Value:=.tuple #[.string (BA []),.bool false]
def nameO(f:Nat→Int)(n a D st:Nat)(ec:Int):Out (List UInt8):=
 if n≤a+D then .no 130 n else if D=0∨¬f (a+D)=62 then .no ec st else .ok (bytes f a (a+D)) (a+D+1)
end Go.Proofs.YtbbeciofgnkggaaGreatDoor.tok
namespace Go.Proofs.YtbbeciofgnkggaaGreatDoor.tok
open Go.RowKit
open lin(BA Turns)
end Go.Proofs.YtbbeciofgnkggaaGreatDoor.tok
namespace Go.Proofs.YtbbeciofgnkggaaGreatDoor.tok
open Go.RowKit
open lin(BA Turns)
end Go.Proofs.YtbbeciofgnkggaaGreatDoor.tok
namespace Go.Proofs.YtbbeciofgnkggaaGreatDoor.tok
open Go.RowKit
open lin(BA Turns)
def canV(X:ByteArray):List UInt8×Int:=if(nam.resolveV X).2.2=0 then(canonL (nam.resolveV X),0)else([],(nam.resolveV X).2.2)
theorem canonical_any(X:ByteArray)(w:World)(hs:X.size≤140737488355327):
  Calls Tryz.prog 51 #[.string X] w fun e w'=>e=.returned (.tuple #[.string (BA (canV X).1),.int .i64 (canV X).2])∧Below w.heap.size w w':=by
 have C:=nam.rresolve_any X w hs
 have hsm:=resolve_small X
 unfold canV
 obtain⟨⟨v1,v2,v3⟩,hV⟩:∃V,nam.resolveV X=V:=⟨_,rfl⟩
 rw[hV]at C hsm⊢
 simp only[]at C hsm⊢
 have hs1:ByteArray.size ⟨#[103,99,61]⟩=3:=rfl
 have hs2:ByteArray.size ⟨#[115,99,61]⟩=3:=rfl
 have hs3:(BA v2).size≤100:=hsm
 obtain⟨Y,hY⟩:∃Y,BA v2=Y:=⟨_,rfl⟩
 have HE1:Hid (BA ([103,99,61]++v2)=⟨#[103,99,61]⟩++Y):=by unfold Hid;rw[←hY];exact(nam.BA_app [103,99,61] v2).symm
 have HE2:Hid (BA ([115,99,61]++v2)=⟨#[115,99,61]⟩++Y):=by unfold Hid;rw[←hY];exact(nam.BA_app [115,99,61] v2).symm
 have HE3:Hid (BA v2=Y):=hY
 rw[hY]at hs3 C
 clear hY hV hsm hs
 by_cases hv:v3=0
 ·subst hv
  rw[if_pos rfl]
  rcases(show v1=1∨v1=2∨(¬v1=1∧¬v1=2)from by omega)with rfl|rfl|⟨n1,n2⟩
  ·rw[show canonL (1,v2,0)=[103,99,61]++v2 from rfl,HE1.out]
   go_enter Tryz.func51,Tryz.ntmps51
   go_wp2_with fail
   refine C.mono ?_
   rintro e w1⟨rfl,B1⟩
   clear C
   go_wp2
   go_ret2
   exact⟨rfl,B1⟩
  ·rw[show canonL (2,v2,0)=[115,99,61]++v2 from rfl,HE2.out]
   go_enter Tryz.func51,Tryz.ntmps51
   go_wp2_with fail
   refine C.mono ?_
   rintro e w1⟨rfl,B1⟩
   clear C
   go_wp2
   go_ret2
   exact⟨rfl,B1⟩
  ·rw[show canonL (v1,v2,0)=v2 from by simp[canonL,n1,n2],HE3.out]
   have m1:(v1==1)=false:=by simp[n1]
   have m2:(v1==2)=false:=by simp[n2]
   go_enter Tryz.func51,Tryz.ntmps51
   go_wp2_with fail
   refine C.mono ?_
   rintro e w1⟨rfl,B1⟩
   clear C
   go_wp2
   go_ret2
   exact⟨rfl,B1⟩
 ·rw[if_neg hv]
  have m1:(v3==0)=false:=by simp[hv]
  have m2:(v3 !=0)=true:=by simp[hv]
  go_enter Tryz.func51,Tryz.ntmps51
  go_wp2_with fail
  refine C.mono ?_
  rintro e w1⟨rfl,B1⟩
  clear C
  go_wp2
  go_ret2
  exact⟨rfl,B1⟩
end Go.Proofs.YtbbeciofgnkggaaGreatDoor.tok
