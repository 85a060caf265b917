import Derived.Test.YtbbeciofgnkggaaGreatDoorBqTok8
set_option linter.unusedSimpArgs false
set_option linter.unusedVariables false
set_option maxRecDepth 100000
set_option maxHeartbeats 40000000
namespace Go.Proofs.YtbbeciofgnkggaaGreatDoor.tok
open Go.RowKit
open utf(len enc)
open lin(BA Turns)
theorem rt_strq{a b:ByteArray}(h:a=b):Ending.returned (.string a)=.returned (.string b):=by rw[h]
theorem rpr_hex(r:Int)(cls:Bool)(w:World)(hr:len r≠0)(h0:0≤r)(h1:r<32∨r=127):Calls Tryz.prog 18 #[.int .i64 r,.bool cls] w fun e w'=>e=.returned (.string (TX (printL r cls)))∧Below w.heap.size w w':=by
 have C:=utf.renc_yes r w hr
 have CV:=enc_text r w
 obtain⟨W,hW⟩:∃W,w.alloc (utf.encBlock r)=W:=⟨_,rfl⟩
 have HB:Hid (Below w.heap.size w W):=by unfold Hid;rw[←hW];exact(Below.refl _ _).alloc (Nat.le_refl _) _
 rw[hW]at C CV
 clear hW
 have hp:=utf.enc_pos r hr
 have hs:=TX_size (enc r)
 clear hr
 rcases(show r=0∨r=1∨r=2∨r=3∨r=4∨r=5∨r=6∨r=7∨r=8∨r=9∨r=10∨r=11∨r=12∨r=13∨r=14∨r=15∨r=16∨r=17∨r=18∨r=19∨r=20∨r=21∨r=22∨r=23∨r=24∨r=25∨r=26∨r=27∨r=28∨r=29∨r=30∨r=31∨r=127 from by omega)with rfl|rfl|rfl|rfl|rfl|rfl|rfl|rfl|rfl|rfl|rfl|rfl|rfl|rfl|rfl|rfl|rfl|rfl|rfl|rfl|rfl|rfl|rfl|rfl|rfl|rfl|rfl|rfl|rfl|rfl|rfl|rfl|rfl
 all_goals
  cases cls
  all_goals
   clear h0 h1
   generalize hZ:TX (printL _ _)=Z
   have HZ:Hid (_=Z):=hZ
   clear hZ
   go_enter Tryz.func18,Tryz.ntmps18
   go_wp2_with fail
   refine C.mono ?_
   rintro e w1⟨rfl,rfl⟩
   clear C
   go_wp2
   go_ret
   exact⟨rt_strq (by rw[←HZ.out];decide+kernel),HB.out⟩
theorem rpr_none(r:Int)(cls:Bool)(w:World)(hr:len r=0):Calls Tryz.prog 18 #[.int .i64 r,.bool cls] w fun e w'=>e=.returned (.string (TX (printL r cls)))∧Below w.heap.size w w':=by
 rw[print_none r cls hr]
 have C:=utf.renc_no r w hr
 clear hr
 cases cls
 all_goals
  go_enter Tryz.func18,Tryz.ntmps18
  go_wp2_with fail
  refine C.mono ?_
  rintro e w1⟨rfl,rfl⟩
  clear C
  go_wp2
  go_ret
  exact⟨rfl,Below.refl _ _⟩
theorem rpr_plain_false(r:Int)(w:World)(hr:len r≠0)(h1:¬(r<32∨r=127))(h2:r∉marksO):Calls Tryz.prog 18 #[.int .i64 r,.bool false] w fun e w'=>e=.returned (.string (TX (printL r false)))∧Below w.heap.size w w':=by
 have C:=utf.renc_yes r w hr
 have CV:=enc_text r w
 obtain⟨W,hW⟩:∃W,w.alloc (utf.encBlock r)=W:=⟨_,rfl⟩
 have HB:Hid (Below w.heap.size w W):=by unfold Hid;rw[←hW];exact(Below.refl _ _).alloc (Nat.le_refl _) _
 rw[hW]at C CV
 clear hW
 have hp:=utf.enc_pos r hr
 have hs:=TX_size (enc r)
 have HT:Hid (TX (printL r false)=TX (enc r)):=by unfold Hid printL;rw[if_neg hr,if_neg h1];rw[if_neg (by first|exact h2|simpa using h2)]
 obtain⟨X,hX⟩:∃X,TX (enc r)=X:=⟨_,rfl⟩
 rw[hX]at CV hs HT
 obtain⟨K,hK⟩:∃K,(enc r).length=K:=⟨_,rfl⟩
 rw[hK]at C CV hs hp
 clear hX hK
 rw[HT.out]
 have c1:¬r<32:=by omega
 have c2:¬r=127:=by omega
 have c3:(r==127)=false:=by simp[c2]
 have G:∀(i:Nat)(h:i<12),wrap64 ((((⟨#[46,91,40,124,41,42,43,63,123,94,36,92]⟩:ByteArray)[i]'(h)).toNat:Int))∈marksO:=by decide+kernel
 have F:∀(i:Nat)(h:i<12),(wrap64 ((((⟨#[46,91,40,124,41,42,43,63,123,94,36,92]⟩:ByteArray)[i]'(h)).toNat:Int))==r)=false:=fun i h=>beq_false_of_ne fun e=>h2 (e▸G i h)
 have n0:=F 0 (by decide)
 have n1:=F 1 (by decide)
 have n2:=F 2 (by decide)
 have n3:=F 3 (by decide)
 have n4:=F 4 (by decide)
 have n5:=F 5 (by decide)
 have n6:=F 6 (by decide)
 have n7:=F 7 (by decide)
 have n8:=F 8 (by decide)
 have n9:=F 9 (by decide)
 have n10:=F 10 (by decide)
 have n11:=F 11 (by decide)
 clear HT hr h1 h2 F G
 go_enter Tryz.func18,Tryz.ntmps18
 go_wp2_with fail
 refine C.mono ?_
 rintro e w1⟨rfl,rfl⟩
 clear C
 go_wp2_with fail
 refine wp_loop_rounds 13 ?_
 iterate 13
  rw[rounds_succ]
  go_wp2
 go_ret
 exact⟨rfl,HB.out⟩
theorem rpr_mark_false(r:Int)(w:World)(hr:len r≠0)(h1:¬(r<32∨r=127))(h2:r∈marksO):Calls Tryz.prog 18 #[.int .i64 r,.bool false] w fun e w'=>e=.returned (.string (TX (printL r false)))∧Below w.heap.size w w':=by
 have C:=utf.renc_yes r w hr
 have CV:=enc_text r w
 obtain⟨W,hW⟩:∃W,w.alloc (utf.encBlock r)=W:=⟨_,rfl⟩
 have HB:Hid (Below w.heap.size w W):=by unfold Hid;rw[←hW];exact(Below.refl _ _).alloc (Nat.le_refl _) _
 rw[hW]at C CV
 clear hW
 have hp:=utf.enc_pos r hr
 have hs:=TX_size (enc r)
 have HT:Hid (TX (printL r false)=⟨#[92]⟩++TX (enc r)):=by unfold Hid printL;rw[if_neg hr,if_neg h1];rw[if_pos (by first|exact h2|simpa using h2)];exact TX_app [92] (enc r)
 obtain⟨X,hX⟩:∃X,TX (enc r)=X:=⟨_,rfl⟩
 rw[hX]at CV hs HT
 obtain⟨K,hK⟩:∃K,(enc r).length=K:=⟨_,rfl⟩
 rw[hK]at C CV hs hp
 clear hX hK
 rw[HT.out]
 have s1:ByteArray.size ⟨#[92]⟩=1:=rfl
 have G:∀(i:Nat)(h:i<12),wrap64 ((((⟨#[46,91,40,124,41,42,43,63,123,94,36,92]⟩:ByteArray)[i]'(h)).toNat:Int))=([46,91,40,124,41,42,43,63,123,94,36,92]:List Int)[i]'h:=by decide+kernel
 have n0:_=(46:Int):=G 0 (by decide)
 have n1:_=(91:Int):=G 1 (by decide)
 have n2:_=(40:Int):=G 2 (by decide)
 have n3:_=(124:Int):=G 3 (by decide)
 have n4:_=(41:Int):=G 4 (by decide)
 have n5:_=(42:Int):=G 5 (by decide)
 have n6:_=(43:Int):=G 6 (by decide)
 have n7:_=(63:Int):=G 7 (by decide)
 have n8:_=(123:Int):=G 8 (by decide)
 have n9:_=(94:Int):=G 9 (by decide)
 have n10:_=(36:Int):=G 10 (by decide)
 have n11:_=(92:Int):=G 11 (by decide)
 have h3:r=46∨r=91∨r=40∨r=41∨r=124∨r=42∨r=43∨r=63∨r=123∨r=94∨r=36∨r=92:=by simpa[marksO]using h2
 clear HT hr h1 h2 G
 rcases h3 with rfl|rfl|rfl|rfl|rfl|rfl|rfl|rfl|rfl|rfl|rfl|rfl
 all_goals
  go_enter Tryz.func18,Tryz.ntmps18
  go_wp2_with fail
  refine C.mono ?_
  rintro e w1⟨rfl,rfl⟩
  clear C
  go_wp2_with fail
  refine wp_loop_rounds 13 ?_
  repeat
   rw[rounds_succ]
   go_wp2
  go_ret
  exact⟨rfl,HB.out⟩
theorem rpr_plain_true(r:Int)(w:World)(hr:len r≠0)(h1:¬(r<32∨r=127))(h2:r∉marksC):Calls Tryz.prog 18 #[.int .i64 r,.bool true] w fun e w'=>e=.returned (.string (TX (printL r true)))∧Below w.heap.size w w':=by
 have C:=utf.renc_yes r w hr
 have CV:=enc_text r w
 obtain⟨W,hW⟩:∃W,w.alloc (utf.encBlock r)=W:=⟨_,rfl⟩
 have HB:Hid (Below w.heap.size w W):=by unfold Hid;rw[←hW];exact(Below.refl _ _).alloc (Nat.le_refl _) _
 rw[hW]at C CV
 clear hW
 have hp:=utf.enc_pos r hr
 have hs:=TX_size (enc r)
 have HT:Hid (TX (printL r true)=TX (enc r)):=by unfold Hid printL;rw[if_neg hr,if_neg h1];rw[if_neg (by first|exact h2|simpa using h2)]
 obtain⟨X,hX⟩:∃X,TX (enc r)=X:=⟨_,rfl⟩
 rw[hX]at CV hs HT
 obtain⟨K,hK⟩:∃K,(enc r).length=K:=⟨_,rfl⟩
 rw[hK]at C CV hs hp
 clear hX hK
 rw[HT.out]
 have c1:¬r<32:=by omega
 have c2:¬r=127:=by omega
 have c3:(r==127)=false:=by simp[c2]
 have G:∀(i:Nat)(h:i<7),wrap64 ((((⟨#[91,93,94,45,38,126,92]⟩:ByteArray)[i]'(h)).toNat:Int))∈marksC:=by decide+kernel
 have F:∀(i:Nat)(h:i<7),(wrap64 ((((⟨#[91,93,94,45,38,126,92]⟩:ByteArray)[i]'(h)).toNat:Int))==r)=false:=fun i h=>beq_false_of_ne fun e=>h2 (e▸G i h)
 have n0:=F 0 (by decide)
 have n1:=F 1 (by decide)
 have n2:=F 2 (by decide)
 have n3:=F 3 (by decide)
 have n4:=F 4 (by decide)
 have n5:=F 5 (by decide)
 have n6:=F 6 (by decide)
 clear HT hr h1 h2 F G
 go_enter Tryz.func18,Tryz.ntmps18
 go_wp2_with fail
 refine C.mono ?_
 rintro e w1⟨rfl,rfl⟩
 clear C
 go_wp2_with fail
 refine wp_loop_rounds 8 ?_
 iterate 8
  rw[rounds_succ]
  go_wp2
 go_ret
 exact⟨rfl,HB.out⟩
theorem rpr_mark_true(r:Int)(w:World)(hr:len r≠0)(h1:¬(r<32∨r=127))(h2:r∈marksC):Calls Tryz.prog 18 #[.int .i64 r,.bool true] w fun e w'=>e=.returned (.string (TX (printL r true)))∧Below w.heap.size w w':=by
 have C:=utf.renc_yes r w hr
 have CV:=enc_text r w
 obtain⟨W,hW⟩:∃W,w.alloc (utf.encBlock r)=W:=⟨_,rfl⟩
 have HB:Hid (Below w.heap.size w W):=by unfold Hid;rw[←hW];exact(Below.refl _ _).alloc (Nat.le_refl _) _
 rw[hW]at C CV
 clear hW
 have hp:=utf.enc_pos r hr
 have hs:=TX_size (enc r)
 have HT:Hid (TX (printL r true)=⟨#[92]⟩++TX (enc r)):=by unfold Hid printL;rw[if_neg hr,if_neg h1];rw[if_pos (by first|exact h2|simpa using h2)];exact TX_app [92] (enc r)
 obtain⟨X,hX⟩:∃X,TX (enc r)=X:=⟨_,rfl⟩
 rw[hX]at CV hs HT
 obtain⟨K,hK⟩:∃K,(enc r).length=K:=⟨_,rfl⟩
 rw[hK]at C CV hs hp
 clear hX hK
 rw[HT.out]
 have s1:ByteArray.size ⟨#[92]⟩=1:=rfl
 have G:∀(i:Nat)(h:i<7),wrap64 ((((⟨#[91,93,94,45,38,126,92]⟩:ByteArray)[i]'(h)).toNat:Int))=([91,93,94,45,38,126,92]:List Int)[i]'h:=by decide+kernel
 have n0:_=(91:Int):=G 0 (by decide)
 have n1:_=(93:Int):=G 1 (by decide)
 have n2:_=(94:Int):=G 2 (by decide)
 have n3:_=(45:Int):=G 3 (by decide)
 have n4:_=(38:Int):=G 4 (by decide)
 have n5:_=(126:Int):=G 5 (by decide)
 have n6:_=(92:Int):=G 6 (by decide)
 have h3:r=91∨r=93∨r=94∨r=45∨r=38∨r=126∨r=92:=by simpa[marksC]using h2
 clear HT hr h1 h2 G
 rcases h3 with rfl|rfl|rfl|rfl|rfl|rfl|rfl
 all_goals
  go_enter Tryz.func18,Tryz.ntmps18
  go_wp2_with fail
  refine C.mono ?_
  rintro e w1⟨rfl,rfl⟩
  clear C
  go_wp2_with fail
  refine wp_loop_rounds 8 ?_
  repeat
   rw[rounds_succ]
   go_wp2
  go_ret
  exact⟨rfl,HB.out⟩
theorem rprint_any(r:Int)(cls:Bool)(w:World):Calls Tryz.prog 18 #[.int .i64 r,.bool cls] w fun e w'=>e=.returned (.string (TX (printL r cls)))∧Below w.heap.size w w':=by
 by_cases hr:len r=0
 ·exact rpr_none r cls w hr
 obtain⟨r0,r1,-⟩:=utf.len_cases r hr
 by_cases h1:r<32∨r=127
 ·exact rpr_hex r cls w hr r0 h1
 cases cls
 ·by_cases h2:r∈marksO
  ·exact rpr_mark_false r w hr h1 h2
  ·exact rpr_plain_false r w hr h1 h2
 ·by_cases h2:r∈marksC
  ·exact rpr_mark_true r w hr h1 h2
  ·exact rpr_plain_true r w hr h1 h2
end Go.Proofs.YtbbeciofgnkggaaGreatDoor.tok
namespace Go.Proofs.YtbbeciofgnkggaaGreatDoor.tok
open Go.RowKit
open utf(len enc)
open lin(BA Turns)
end Go.Proofs.YtbbeciofgnkggaaGreatDoor.tok
