import Derived.Laws.BitsLemmas
import Derived.Test.YtbbeciofgnkggaaGreatDoorProg
import Derived.WalkKit
import Derived.WalkSpells
import Derived.WalkLawsBesides
import Derived.Outline
import Derived.Deep.LoopGhost
import Derived.Lib.Bytes
import Derived.Lib.Walk
import Derived.Deep.QuietTactic
import Derived.BigQuiet
import Derived.Lib.SliceRun
set_option linter.unusedSimpArgs false
set_option linter.unusedVariables false
set_option maxHeartbeats 400000
namespace Go.Proofs.YtbbeciofgnkggaaGreatDoor.utf
def sz(c:Int):Nat:=if c≤127 then 1 else if 194≤c∧c≤223 then 2 else if 224≤c∧c≤239 then 3 else if 240≤c∧c≤244 then 4 else 0
/--Its bits of the code point. -/
def hb(c:Int):Int:=if c≤127 then c else if 194≤c∧c≤223 then c%32 else if 224≤c∧c≤239 then c%16 else if 240≤c∧c≤244 then c%8 else 0
/--The least and the greatest second byte. -/
def lo(c:Int):Int:=if c=224 then 160 else if c=240 then 144 else 128
def hi(c:Int):Int:=if c=237 then 159 else if c=244 then 143 else 191
/--The least and the greatest byte at a place behind the first one. -/
def lob(c:Int)(a:Nat):Int:=if a=1 then lo c else 128
def hib(c:Int)(a:Nat):Int:=if a=1 then hi c else 191
theorem sz_le(c:Int):sz c≤4:=by unfold sz;(repeat' split)<;>omega
theorem hb_le(c:Int)(h:0≤c):0≤hb c∧hb c≤127:=by unfold hb;(repeat' split)<;>omega
theorem hb_small(c:Int)(h:0≤c):(2≤sz c→hb c≤31)∧(3≤sz c→hb c≤15)∧(4≤sz c→hb c≤7):=by unfold hb sz;(repeat' split)<;>omega
/--Going on behind the first byte: so many bytes are still asked for. The code point, the end, whether it is well-formed. -/
def run(f:Nat→Int)(n:Nat):Nat→Int→Nat→Int→Int→Int×Nat×Bool
 |0,r,e,_,_=>(r,e,true)
 |k+1,r,e,l,h=>if e<n∧l≤f e∧f e≤h then run f n k (r*64+f e%64) (e+1) 128 191 else(65533,e,false)
theorem run_stop(f:Nat→Int)(n k:Nat)(r:Int)(e:Nat)(l h:Int)(hk:k≠0)(hc:¬(e<n∧l≤f e∧f e≤h)):run f n k r e l h=(65533,e,false):=by
 cases k with
 |zero=>omega
 |succ k=>unfold run;rw[if_neg hc]
theorem run_go(f:Nat→Int)(n k:Nat)(r:Int)(e:Nat)(l h:Int)(hk:k≠0)(hc:e<n∧l≤f e∧f e≤h):run f n k r e l h=run f n (k-1) (r*64+f e%64) (e+1) 128 191:=by
 cases k with
 |zero=>omega
 |succ k=>rw[run,if_pos hc];rfl
/--The item at a place. -/
def it(f:Nat→Int)(n a:Nat):Int×Nat×Bool:=
 if sz (f a)=0 then(65533,a+1,false)else run f n (sz (f a)-1) (hb (f a)) (a+1) (lo (f a)) (hi (f a))
theorem run_end(f:Nat→Int)(n:Nat):∀k r e l h,e≤(run f n k r e l h).2.1∧(run f n k r e l h).2.1≤e+k∧(e≤n→(run f n k r e l h).2.1≤n):=by
 intro k
 induction k with
 |zero=>intro r e l h;simp[run]
 |succ k ih=>
  intro r e l h
  unfold run
  split
  ·have:=ih (r*64+f e%64) (e+1) 128 191
   omega
  ·simp
theorem it_end(f:Nat→Int)(n a:Nat)(ha:a<n):a<(it f n a).2.1∧(it f n a).2.1≤n∧(it f n a).2.1≤a+4:=by
 unfold it
 have:=sz_le (f a)
 split
 ·simp;omega
 ·have:=run_end f n (sz (f a)-1) (hb (f a)) (a+1) (lo (f a)) (hi (f a))
  omega
theorem run_shift(f:Nat→Int)(n d:Nat):∀k r e l h,run (fun i=>f (d+i)) n k r e l h=((run f (d+n) k r (d+e) l h).1,(run f (d+n) k r (d+e) l h).2.1-d,(run f (d+n) k r (d+e) l h).2.2):=by
 intro k
 induction k with
 |zero=>intro r e l h;simp[run]
 |succ k ih=>
  intro r e l h
  unfold run
  by_cases c:e<n∧l≤f (d+e)∧f (d+e)≤h
  ·rw[if_pos c,if_pos (by omega),ih]
   rfl
  ·rw[if_neg c,if_neg (by omega)]
   simp
theorem it_shift(f:Nat→Int)(n d a:Nat):it (fun i=>f (d+i)) n a=((it f (d+n) (d+a)).1,(it f (d+n) (d+a)).2.1-d,(it f (d+n) (d+a)).2.2):=by
 unfold it
 split
 ·simp;omega
 ·rw[run_shift]
  rfl
/--The items from a place on, with so much fuel: code point, beginning, end. -/
def dec(f:Nat→Int)(n:Nat):Nat→Nat→List (Int×Nat×Nat)
 |0,_=>[]
 |k+1,a=>if a<n then((it f n a).1,a,(it f n a).2.1)::dec f n k (it f n a).2.1 else[]
/--Whether all from a place on are well-formed. -/
def val(f:Nat→Int)(n:Nat):Nat→Nat→Bool
 |0,_=>true
 |k+1,a=>if a<n then(it f n a).2.2&&val f n k (it f n a).2.1 else true
theorem dec_fuel(f:Nat→Int)(n:Nat):∀k a,n≤a+k→∀m,n≤a+m→dec f n k a=dec f n m a:=by
 intro k
 induction k with
 |zero=>intro a h m hm;cases m with
  |zero=>rfl
  |succ m=>simp[dec];omega
 |succ k ih=>intro a h m hm;cases m with
  |zero=>simp[dec];omega
  |succ m=>
   simp only[dec]
   split
   ·rename_i ha
    have:=it_end f n a ha
    rw[ih _ (by omega) m (by omega)]
   ·rfl
theorem val_fuel(f:Nat→Int)(n:Nat):∀k a,n≤a+k→∀m,n≤a+m→val f n k a=val f n m a:=by
 intro k
 induction k with
 |zero=>intro a h m hm;cases m with
  |zero=>rfl
  |succ m=>simp[val];omega
 |succ k ih=>intro a h m hm;cases m with
  |zero=>simp[val];omega
  |succ m=>
   simp only[val]
   split
   ·rename_i ha
    have:=it_end f n a ha
    rw[ih _ (by omega) m (by omega)]
   ·rfl
/--All items from a place on; whether all are well-formed. -/
def items(f:Nat→Int)(n a:Nat):List (Int×Nat×Nat):=dec f n (n-a) a
def valid(f:Nat→Int)(n a:Nat):Bool:=val f n (n-a) a
theorem items_step(f:Nat→Int)(n a:Nat)(h:a<n):items f n a=((it f n a).1,a,(it f n a).2.1)::items f n (it f n a).2.1:=by
 have e:=it_end f n a h
 unfold items
 rw[show n-a=(n-a-1)+1 from by omega]
 simp only[dec]
 rw[if_pos h,dec_fuel f n (n-a-1) _ (by omega) (n-(it f n a).2.1) (by omega)]
theorem items_end(f:Nat→Int)(n a:Nat)(h:n≤a):items f n a=[]:=by
 unfold items
 rw[show n-a=0 from by omega]
 rfl
theorem valid_step(f:Nat→Int)(n a:Nat)(h:a<n):valid f n a=((it f n a).2.2&&valid f n (it f n a).2.1):=by
 have e:=it_end f n a h
 unfold valid
 rw[show n-a=(n-a-1)+1 from by omega]
 simp only[val]
 rw[if_pos h,val_fuel f n (n-a-1) _ (by omega) (n-(it f n a).2.1) (by omega)]
theorem valid_end(f:Nat→Int)(n a:Nat)(h:n≤a):valid f n a=true:=by
 unfold valid
 rw[show n-a=0 from by omega]
 rfl
end Go.Proofs.YtbbeciofgnkggaaGreatDoor.utf
namespace Go.Proofs.YtbbeciofgnkggaaGreatDoor.utf
open Go.RowKit
theorem ret_int{k:IntKind}{a b:Int}(h:a=b):Ending.returned (.int k a)=.returned (.int k b):=by rw[h]
theorem ret_two{k k':IntKind}{a b a' b':Int}(h:a=b)(h':a'=b'):Ending.returned (.tuple #[.int k a,.int k' a'])=.returned (.tuple #[.int k b,.int k' b']):=by rw[h,h']
theorem ret_bool{a b:Bool}(h:a=b):Ending.returned (.bool a)=.returned (.bool b):=by rw[h]
theorem i64_and63(x:Int)(h0:0≤x)(h1:x<9223372036854775808):bits .and .i64 x 63=x%64:=
 bits_mask .i64 63 (by decide) (fun n a b=>by rw[IntKind.wrap_i64];omega) 6 (by decide) x h0 (by simpa using h1)
theorem tail_eq(r:Int)(h0:0≤r)(h1:r≤1114111):bits BinOp.or IntKind.u8 128 (bits BinOp.and IntKind.i64 r 63%256)=128+r%64:=by
 rw[i64_and63 r h0 (by omega),u8_or128 _ (by omega) (by omega)]
 omega
theorem tail_any(r:Int)(w:World)(h0:0≤r)(h1:r≤1114111):
  Calls Tryz.prog 71 #[.int .i64 r] w fun e w'=>e=.returned (.int .u8 (128+r%64))∧w'=w:=by
 go_enter Tryz.func71,Tryz.ntmps71
 go_wp2
 go_ret
 exact⟨ret_int (tail_eq r h0 h1),rfl⟩
/--How many bytes a code point has; 0: none. -/
def len(r:Int):Int:=if r<0∨1114111<r∨(55296≤r∧r≤57343)then 0 else if r≤127 then 1 else if r≤2047 then 2 else if r≤65535 then 3 else 4
theorem size_any(r:Int)(w:World):
  Calls Tryz.prog 70 #[.int .i64 r] w fun e w'=>e=.returned (.int .i64 (len r))∧w'=w:=by
 go_enter Tryz.func70,Tryz.ntmps70
 go_wp2
 all_goals(go_ret;exact⟨ret_int (by unfold len;(repeat' split)<;>omega),rfl⟩)
theorem head_any(c:Int)(w:World)(h0:0≤c)(h1:c≤255):
  Calls Tryz.prog 158 #[.int .u8 c] w fun e w'=>e=.returned (.tuple #[.int .i64 (sz c),.int .i64 (hb c)])∧w'=w:=by
 have e31:=u8_and31 c h0 (by omega)
 have e15:=u8_and15 c h0 (by omega)
 have e7:=u8_and7 c h0 (by omega)
 go_enter Tryz.func158,Tryz.ntmps158
 go_wp2
 all_goals go_ret2
 all_goals exact⟨ret_two (by unfold sz;(repeat' split)<;>omega) (by unfold hb;(repeat' split)<;>omega),rfl⟩
theorem second_any(c:Int)(w:World)(h0:0≤c)(h1:c≤255):
  Calls Tryz.prog 159 #[.int .u8 c] w fun e w'=>e=.returned (.tuple #[.int .u8 (lo c),.int .u8 (hi c)])∧w'=w:=by
 go_enter Tryz.func159,Tryz.ntmps159
 go_wp2
 all_goals go_ret2
 all_goals exact⟨ret_two (by unfold lo;(repeat' split)<;>simp_all) (by unfold hi;(repeat' split)<;>simp_all),rfl⟩
end Go.Proofs.YtbbeciofgnkggaaGreatDoor.utf
namespace Go.Proofs.YtbbeciofgnkggaaGreatDoor.utf
open Go.RowKit
structure Marks(w:World):Prop where
 c1:w.cell? ⟨0,1,none⟩=some (.int .u8 0)
 c2:w.cell? ⟨0,2,none⟩=some (.int .u8 192)
 c3:w.cell? ⟨0,3,none⟩=some (.int .u8 224)
 c4:w.cell? ⟨0,4,none⟩=some (.int .u8 240)
theorem Marks.below{w w':World}(h:Marks w)(hb:Below w.heap.size w w'):Marks w':=
 ⟨(hb.cell (World.block_lt_of_cell? w _ h.c1)).trans h.c1,(hb.cell (World.block_lt_of_cell? w _ h.c2)).trans h.c2,(hb.cell (World.block_lt_of_cell? w _ h.c3)).trans h.c3,(hb.cell (World.block_lt_of_cell? w _ h.c4)).trans h.c4⟩
theorem Marks.alloc{w:World}(h:Marks w)(o:Obj):Marks (w.alloc o):=h.below ((Below.refl _ _).alloc (Nat.le_refl _) o)
theorem enc_no(r:Int)(w:World)(h:len r=0):
  Calls Tryz.prog 53 #[.int .i64 r] w fun e w'=>e=.returned (.tuple #[.slice none 0 0,.bool false])∧w'=w:=by
 go_enter Tryz.func53,Tryz.ntmps53
 go_wp2_with(go_at_call 70;refine(size_any _ _).mono ?_;rintro e w'⟨rfl,rfl⟩)
 go_ret2
 exact⟨rfl,rfl⟩
theorem or192(r:Int)(h0:0≤r)(h1:r≤2047):bits .or .u8 192 (r/64%256)=192+r/64:=by
 rw[u8_or192 _ (by omega) (by omega)];omega
theorem or224(r:Int)(h0:0≤r)(h1:r≤65535):bits .or .u8 224 (r/64/64%256)=224+r/64/64:=by
 rw[u8_or224 _ (by omega) (by omega)];omega
theorem or240(r:Int)(h0:0≤r)(h1:r≤1114111):bits .or .u8 240 (r/64/64/64%256)=240+r/64/64/64:=by
 rw[u8_or240 _ (by omega) (by omega)];omega
theorem or0(r:Int)(h0:0≤r)(h1:r≤127):bits .or .u8 0 r=r:=by
 rw[show bits .or .u8 0 r=0+r from bits_join .u8 8 (by decide) wraps_u8 7 0 r (by decide) (by decide) (by decide) (by omega) (by omega) (by omega)]
 omega
theorem enc_1(r:Int)(w:World)(h:len r=1)(h0:0≤r)(h1:r≤127)(hm:Marks w):
  Calls Tryz.prog 53 #[.int .i64 r] w fun e w'=>e=.returned (.tuple #[.slice (some ⟨w.heap.size,0,none⟩) 1 1,.bool true])∧w'=w.alloc (.cells #[.int .u8 r] 5):=by
 have hm2:=fun o=>(hm.alloc o).c1
 have ho:=or0 r h0 h1
 clear hm
 have hmk:∀w,(Instr.makeSlice 47 (.int .i64 1) (.int .i64 1)).run Tryz.prog w=.ok (.slice (some ⟨w.heap.size,0,none⟩) 1 1) (w.alloc (.cells #[.int .u8 0] 5)):=fun _=>by kernel_rfl
 go_enter Tryz.func53,Tryz.ntmps53
 go_wp2_with(first|(go_at_call 70;refine(size_any _ _).mono ?_;rintro e w'⟨rfl,rfl⟩)|(go_at_call 71;refine(tail_any _ _ (by omega) (by omega)).mono ?_;rintro e w'⟨rfl,rfl⟩))
 go_ret2
 exact⟨rfl,rfl⟩
theorem enc_2(r:Int)(w:World)(h:len r=2)(h0:0≤r)(h1:r≤2047)(hm:Marks w):
  Calls Tryz.prog 53 #[.int .i64 r] w fun e w'=>e=.returned (.tuple #[.slice (some ⟨w.heap.size,0,none⟩) 2 2,.bool true])∧w'=w.alloc (.cells #[.int .u8 (192+r/64),.int .u8 (128+r%64)] 5):=by
 have hm2:=fun o=>(hm.alloc o).c2
 have ho:=or192 r h0 h1
 clear hm
 have hmk:∀w,(Instr.makeSlice 47 (.int .i64 2) (.int .i64 2)).run Tryz.prog w=.ok (.slice (some ⟨w.heap.size,0,none⟩) 2 2) (w.alloc (.cells #[.int .u8 0,.int .u8 0] 5)):=fun _=>by kernel_rfl
 go_enter Tryz.func53,Tryz.ntmps53
 go_wp2_with(first|(go_at_call 70;refine(size_any _ _).mono ?_;rintro e w'⟨rfl,rfl⟩)|(go_at_call 71;refine(tail_any _ _ (by omega) (by omega)).mono ?_;rintro e w'⟨rfl,rfl⟩))
 go_ret2
 exact⟨rfl,rfl⟩
theorem enc_3(r:Int)(w:World)(h:len r=3)(h0:0≤r)(h1:r≤65535)(hm:Marks w):
  Calls Tryz.prog 53 #[.int .i64 r] w fun e w'=>e=.returned (.tuple #[.slice (some ⟨w.heap.size,0,none⟩) 3 3,.bool true])∧w'=w.alloc (.cells #[.int .u8 (224+r/64/64),.int .u8 (128+r/64%64),.int .u8 (128+r%64)] 5):=by
 have hm2:=fun o=>(hm.alloc o).c3
 have ho:=or224 r h0 h1
 clear hm
 have hmk:∀w,(Instr.makeSlice 47 (.int .i64 3) (.int .i64 3)).run Tryz.prog w=.ok (.slice (some ⟨w.heap.size,0,none⟩) 3 3) (w.alloc (.cells #[.int .u8 0,.int .u8 0,.int .u8 0] 5)):=fun _=>by kernel_rfl
 go_enter Tryz.func53,Tryz.ntmps53
 go_wp2_with(first|(go_at_call 70;refine(size_any _ _).mono ?_;rintro e w'⟨rfl,rfl⟩)|(go_at_call 71;refine(tail_any _ _ (by omega) (by omega)).mono ?_;rintro e w'⟨rfl,rfl⟩))
 go_ret2
 exact⟨rfl,rfl⟩
theorem enc_4(r:Int)(w:World)(h:len r=4)(h0:0≤r)(h1:r≤1114111)(hm:Marks w):
  Calls Tryz.prog 53 #[.int .i64 r] w fun e w'=>e=.returned (.tuple #[.slice (some ⟨w.heap.size,0,none⟩) 4 4,.bool true])∧w'=w.alloc (.cells #[.int .u8 (240+r/64/64/64),.int .u8 (128+r/64/64%64),.int .u8 (128+r/64%64),.int .u8 (128+r%64)] 5):=by
 have hm2:=fun o=>(hm.alloc o).c4
 have ho:=or240 r h0 h1
 clear hm
 have hmk:∀w,(Instr.makeSlice 47 (.int .i64 4) (.int .i64 4)).run Tryz.prog w=.ok (.slice (some ⟨w.heap.size,0,none⟩) 4 4) (w.alloc (.cells #[.int .u8 0,.int .u8 0,.int .u8 0,.int .u8 0] 5)):=fun _=>by kernel_rfl
 go_enter Tryz.func53,Tryz.ntmps53
 go_wp2_with(first|(go_at_call 70;refine(size_any _ _).mono ?_;rintro e w'⟨rfl,rfl⟩)|(go_at_call 71;refine(tail_any _ _ (by omega) (by omega)).mono ?_;rintro e w'⟨rfl,rfl⟩))
 go_ret2
 exact⟨rfl,rfl⟩
/--A code point's bytes. -/
def enc(r:Int):List Int:=
 if len r=1 then[r]else if len r=2 then[192+r/64,128+r%64]else if len r=3 then[224+r/64/64,128+r/64%64,128+r%64]
 else if len r=4 then[240+r/64/64/64,128+r/64/64%64,128+r/64%64,128+r%64]else[]
theorem len_cases(r:Int)(h:len r≠0):0≤r∧r≤1114111∧¬(55296≤r∧r≤57343)∧((len r=1∧r≤127)∨(len r=2∧127<r∧r≤2047)∨(len r=3∧2047<r∧r≤65535)∨(len r=4∧65535<r)):=by
 unfold len at h⊢;revert h;(repeat' split)<;>omega
/--The block of a code point's bytes. -/
def encBlock(r:Int):Obj:=.cells ((enc r).map (Value.int .u8)).toArray 5
theorem enc_yes(r:Int)(w:World)(h:len r≠0)(hm:Marks w):
  Calls Tryz.prog 53 #[.int .i64 r] w fun e w'=>e=.returned (.tuple #[.slice (some ⟨w.heap.size,0,none⟩) (enc r).length (enc r).length,.bool true])∧w'=w.alloc (encBlock r):=by
 obtain⟨h0,h1,_,c|c|c|c⟩:=len_cases r h
 ·have e:enc r=[r]:=by unfold enc;rw[if_pos c.1]
  rw[e,encBlock,e];exact enc_1 r w c.1 h0 c.2 hm
 ·have e:enc r=[192+r/64,128+r%64]:=by unfold enc;rw[if_neg (by omega),if_pos c.1]
  rw[e,encBlock,e];exact enc_2 r w c.1 h0 c.2.2 hm
 ·have e:enc r=[224+r/64/64,128+r/64%64,128+r%64]:=by unfold enc;rw[if_neg (by omega),if_neg (by omega),if_pos c.1]
  rw[e,encBlock,e];exact enc_3 r w c.1 h0 c.2.2 hm
 ·have e:enc r=[240+r/64/64/64,128+r/64/64%64,128+r/64%64,128+r%64]:=by unfold enc;rw[if_neg (by omega),if_neg (by omega),if_neg (by omega),if_pos c.1]
  rw[e,encBlock,e];exact enc_4 r w c.1 h0 h1 hm
theorem renc_no(r:Int)(w:World)(h:len r=0):
  Calls Tryz.prog 27 #[.int .i64 r] w fun e w'=>e=.returned (.tuple #[.slice none 0 0,.bool false])∧w'=w:=by
 have hc:r<0∨1114111<r∨(55296≤r∧r≤57343):=by unfold len at h;revert h;(repeat' split)<;>omega
 clear h
 rcases hc with hc|hc|hc
 ·go_enter Tryz.func27,Tryz.ntmps27
  go_wp2
  all_goals(go_ret2;exact⟨rfl,rfl⟩)
 ·have hp:0≤r:=by omega
  go_enter Tryz.func27,Tryz.ntmps27
  go_wp2
  all_goals(go_ret2;exact⟨rfl,rfl⟩)
 ·have hp:0≤r:=by omega
  have hq:r≤1114111:=by omega
  obtain⟨hc1,hc2⟩:=hc
  go_enter Tryz.func27,Tryz.ntmps27
  go_wp2
  all_goals(go_ret2;exact⟨rfl,rfl⟩)
theorem renc_yes(r:Int)(w:World)(h:len r≠0):
  Calls Tryz.prog 27 #[.int .i64 r] w fun e w'=>e=.returned (.tuple #[.slice (some ⟨w.heap.size,0,none⟩) (enc r).length (enc r).length,.bool true])∧w'=w.alloc (encBlock r):=by
 obtain⟨h0,h1,h2,c|c|c|c⟩:=len_cases r h
 ·have e:enc r=[r]:=by unfold enc;rw[if_pos c.1]
  rw[encBlock,e]
  obtain⟨_,c2⟩:=c
  clear e h h2
  go_enter Tryz.func27,Tryz.ntmps27
  go_wp2
  go_ret2
  exact⟨rfl,rfl⟩
 ·have e:enc r=[192+r/64,128+r%64]:=by unfold enc;rw[if_neg (by omega),if_pos c.1]
  rw[encBlock,e]
  obtain⟨_,c2,c3⟩:=c
  clear e h h2
  go_enter Tryz.func27,Tryz.ntmps27
  go_wp2
  go_ret2
  exact⟨rfl,rfl⟩
 ·have e:enc r=[224+r/64/64,128+r/64%64,128+r%64]:=by unfold enc;rw[if_neg (by omega),if_neg (by omega),if_pos c.1]
  rw[encBlock,e,show r/64/64=r/4096 from by omega]
  obtain⟨_,c2,c3⟩:=c
  clear e h
  rcases(show r<55296∨57343<r from by omega)with g|g
  ·clear h2
   go_enter Tryz.func27,Tryz.ntmps27
   go_wp2
   go_ret2
   exact⟨rfl,rfl⟩
  ·clear h2
   go_enter Tryz.func27,Tryz.ntmps27
   go_wp2
   go_ret2
   exact⟨rfl,rfl⟩
 ·have e:enc r=[240+r/64/64/64,128+r/64/64%64,128+r/64%64,128+r%64]:=by unfold enc;rw[if_neg (by omega),if_neg (by omega),if_neg (by omega),if_pos c.1]
  rw[encBlock,e,show r/64/64/64=r/262144 from by omega,show r/64/64=r/4096 from by omega]
  obtain⟨_,c2⟩:=c
  have g:57343<r:=by omega
  clear e h h2
  go_enter Tryz.func27,Tryz.ntmps27
  go_wp2
  go_ret2
  exact⟨rfl,rfl⟩
end Go.Proofs.YtbbeciofgnkggaaGreatDoor.utf
namespace Go.Proofs.YtbbeciofgnkggaaGreatDoor.utf
def Tail(c:Int):Prop:=128≤c∧c≤191
theorem reach(f:Nat→Int)(n e:Nat)(he:e<n)(P:∀a,a<e→(it f n a).2.1≤e):∀m a,e-a=m→a≤e→∃pre,items f n a=pre++items f n e:=by
 intro m
 induction m using Nat.strongRecOn with
 |ind m ih=>
  intro a hm hae
  rcases Nat.eq_or_lt_of_le hae with rfl|h
  ·exact⟨[],rfl⟩
  ·have hE:=it_end f n a (by omega)
   obtain⟨pre,hp⟩:=ih (e-(it f n a).2.1) (by have:=P a h;omega) _ rfl (P a h)
   exact⟨((it f n a).1,a,(it f n a).2.1)::pre,by rw[items_step f n a (by omega),hp];rfl⟩
/--A place from which reading on ends with the last item. -/
def Edge(f:Nat→Int)(n e:Nat):Prop:=e<n∧(e=0∨¬Tail (f e)∨(n=e+4∧∀j,e≤j→j<n→Tail (f j)))
end Go.Proofs.YtbbeciofgnkggaaGreatDoor.utf
namespace Go.Proofs.YtbbeciofgnkggaaGreatDoor.utf
open Go.RowKit
theorem cells_alloc{w:World}{b off n:Nat}{g:Nat→Value}(hc:∀i,i<n→w.cell? ⟨b,off+i,none⟩=some (g i))(o:Obj):∀i,i<n→(w.alloc o).cell? ⟨b,off+i,none⟩=some (g i):=
 fun i hi=>(World.cell?_alloc_past o b (off+i) (World.block_lt_of_cell? w _ (hc i hi))).trans (hc i hi)
theorem item_zero(b off n cap:Nat)(f:Nat→Int)(a:Nat)(w:World)(hc:∀i,i<n→w.cell? ⟨b,off+i,none⟩=some (.int .u8 (f i)))
  (ha:a<n)(hn:n≤9223372036854775807)(hf:∀i,0≤f i∧f i≤255)(hz:sz (f a)=0):
  Calls Tryz.prog 149 #[.slice (some ⟨b,off,none⟩) n cap,.int .i64 a] w fun e w'=>
   e=.returned (.tuple #[.agg #[.int .i64 65533,.int .i64 a,.int .i64 (a+1:Nat)],.bool false])∧Below w.heap.size w w':=by
 have hca:=fun o=>cells_alloc hc o a ha
 have hfa:=hf a
 clear hc hf
 generalize f a=c at*
 obtain⟨hc0,hc1⟩:=hfa
 go_enter Tryz.func149,Tryz.ntmps149
 go_wp2_with(go_at_call 158;refine(head_any _ _ hc0 hc1).mono ?_;rintro e w'⟨rfl,rfl⟩)
 refine bodyPost_ret (v:=.tuple #[.agg #[.int .i64 65533,.int .i64 a,.int .i64 (a+1:Nat)],.bool false]) (by simp[results,Tryz.results149,go_sem]) rfl ⟨rfl,?_⟩
 exact(Below.refl _ _).alloc (Nat.le_refl _) _
theorem or_tail(r c:Int)(h0:0≤r)(h1:r≤8388607)(hc:0≤c):bits BinOp.or IntKind.i64 (r*64) (c%64)=r*64+c%64:=
 bits_join .i64 63 (by decide) (fun n a b=>by rw[IntKind.wrap_i64];omega) 6 _ _ (by omega) (by omega) (by omega) (by omega) (by omega) (by omega)
theorem item_more(b off n cap:Nat)(f:Nat→Int)(a:Nat)(w:World)(hc:∀i,i<n→w.cell? ⟨b,off+i,none⟩=some (.int .u8 (f i)))
  (ha:a<n)(hn:n≤9223372036854775807)(hf:∀i,0≤f i∧f i≤255)(hz:1≤sz (f a)):
  Calls Tryz.prog 149 #[.slice (some ⟨b,off,none⟩) n cap,.int .i64 a] w fun e w'=>
   e=.returned (.tuple #[.agg #[.int .i64 (it f n a).1,.int .i64 a,.int .i64 (it f n a).2.1],.bool (it f n a).2.2])∧Below w.heap.size w w':=by
 have HC:Hid (∀i,i<n→w.cell? ⟨b,off+i,none⟩=some (.int .u8 (f i))):=hc
 have HF:Hid (∀i,0≤f i∧f i≤255):=hf
 have hca:=fun o=>cells_alloc hc o a ha
 have hfa:=hf a
 have hs4:=sz_le (f a)
 have hbl:=hb_le (f a) hfa.1
 have hbs:=hb_small (f a) hfa.1
 have HIT:Hid (it f n a=run f n (sz (f a)-1) (hb (f a)) (a+1) (lo (f a)) (hi (f a))):=by unfold it;rw[if_neg (by omega)];rfl
 clear hc hf
 obtain⟨hc0,hc1⟩:=hfa
 go_enter Tryz.func149,Tryz.ntmps149
 go_wp2_with(first|(go_at_call 158;refine(head_any _ _ hc0 hc1).mono ?_;rintro e w'⟨rfl,rfl⟩)|(go_at_call 159;refine(second_any _ _ hc0 hc1).mono ?_;rintro e w'⟨rfl,rfl⟩))
 go_loop[7,8,9,10](fun r e l h=>∃(k:Nat)(ρ:Int)(ε:Nat)(l0 h0:Int),r=.int .i64 ρ∧e=.int .i64 ε∧l=.int .u8 l0∧h=.int .u8 h0∧ε+k=a+sz (f a)∧ε≤n∧a+1≤ε∧0≤ρ∧ρ≤8388607∧
   Hid ((k=1→ρ≤131071)∧(k=2→ρ≤2047)∧(k=3→ρ≤31))∧Hid (run f n k ρ ε l0 h0=it f n a))(fun _ e _ _=>a+4-(intOf e).toNat)
 case atStart=>exact⟨sz (f a)-1,hb (f a),a+1,lo (f a),hi (f a),rfl,by go_num,rfl,rfl,by omega,by omega,by omega,hbl.1,by omega,(by unfold Hid;omega),HIT.out.symm⟩
 case round=>
  obtain⟨k,ρ,ε,l0,h0,rfl,rfl,rfl,rfl,hεk,hεn,haε,hρ0,hρ1,HB,HR⟩:=hrel
  clear hbl hbs hca
  by_cases hk:k=0
  ·subst hk
   have HI:Hid (it f n a=(ρ,ε,true)):=HR.out.symm
   have hstop2:¬(ε:Int)-a<sz (f a):=by omega
   clear HB HR
   go_wp2
   refine bodyPost_ret (v:=.tuple #[.agg #[.int .i64 ρ,.int .i64 a,.int .i64 ε],.bool true]) (by simp[results,Tryz.results149,go_sem]) rfl ⟨by rw[HI.out],?_⟩
   exact(Below.refl _ _).alloc (Nat.le_refl _) _
  ·have hgo:(ε:Int)-a<sz (f a):=by omega
   by_cases he:ε=n
   ·have HI:Hid (it f n a=(65533,ε,false)):=HR.out.symm.trans (run_stop f n k ρ ε l0 h0 hk (by omega))
    have heq:((ε:Int)==(n:Int))=true:=by simp;omega
    clear HB HR hk he
    go_wp2
    refine bodyPost_ret (v:=.tuple #[.agg #[.int .i64 65533,.int .i64 a,.int .i64 ε],.bool false]) (by simp[results,Tryz.results149,go_sem]) rfl ⟨by rw[HI.out],?_⟩
    exact(Below.refl _ _).alloc (Nat.le_refl _) _
   ·have hlt:ε<n:=by omega
    have hce:=fun o=>cells_alloc HC.out o ε hlt
    obtain⟨hd0,hd1⟩:=HF.out ε
    have heq:((ε:Int)==(n:Int))=false:=by simp;omega
    clear he
    by_cases h1:f ε<l0
    ·have HI:Hid (it f n a=(65533,ε,false)):=HR.out.symm.trans (run_stop f n k ρ ε l0 h0 hk (by omega))
     clear HB HR hk
     go_wp2
     refine bodyPost_ret (v:=.tuple #[.agg #[.int .i64 65533,.int .i64 a,.int .i64 ε],.bool false]) (by simp[results,Tryz.results149,go_sem]) rfl ⟨by rw[HI.out],?_⟩
     exact(Below.refl _ _).alloc (Nat.le_refl _) _
    ·have h1':l0≤f ε:=by omega
     clear h1
     by_cases h2:h0<f ε
     ·have HI:Hid (it f n a=(65533,ε,false)):=HR.out.symm.trans (run_stop f n k ρ ε l0 h0 hk (by omega))
      clear HB HR hk
      go_wp2
      refine bodyPost_ret (v:=.tuple #[.agg #[.int .i64 65533,.int .i64 a,.int .i64 ε],.bool false]) (by simp[results,Tryz.results149,go_sem]) rfl ⟨by rw[HI.out],?_⟩
      exact(Below.refl _ _).alloc (Nat.le_refl _) _
     ·have h2':f ε≤h0:=by omega
      have HI:Hid (run f n (k-1) (ρ*64+f ε%64) (ε+1) 128 191=it f n a):=(run_go f n k ρ ε l0 h0 hk (by omega)).symm.trans HR.out
      have hρ2:ρ≤131071:=by have:=HB.out;omega
      have HB2:Hid ((k-1=1→ρ*64+f ε%64≤131071)∧(k-1=2→ρ*64+f ε%64≤2047)∧(k-1=3→ρ*64+f ε%64≤31)):=by have:=HB.out;unfold Hid;omega
      have e63:=u8_and63 (f ε) hd0 (by omega)
      have eor:=or_tail ρ (f ε) hρ0 hρ1 hd0
      clear HB HR h2
      go_wp2
      go_round
      case rel=>exact⟨k-1,ρ*64+f ε%64,ε+1,128,191,rfl,by go_num,rfl,rfl,by omega,by omega,by omega,by omega,by omega,HB2,HI⟩
      case measure=>simp[intOf];omega
/--The item at a place of a row of bytes. -/
theorem item_any(b off n cap:Nat)(f:Nat→Int)(a:Nat)(w:World)(hc:∀i,i<n→w.cell? ⟨b,off+i,none⟩=some (.int .u8 (f i)))
  (ha:a<n)(hn:n≤9223372036854775807)(hf:∀i,0≤f i∧f i≤255):
  Calls Tryz.prog 149 #[.slice (some ⟨b,off,none⟩) n cap,.int .i64 a] w fun e w'=>
   e=.returned (.tuple #[.agg #[.int .i64 (it f n a).1,.int .i64 a,.int .i64 (it f n a).2.1],.bool (it f n a).2.2])∧Below w.heap.size w w':=by
 by_cases hz:sz (f a)=0
 ·have e:it f n a=(65533,a+1,false):=by unfold it;rw[if_pos hz]
  rw[e]
  exact item_zero b off n cap f a w hc ha hn hf hz
 ·exact item_more b off n cap f a w hc ha hn hf (by omega)
end Go.Proofs.YtbbeciofgnkggaaGreatDoor.utf
namespace Go.Proofs.YtbbeciofgnkggaaGreatDoor.utf
open Go.RowKit
theorem own_below{w w':World}{B e size n:Nat}{v:Value}{xs:List Value}(h:w.ownsRow B e size v n xs)(hb:Below w.heap.size w w'):w'.ownsRow B e size v n xs:=by
 refine⟨h.1,?_⟩
 rcases h.2 with hn|⟨g,cap,cur,rfl,hg,hgg,rest⟩
 ·exact .inl hn
 ·exact .inr ⟨g,cap,cur,rfl,hg,by rw[hb.block g (Array.getElem?_eq_some_iff.1 hgg).1];exact hgg,rest⟩
/--The value is a row of n bytes: byte i is f i. -/
def IsB(w:World)(ao:Option Addr)(n:Nat)(f:Nat→Int):Prop:=
 n=0∨∃b off,ao=some ⟨b,off,none⟩∧∀i,i<n→w.cell? ⟨b,off+i,none⟩=some (.int .u8 (f i))
/--The cells of items. -/
def flat(l:List (Int×Nat×Nat)):List Value:=l.flatMap fun x=>[.int .i64 x.1,.int .i64 x.2.1,.int .i64 x.2.2]
theorem flat_append(l r:List (Int×Nat×Nat)):flat (l++r)=flat l++flat r:=by simp[flat]
theorem flat_one(r:Int)(a e:Nat):flat [(r,a,e)]=[.int .i64 r,.int .i64 a,.int .i64 e]:=by simp[flat]
theorem flat_length(l:List (Int×Nat×Nat)):(flat l).length=l.length*3:=by
 induction l with
 |nil=>rfl
 |cons x l ih=>rw[show x::l=[x]++l from rfl,flat_append,List.length_append,ih];simp[flat];omega
theorem valid_none(ao:Option Addr)(cap:Nat)(w:World):
  Calls Tryz.prog 134 #[.slice ao 0 cap] w fun e w'=>e=.returned (.bool true)∧w'=w:=by
 go_enter Tryz.func134,Tryz.ntmps134
 go_wp2
 refine wp_loop_rounds 1 ?_
 rw[rounds_succ]
 go_wp2
 go_ret
 exact⟨rfl,rfl⟩
theorem valid_some(b off n cap:Nat)(f:Nat→Int)(w:World)(hc:∀i,i<n→w.cell? ⟨b,off+i,none⟩=some (.int .u8 (f i)))
  (hn:n≤9223372036854775807)(hf:∀i,0≤f i∧f i≤255):
  Calls Tryz.prog 134 #[.slice (some ⟨b,off,none⟩) n cap] w fun e w'=>e=.returned (.bool (valid f n 0))∧Below w.heap.size w w':=by
 have HC:Hid (∀i,i<n→w.cell? ⟨b,off+i,none⟩=some (.int .u8 (f i))):=hc
 have HF:Hid (∀i,0≤f i∧f i≤255):=hf
 clear hc hf
 go_enter Tryz.func134,Tryz.ntmps134
 go_wp2
 go_loopw[3](fun i wr=>∃(a:Nat),a≤n∧i=.int .i64 a∧Hid (valid f n a=valid f n 0)∧Below w.heap.size w wr)
  (fun i _=>n-(intOf i).toNat)
 case atStart=>exact⟨0,Nat.zero_le _,rfl,rfl,Below.refl _ _⟩
 case round=>
  obtain⟨a,han,rfl,HD,hbel⟩:=hrel
  by_cases hlt:a<n
  ·have HCr:Hid (∀i,i<n→wr.cell? ⟨b,off+i,none⟩=some (.int .u8 (f i))):=fun i hi=>(hbel.cell (World.block_lt_of_cell? w _ (HC.out i hi))).trans (HC.out i hi)
   go_wp2_with fail
   refine(item_any b off n cap f a _ HCr.out hlt (by omega) HF.out).mono ?_
   rintro e w1⟨rfl,hb1⟩
   have hie:=it_end f n a hlt
   have hs1:=hbel.size
   have hs2:=hb1.size
   have HV:=valid_step f n a hlt
   have R2:=(hbel.trans (hb1.mono hs1)).alloc (by omega) (.cells #[.int .i64 (it f n a).1,.int .i64 a,.int .i64 (it f n a).2.1] 153)
   clear HCr hbel hb1
   generalize(it f n a).2.1=E at*
   generalize(it f n a).1=R at*
   cases hk:(it f n a).2.2 with
   |true=>
    have HE:Hid (valid f n E=valid f n 0):=by rw[hk,Bool.true_and]at HV;exact HV.symm.trans HD.out
    clear HV HD hk
    go_wp2
    go_roundw
    case rel=>exact⟨E,by omega,rfl,HE,R2⟩
    case measure=>simp[intOf];omega
   |false=>
    have HE:Hid (valid f n 0=false):=by rw[hk,Bool.false_and]at HV;exact HD.out.symm.trans HV
    clear HV HD hk
    go_wp2
    go_ret
    exact⟨ret_bool HE.out.symm,R2⟩
  ·go_wp2
   go_ret
   exact⟨ret_bool (by rw[←HD.out,valid_end f n a (by omega)]),hbel⟩
theorem valid_any(ao:Option Addr)(n cap:Nat)(f:Nat→Int)(w:World)(hB:IsB w ao n f)(hn:n≤9223372036854775807)(hf:∀i,0≤f i∧f i≤255):
  Calls Tryz.prog 134 #[.slice ao n cap] w fun e w'=>e=.returned (.bool (valid f n 0))∧Below w.heap.size w w':=by
 rcases hB with rfl|⟨b,off,rfl,hc⟩
 ·refine(valid_none ao cap w).mono ?_
  rintro e w'⟨rfl,rfl⟩
  exact⟨ret_bool (valid_end f 0 0 (Nat.le_refl _)).symm,Below.refl _ _⟩
 ·exact valid_some b off n cap f w hc hn hf
end Go.Proofs.YtbbeciofgnkggaaGreatDoor.utf
namespace Go.Proofs.YtbbeciofgnkggaaGreatDoor.utf
open Go.RowKit
end Go.Proofs.YtbbeciofgnkggaaGreatDoor.utf
namespace Go.Proofs.YtbbeciofgnkggaaGreatDoor.utf
def ac(f:Nat→Int):Nat→Int
 |0=>hb (f 0)
 |j+1=>ac f j*64+f (j+1)%64
/--What is left to do at byte j + 1 of an item that asks for S bytes. -/
def left(f:Nat→Int)(n S j:Nat):Int×Nat×Bool:=run f n (S-1-j) (ac f j) (j+1) (lob (f 0) (j+1)) (hib (f 0) (j+1))
end Go.Proofs.YtbbeciofgnkggaaGreatDoor.utf
namespace Go.Proofs.YtbbeciofgnkggaaGreatDoor.utf
open Go.RowKit
end Go.Proofs.YtbbeciofgnkggaaGreatDoor.utf
namespace Go.Proofs.YtbbeciofgnkggaaGreatDoor.utf
open Go.RowKit
end Go.Proofs.YtbbeciofgnkggaaGreatDoor.utf
namespace Go.Proofs.YtbbeciofgnkggaaGreatDoor.utf
open Go.RowKit
def Bts(w:World)(v:Value)(xs:List Int):Prop:=(convert 47 9 v).run Tryz.prog w=.ok (.string (strOfNums xs)) w
theorem bts_cells{w:World}{b off:Nat}{xs:List Int}(cap:Nat)(h:∀i,i<xs.length→w.cell? ⟨b,off+i,none⟩=some (.int .u8 (xs.getD i 0))):Bts w (.slice (some ⟨b,off,none⟩) xs.length cap) xs:=
 run_convert_bytes_arg (P:=Tryz.prog) w 47 5 Tryz.underlying47 Tryz.underlying5 b off xs.length cap xs rfl h 9 Tryz.underlying9
theorem bts_block{w:World}{g:Nat}{xs:List Int}(cap:Nat)(h:w.heap[g]?=some (.cells (xs.map (Value.int .u8)).toArray 5 (0,0))):Bts w (.slice (some ⟨g,0,none⟩) xs.length cap) xs:=by
 refine bts_cells cap fun i hi=>?_
 simp[World.cell?,h,hi]
end Go.Proofs.YtbbeciofgnkggaaGreatDoor.utf
namespace Go.Proofs.YtbbeciofgnkggaaGreatDoor.utf
open Go.RowKit
def IsI(w:World)(b:Nat)(n:Nat)(x y z:Nat→Int):Prop:=
 ∀i,i<n→w.cell? ⟨b,i*3,none⟩=some (.int .i64 (x i))∧w.cell? ⟨b,i*3+1,none⟩=some (.int .i64 (y i))∧w.cell? ⟨b,i*3+1+1,none⟩=some (.int .i64 (z i))
theorem flat_get:∀(l:List (Int×Nat×Nat))(i:Nat),i<l.length→(flat l)[i*3]?=some (.int .i64 (l.getD i (0,0,0)).1)∧(flat l)[i*3+1]?=some (.int .i64 ((l.getD i (0,0,0)).2.1:Int))∧(flat l)[i*3+1+1]?=some (.int .i64 ((l.getD i (0,0,0)).2.2:Int))
 |[],i,h=>by simp at h
 |x::l,0,h=>by simp[flat]
 |x::l,i+1,h=>by
  have:=flat_get l i (by simpa using h)
  rw[show x::l=[x]++l from rfl,flat_append,show flat [x]=[.int .i64 x.1,.int .i64 x.2.1,.int .i64 x.2.2]from rfl]
  rw[show(i+1)*3=i*3+3 from by omega]
  simpa using this
end Go.Proofs.YtbbeciofgnkggaaGreatDoor.utf
namespace Go.Proofs.YtbbeciofgnkggaaGreatDoor.utf
open Go.RowKit
theorem drop_step{f:Nat→Int}{n a k:Nat}{l:List (Int×Nat×Nat)}(h:l.drop k=items f n a)(hk:k<l.length):
  a<n∧l.getD k (0,0,0)=((it f n a).1,a,(it f n a).2.1)∧l.drop (k+1)=items f n (it f n a).2.1:=by
 have ha:a<n:=by
  rcases Nat.lt_or_ge a n with h1|h1
  ·exact h1
  ·rw[items_end f n a h1]at h
   have:=List.drop_eq_nil_iff.1 h
   omega
 rw[items_step f n a ha,List.drop_eq_getElem_cons hk]at h
 have h':=List.cons.inj h
 refine⟨ha,?_,h'.2⟩
 rw[List.getD_eq_getElem?_getD,List.getElem?_eq_getElem hk]
 exact h'.1
end Go.Proofs.YtbbeciofgnkggaaGreatDoor.utf
namespace Go.Proofs.YtbbeciofgnkggaaGreatDoor.utf
open Go.RowKit
theorem next_no(ao:Option Addr)(n cap:Nat)(a:Int)(w:World)(ha:a<0∨(n:Int)≤a):
  Calls Tryz.prog 132 #[.slice ao n cap,.int .i64 a] w fun e w'=>e=.returned (.tuple #[.agg #[.int .i64 0,.int .i64 0,.int .i64 0],.bool false])∧Below w.heap.size w w':=by
 rcases ha with ha|ha
 ·go_enter Tryz.func132,Tryz.ntmps132
  go_wp2
  refine bodyPost_ret (v:=.tuple #[.agg #[.int .i64 0,.int .i64 0,.int .i64 0],.bool false]) (by simp[results,Tryz.results132,go_sem]) rfl ⟨rfl,?_⟩
  exact(Below.refl _ _).alloc (Nat.le_refl _) _
 ·have hp:0≤a:=by omega
  go_enter Tryz.func132,Tryz.ntmps132
  go_wp2
  refine bodyPost_ret (v:=.tuple #[.agg #[.int .i64 0,.int .i64 0,.int .i64 0],.bool false]) (by simp[results,Tryz.results132,go_sem]) rfl ⟨rfl,?_⟩
  exact(Below.refl _ _).alloc (Nat.le_refl _) _
/--A block's cells as the walk asks for them. -/
theorem blk3{w:World}{g:Nat}{x y z:Value}{t:TypeId}(h:w.heap[g]?=some (.cells #[x,y,z] t (0,0))):
  w.cell? ⟨g,0,none⟩=some x∧w.cell? ⟨g,1,none⟩=some y∧w.cell? ⟨g,2,none⟩=some z∧w.frozen? ⟨g,0,none⟩=false∧w.frozen? ⟨g,1,none⟩=false∧w.frozen? ⟨g,2,none⟩=false:=by
 simp[World.cell?,World.frozen?,h]
theorem next_yes(b off n cap:Nat)(f:Nat→Int)(a:Nat)(w:World)(hc:∀i,i<n→w.cell? ⟨b,off+i,none⟩=some (.int .u8 (f i)))
  (ha:a<n)(hn:n≤9223372036854775807)(hf:∀i,0≤f i∧f i≤255):
  Calls Tryz.prog 132 #[.slice (some ⟨b,off,none⟩) n cap,.int .i64 a] w fun e w'=>
   e=.returned (.tuple #[.agg #[.int .i64 (it f n a).1,.int .i64 a,.int .i64 (it f n a).2.1],.bool true])∧Below w.heap.size w w':=by
 have IT:=item_any b off n cap f a (w.alloc (.cells #[.int .i64 0,.int .i64 0,.int .i64 0] 153)) (cells_alloc hc _) ha hn hf
 have HB0:=(Below.refl w.heap.size w).alloc (Nat.le_refl _) (.cells #[.int .i64 0,.int .i64 0,.int .i64 0] 153)
 have HG:Hid ((w.alloc (.cells #[.int .i64 0,.int .i64 0,.int .i64 0] 153)).heap[w.heap.size]?=some (.cells #[.int .i64 0,.int .i64 0,.int .i64 0] 153 (0,0))):=heap_alloc_new w _
 clear hc hf
 generalize(it f n a).2.2=K at*
 generalize(it f n a).2.1=E at*
 generalize(it f n a).1=R at*
 go_enter Tryz.func132,Tryz.ntmps132
 go_wp2_with fail
 refine IT.mono ?_
 rintro e w1⟨rfl,hb1⟩
 have hs:=hb1.size
 simp only[World.size_alloc]at hs
 obtain⟨g0,g1,g2,z0,z1,z2⟩:=blk3 ((hb1.block w.heap.size (by simp)).trans HG.out)
 have R2:=HB0.trans (hb1.mono (by simp))
 have hlt:w.heap.size<w1.heap.size:=by omega
 clear IT HG hb1 HB0
 have R3:=((R2.setCell (p:=⟨w.heap.size,0,none⟩) (Nat.le_refl _) (.int .i64 R)).setCell (p:=⟨w.heap.size,1,none⟩) (Nat.le_refl _) (.int .i64 a)).setCell (p:=⟨w.heap.size,2,none⟩) (Nat.le_refl _) (.int .i64 E)
 have R4:=R3.alloc R3.size (.cells #[.int .i64 R,.int .i64 a,.int .i64 E] 153)
 clear R2 R3
 go_wp2
 refine bodyPost_ret (v:=.tuple #[.agg #[.int .i64 R,.int .i64 a,.int .i64 E],.bool true]) (by simp[results,Tryz.results132,go_sem,g0,g1,g2,hlt]) rfl ⟨rfl,R4⟩
end Go.Proofs.YtbbeciofgnkggaaGreatDoor.utf
namespace Go.Proofs.YtbbeciofgnkggaaGreatDoor.utf
open Go.RowKit
theorem it_1(f:Nat→Int)(n a:Nat)(s:sz (f a)=1):it f n a=(hb (f a),a+1,true):=by
 unfold it;rw[if_neg (by omega),s];rfl
theorem it_2(f:Nat→Int)(n a:Nat)(s:sz (f a)=2)(h1:a+1<n∧lo (f a)≤f (a+1)∧f (a+1)≤hi (f a)):it f n a=(hb (f a)*64+f (a+1)%64,a+2,true):=by
 unfold it;rw[if_neg (by omega),s,run_go _ _ _ _ _ _ _ (by decide) h1];rfl
theorem it_3(f:Nat→Int)(n a:Nat)(s:sz (f a)=3)(h1:a+1<n∧lo (f a)≤f (a+1)∧f (a+1)≤hi (f a))(h2:a+2<n∧128≤f (a+2)∧f (a+2)≤191):it f n a=((hb (f a)*64+f (a+1)%64)*64+f (a+2)%64,a+3,true):=by
 unfold it;rw[if_neg (by omega),s,run_go _ _ _ _ _ _ _ (by decide) h1,run_go _ _ _ _ _ _ _ (by decide) h2];rfl
theorem it_4(f:Nat→Int)(n a:Nat)(s:sz (f a)=4)(h1:a+1<n∧lo (f a)≤f (a+1)∧f (a+1)≤hi (f a))(h2:a+2<n∧128≤f (a+2)∧f (a+2)≤191)(h3:a+3<n∧128≤f (a+3)∧f (a+3)≤191):
  it f n a=(((hb (f a)*64+f (a+1)%64)*64+f (a+2)%64)*64+f (a+3)%64,a+4,true):=by
 unfold it;rw[if_neg (by omega),s,run_go _ _ _ _ _ _ _ (by decide) h1,run_go _ _ _ _ _ _ _ (by decide) h2,run_go _ _ _ _ _ _ _ (by decide) h3];rfl
theorem it_enc(r:Int)(h:len r≠0):it (fun i=>(enc r).getD i 0) (enc r).length 0=(r,(enc r).length,true):=by
 obtain⟨h0,h1,h2,c|c|c|c⟩:=len_cases r h
 ·have e:enc r=[r]:=by unfold enc;rw[if_pos c.1]
  rw[e]
  have s:sz r=1:=by unfold sz;(repeat' split)<;>omega
  have b:hb r=r:=by unfold hb;(repeat' split)<;>omega
  rw[it_1 _ _ _ s]
  simp[b]
 ·have e:enc r=[192+r/64,128+r%64]:=by unfold enc;rw[if_neg (by omega),if_pos c.1]
  rw[e]
  have s:sz (192+r/64)=2:=by unfold sz;(repeat' split)<;>omega
  have b:hb (192+r/64)=r/64:=by unfold hb;(repeat' split)<;>omega
  have l:lo (192+r/64)≤128+r%64:=by unfold lo;(repeat' split)<;>omega
  have m:128+r%64≤hi (192+r/64):=by unfold hi;(repeat' split)<;>omega
  rw[it_2 _ _ _ s ⟨by simp,l,m⟩]
  show(hb (192+r/64)*64+(128+r%64)%64,2,true)=(r,2,true)
  rw[b,show r/64*64+(128+r%64)%64=r from by omega]
 ·have e:enc r=[224+r/64/64,128+r/64%64,128+r%64]:=by unfold enc;rw[if_neg (by omega),if_neg (by omega),if_pos c.1]
  rw[e]
  have s:sz (224+r/64/64)=3:=by unfold sz;(repeat' split)<;>omega
  have b:hb (224+r/64/64)=r/64/64:=by unfold hb;(repeat' split)<;>omega
  have l:lo (224+r/64/64)≤128+r/64%64:=by unfold lo;(repeat' split)<;>omega
  have m:128+r/64%64≤hi (224+r/64/64):=by unfold hi;(repeat' split)<;>omega
  rw[it_3 _ _ _ s ⟨by simp,l,m⟩ ⟨by simp,(show(128:Int)≤128+r%64 from by omega),(show 128+r%64≤191 from by omega)⟩]
  show((hb (224+r/64/64)*64+(128+r/64%64)%64)*64+(128+r%64)%64,3,true)=(r,3,true)
  rw[b,show(r/64/64*64+(128+r/64%64)%64)*64+(128+r%64)%64=r from by omega]
 ·have e:enc r=[240+r/64/64/64,128+r/64/64%64,128+r/64%64,128+r%64]:=by unfold enc;rw[if_neg (by omega),if_neg (by omega),if_neg (by omega),if_pos c.1]
  rw[e]
  have s:sz (240+r/64/64/64)=4:=by unfold sz;(repeat' split)<;>omega
  have b:hb (240+r/64/64/64)=r/64/64/64:=by unfold hb;(repeat' split)<;>omega
  have l:lo (240+r/64/64/64)≤128+r/64/64%64:=by unfold lo;(repeat' split)<;>omega
  have m:128+r/64/64%64≤hi (240+r/64/64/64):=by unfold hi;(repeat' split)<;>omega
  rw[it_4 _ _ _ s ⟨by simp,l,m⟩ ⟨by simp,(show(128:Int)≤128+r/64%64 from by omega),(show 128+r/64%64≤191 from by omega)⟩ ⟨by simp,(show(128:Int)≤128+r%64 from by omega),(show 128+r%64≤191 from by omega)⟩]
  show(((hb (240+r/64/64/64)*64+(128+r/64/64%64)%64)*64+(128+r/64%64)%64)*64+(128+r%64)%64,4,true)=(r,4,true)
  rw[b,show((r/64/64/64*64+(128+r/64/64%64)%64)*64+(128+r/64%64)%64)*64+(128+r%64)%64=r from by omega]
theorem enc_pos(r:Int)(h:len r≠0):0<(enc r).length∧(enc r).length≤4:=by
 obtain⟨h0,h1,h2,c|c|c|c⟩:=len_cases r h<;>unfold enc<;>simp[c.1]
end Go.Proofs.YtbbeciofgnkggaaGreatDoor.utf
namespace Go.Proofs.YtbbeciofgnkggaaGreatDoor.utf
open Go.RowKit
theorem infoByte:(Tryz.prog.info? 5).map (fun i=>(i.zero,i.size,i.bytes))=some (some (.int .u8 0),1,1):=by kernel_rfl
/--The first n bytes as a list. -/
def lst(f:Nat→Int)(n:Nat):List Int:=(List.range n).map f
end Go.Proofs.YtbbeciofgnkggaaGreatDoor.utf
