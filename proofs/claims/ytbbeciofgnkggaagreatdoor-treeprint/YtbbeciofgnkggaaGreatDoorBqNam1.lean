import Derived.Test.YtbbeciofgnkggaaGreatDoorBqLin2
import Derived.Test.YtbbeciofgnkggaaGreatDoorBqLin1
import Derived.Maps.OwnSet
import Derived.DeepKeys4
import Derived.Test.YtbbeciofgnkggaaGreatDoorChecked
import Derived.Test.YtbbeciofgnkggaaGreatDoorBqLin3
import Derived.Test.YtbbeciofgnkggaaGreatDoorBqLin4
import Derived.Lib.AppendStr
import Derived.Lib.OthersKept
import Derived.Lib.FrozenHead
import Derived.WalkSmall
import Derived.OrdersIn
import Derived.Deep.RegionHeld
set_option linter.unusedSimpArgs false
set_option linter.unusedVariables false
set_option maxRecDepth 1000000
set_option maxHeartbeats 1500000
namespace Go.Proofs.YtbbeciofgnkggaaGreatDoor.nam
open Go.RowKit lin
def low(c:UInt8):List UInt8:=if c=32∨c=45∨c=95 then[]else if 65≤c.toNat∧c.toNat≤90 then[c+32]else[c]
def sift(l:List UInt8):List UInt8:=l.flatMap low
def strip(l:List UInt8):List UInt8:=if 2<l.length∧l.take 2=[105,115]then l.drop 2 else l
def looseL(l:List UInt8):List UInt8:=strip (sift l)
theorem u8_eq(c:UInt8)(n:Nat)(h:n<256):c=UInt8.ofNat n↔c.toNat=n:=by
 constructor
 ·rintro rfl;simp;omega
 ·intro e;rw[←e];simp
theorem low_not(c:UInt8)(h:c.toNat=32∨c.toNat=45∨c.toNat=95):low c=[]:=by
 unfold low
 rw[if_pos]
 rcases h with h|h|h
 ·exact .inl ((u8_eq c 32 (by decide)).2 h)
 ·exact .inr (.inl ((u8_eq c 45 (by decide)).2 h))
 ·exact .inr (.inr ((u8_eq c 95 (by decide)).2 h))
theorem low_ne(c:UInt8)(h:¬(c.toNat=32∨c.toNat=45∨c.toNat=95)):¬(c=32∨c=45∨c=95):=by
 rintro(rfl|rfl|rfl)<;>simp at h
theorem low_great(c:UInt8)(h1:65≤c.toNat)(h2:c.toNat≤90)(h:¬(c.toNat=32∨c.toNat=45∨c.toNat=95)):low c=[UInt8.ofNat (c.toNat+32)]:=by
 unfold low
 rw[if_neg (low_ne c h),if_pos ⟨h1,h2⟩]
 congr 1
theorem low_else(c:UInt8)(h1:¬(65≤c.toNat∧c.toNat≤90))(h:¬(c.toNat=32∨c.toNat=45∨c.toNat=95)):low c=[c]:=by
 unfold low
 rw[if_neg (low_ne c h),if_neg h1]
theorem sift_snoc(l:List UInt8)(c:UInt8):sift (l++[c])=sift l++low c:=by simp[sift]
theorem sift_len(l:List UInt8):(sift l).length≤l.length:=by
 induction l with
 |nil=>simp[sift]
 |cons c r ih=>
  have:(low c).length≤1:=by unfold low;(repeat' split)<;>simp
  simp only[sift,List.flatMap_cons,List.length_append,List.length_cons]at*
  omega
theorem strip_len(l:List UInt8):(strip l).length≤l.length:=by unfold strip;split<;>simp
theorem looseL_len(l:List UInt8):(looseL l).length≤l.length:=Nat.le_trans (strip_len _) (sift_len l)
theorem take_next(s:ByteArray)(k:Nat)(h:k<s.size):s.data.toList.take (k+1)=s.data.toList.take k++[s[k]'h]:=by
 rw[List.take_add_one,List.getElem?_eq_getElem (by simpa using h)];rfl
theorem strip_two(l:List UInt8)(h:l.length=2):strip l=l:=by unfold strip;rw[if_neg];omega
theorem strip_trim(l:List UInt8)(h:l.length≠2):strip l=Lib.trimPrefix l [105,115]:=by
 unfold strip Lib.trimPrefix Lib.hasPrefix
 by_cases h1:l.take 2=[105,115]
 ·have h2:2≤l.length:=by
   have:=congrArg List.length h1
   simp at this
   omega
  rw[if_pos ⟨by omega,h1⟩,if_pos]
  ·rfl
  ·first
    |(rw[List.isPrefixOf_iff_prefix];exact⟨l.drop 2,by rw[←h1,List.take_append_drop]⟩)
    |(simp[List.isPrefixOf];done)
 ·rw[if_neg (fun h=>h1 h.2),if_neg]
  intro hp
  apply h1
  rw[List.isPrefixOf_iff_prefix]at hp
  obtain⟨t,rfl⟩:=hp
  rfl
end Go.Proofs.YtbbeciofgnkggaaGreatDoor.nam
namespace Go.Proofs.YtbbeciofgnkggaaGreatDoor.nam
open lin
def aliasB:ByteArray:=⟨#[35,32,107,105,110,100,32,59,32,115,104,111,114,116,32,110,97,109,101,32,59,32,108,111,110,103,32,110,97,109,101,10,112,114,32,59,32,103,99,32,59,32,71,101,110,101,114,97,108,95,67,97,116,101,103,111,114,121,10,112,114,32,59,32,115,99,32,59,32,83,99,114,105,112,116,10,103,99,32,59,32,67,32,59,32,79,116,104,101,114,10,103,99,32,59,32,67,99,32,59,32,67,111,110,116,114,111,108,10,103,99,32,59,32,67,102,32,59,32,70,111,114,109,97,116,10,103,99,32,59,32,67,110,32,59,32,85,110,97,115,115,105,103,110,101,100,10,103,99,32,59,32,76,32,59,32,76,101,116,116,101,114,10,103,99,32,59,32,76,108,32,59,32,76,111,119,101,114,99,97,115,101,95,76,101,116,116,101,114,10,103,99,32,59,32,76,111,32,59,32,79,116,104,101,114,95,76,101,116,116,101,114,10,103,99,32,59,32,76,116,32,59,32,84,105,116,108,101,99,97,115,101,95,76,101,116,116,101,114,10,103,99,32,59,32,76,117,32,59,32,85,112,112,101,114,99,97,115,101,95,76,101,116,116,101,114,10,103,99,32,59,32,77,32,59,32,77,97,114,107,10,103,99,32,59,32,77,99,32,59,32,83,112,97,99,105,110,103,95,77,97,114,107,10,103,99,32,59,32,77,110,32,59,32,78,111,110,115,112,97,99,105,110,103,95,77,97,114,107,10,103,99,32,59,32,78,32,59,32,78,117,109,98,101,114,10,103,99,32,59,32,78,100,32,59,32,68,101,99,105,109,97,108,95,78,117,109,98,101,114,10,103,99,32,59,32,78,108,32,59,32,76,101,116,116,101,114,95,78,117,109,98,101,114,10,103,99,32,59,32,78,111,32,59,32,79,116,104,101,114,95,78,117,109,98,101,114,10,103,99,32,59,32,80,32,59,32,80,117,110,99,116,117,97,116,105,111,110,10,103,99,32,59,32,80,99,32,59,32,67,111,110,110,101,99,116,111,114,95,80,117,110,99,116,117,97,116,105,111,110,10,103,99,32,59,32,80,100,32,59,32,68,97,115,104,95,80,117,110,99,116,117,97,116,105,111,110,10,103,99,32,59,32,80,101,32,59,32,67,108,111,115,101,95,80,117,110,99,116,117,97,116,105,111,110,10,103,99,32,59,32,80,102,32,59,32,70,105,110,97,108,95,80,117,110,99,116,117,97,116,105,111,110,10,103,99,32,59,32,80,105,32,59,32,73,110,105,116,105,97,108,95,80,117,110,99,116,117,97,116,105,111,110,10,103,99,32,59,32,80,111,32,59,32,79,116,104,101,114,95,80,117,110,99,116,117,97,116,105,111,110,10,103,99,32,59,32,80,115,32,59,32,79,112,101,110,95,80,117,110,99,116,117,97,116,105,111,110,10,103,99,32,59,32,83,32,59,32,83,121,109,98,111,108,10,103,99,32,59,32,83,99,32,59,32,67,117,114,114,101,110,99,121,95,83,121,109,98,111,108,10,103,99,32,59,32,83,107,32,59,32,77,111,100,105,102,105,101,114,95,83,121,109,98,111,108,10,103,99,32,59,32,83,109,32,59,32,77,97,116,104,95,83,121,109,98,111,108,10,103,99,32,59,32,83,111,32,59,32,79,116,104,101,114,95,83,121,109,98,111,108,10,103,99,32,59,32,90,32,59,32,83,101,112,97,114,97,116,111,114,10,103,99,32,59,32,90,108,32,59,32,76,105,110,101,95,83,101,112,97,114,97,116,111,114,10,103,99,32,59,32,90,112,32,59,32,80,97,114,97,103,114,97,112,104,95,83,101,112,97,114,97,116,111,114,10,103,99,32,59,32,90,115,32,59,32,83,112,97,99,101,95,83,101,112,97,114,97,116,111,114,10,115,99,32,59,32,67,121,114,108,32,59,32,67,121,114,105,108,108,105,99,10,115,99,32,59,32,68,101,118,97,32,59,32,68,101,118,97,110,97,103,97,114,105,10,115,99,32,59,32,71,114,101,107,32,59,32,71,114,101,101,107,10,115,99,32,59,32,72,97,110,103,32,59,32,72,97,110,103,117,108,10,115,99,32,59,32,72,97,110,105,32,59,32,72,97,110,10,115,99,32,59,32,72,101,98,114,32,59,32,72,101,98,114,101,119,10,115,99,32,59,32,72,105,114,97,32,59,32,72,105,114,97,103,97,110,97,10,115,99,32,59,32,75,97,110,97,32,59,32,75,97,116,97,107,97,110,97,10,115,99,32,59,32,76,97,116,110,32,59,32,76,97,116,105,110,10,115,99,32,59,32,90,122,122,122,32,59,32,85,110,107,110,111,119,110,10,98,105,32,59,32,65,110,121,32,59,32,65,110,121,10,98,105,32,59,32,65,83,67,73,73,32,59,32,65,83,67,73,73,10,98,105,32,59,32,65,108,112,104,97,32,59,32,65,108,112,104,97,98,101,116,105,99,10,98,105,32,59,32,76,111,119,101,114,32,59,32,76,111,119,101,114,99,97,115,101,10,98,105,32,59,32,85,112,112,101,114,32,59,32,85,112,112,101,114,99,97,115,101,10,98,105,32,59,32,115,112,97,99,101,32,59,32,87,104,105,116,101,95,83,112,97,99,101,10]⟩
/--A kind, a short name, a long name. -/
abbrev R3:=List UInt8×List UInt8×List UInt8
def rowsL:List R3:=[
 ([112,114],[103,99],[71,101,110,101,114,97,108,95,67,97,116,101,103,111,114,121]),
 ([112,114],[115,99],[83,99,114,105,112,116]),
 ([103,99],[67],[79,116,104,101,114]),
 ([103,99],[67,99],[67,111,110,116,114,111,108]),
 ([103,99],[67,102],[70,111,114,109,97,116]),
 ([103,99],[67,110],[85,110,97,115,115,105,103,110,101,100]),
 ([103,99],[76],[76,101,116,116,101,114]),
 ([103,99],[76,108],[76,111,119,101,114,99,97,115,101,95,76,101,116,116,101,114]),
 ([103,99],[76,111],[79,116,104,101,114,95,76,101,116,116,101,114]),
 ([103,99],[76,116],[84,105,116,108,101,99,97,115,101,95,76,101,116,116,101,114]),
 ([103,99],[76,117],[85,112,112,101,114,99,97,115,101,95,76,101,116,116,101,114]),
 ([103,99],[77],[77,97,114,107]),
 ([103,99],[77,99],[83,112,97,99,105,110,103,95,77,97,114,107]),
 ([103,99],[77,110],[78,111,110,115,112,97,99,105,110,103,95,77,97,114,107]),
 ([103,99],[78],[78,117,109,98,101,114]),
 ([103,99],[78,100],[68,101,99,105,109,97,108,95,78,117,109,98,101,114]),
 ([103,99],[78,108],[76,101,116,116,101,114,95,78,117,109,98,101,114]),
 ([103,99],[78,111],[79,116,104,101,114,95,78,117,109,98,101,114]),
 ([103,99],[80],[80,117,110,99,116,117,97,116,105,111,110]),
 ([103,99],[80,99],[67,111,110,110,101,99,116,111,114,95,80,117,110,99,116,117,97,116,105,111,110]),
 ([103,99],[80,100],[68,97,115,104,95,80,117,110,99,116,117,97,116,105,111,110]),
 ([103,99],[80,101],[67,108,111,115,101,95,80,117,110,99,116,117,97,116,105,111,110]),
 ([103,99],[80,102],[70,105,110,97,108,95,80,117,110,99,116,117,97,116,105,111,110]),
 ([103,99],[80,105],[73,110,105,116,105,97,108,95,80,117,110,99,116,117,97,116,105,111,110]),
 ([103,99],[80,111],[79,116,104,101,114,95,80,117,110,99,116,117,97,116,105,111,110]),
 ([103,99],[80,115],[79,112,101,110,95,80,117,110,99,116,117,97,116,105,111,110]),
 ([103,99],[83],[83,121,109,98,111,108]),
 ([103,99],[83,99],[67,117,114,114,101,110,99,121,95,83,121,109,98,111,108]),
 ([103,99],[83,107],[77,111,100,105,102,105,101,114,95,83,121,109,98,111,108]),
 ([103,99],[83,109],[77,97,116,104,95,83,121,109,98,111,108]),
 ([103,99],[83,111],[79,116,104,101,114,95,83,121,109,98,111,108]),
 ([103,99],[90],[83,101,112,97,114,97,116,111,114]),
 ([103,99],[90,108],[76,105,110,101,95,83,101,112,97,114,97,116,111,114]),
 ([103,99],[90,112],[80,97,114,97,103,114,97,112,104,95,83,101,112,97,114,97,116,111,114]),
 ([103,99],[90,115],[83,112,97,99,101,95,83,101,112,97,114,97,116,111,114]),
 ([115,99],[67,121,114,108],[67,121,114,105,108,108,105,99]),
 ([115,99],[68,101,118,97],[68,101,118,97,110,97,103,97,114,105]),
 ([115,99],[71,114,101,107],[71,114,101,101,107]),
 ([115,99],[72,97,110,103],[72,97,110,103,117,108]),
 ([115,99],[72,97,110,105],[72,97,110]),
 ([115,99],[72,101,98,114],[72,101,98,114,101,119]),
 ([115,99],[72,105,114,97],[72,105,114,97,103,97,110,97]),
 ([115,99],[75,97,110,97],[75,97,116,97,107,97,110,97]),
 ([115,99],[76,97,116,110],[76,97,116,105,110]),
 ([115,99],[90,122,122,122],[85,110,107,110,111,119,110]),
 ([98,105],[65,110,121],[65,110,121]),
 ([98,105],[65,83,67,73,73],[65,83,67,73,73]),
 ([98,105],[65,108,112,104,97],[65,108,112,104,97,98,101,116,105,99]),
 ([98,105],[76,111,119,101,114],[76,111,119,101,114,99,97,115,101]),
 ([98,105],[85,112,112,101,114],[85,112,112,101,114,99,97,115,101]),
 ([98,105],[115,112,97,99,101],[87,104,105,116,101,95,83,112,97,99,101])]
def rowL(l:List UInt8):List (List (List UInt8)):=if fieldsL l=[]then[]else[fieldsL l]
theorem rows_lit:(cutL 10 aliasB.data.toList).flatMap rowL=rowsL.map (fun r=>[r.1,r.2.1,r.2.2]):=by decide+kernel
end Go.Proofs.YtbbeciofgnkggaaGreatDoor.nam
section
namespace Go.Proofs.YtbbeciofgnkggaaGreatDoor.nam
open Go.Maps Go.RowKit lin
def hold(v:Value):Option (DataW Value×List MemPlace):=some (.held v,[])
/--Keys: how they are written as values, and which of them may be keys. -/
structure KeyE(P:Program)(k:TypeId){κ:Type}(ek:κ→Value)(ok:κ→Prop):Prop where
 keyed:Keyed P k
 reads:∀x,ok x→∃l,keyOf P k (ek x)=some l
 inj:∀x y,ek x=ek y→x=y
/--Block b is a map of at most n entries: f says what stands at a key. -/
def Mp(P:Program)(k:TypeId){κ:Type}(ek:κ→Value)(ok:κ→Prop)(w:World)(b n:Nat)(f:κ→Option Value):Prop:=
 ∃D:DataW Value,w.ownsMap P k hold b n D∧∀x l,ok x→keyOf P k (ek x)=some l→(f x=none→∀z,D.atKey l z=z)∧(∀v,f x=some v→∀z,D.atKey l z=.held v)
section
variable{P:Program}{k:TypeId}{κ:Type}{ek:κ→Value}{ok:κ→Prop}{w:World}{b n:Nat}{f:κ→Option Value}
theorem Mp.made(w:World):Mp P k ek ok (w.alloc (.map #[] 0)) w.heap.size 0 (fun _=>none):=
 ⟨_,World.ownsMap_made w P k hold,fun x l _ _=>⟨fun _ z=>rfl,fun v h=>by cases h⟩⟩
theorem Mp.lt(h:Mp P k ek ok w b n f):b<w.heap.size:=by obtain⟨D,h,_⟩:=h;exact h.lt
theorem Mp.turns{D:Nat→Prop}{w':World}(h:Mp P k ek ok w b n f)(t:Turns D w w')(hd:¬D b):Mp P k ek ok w' b n f:=by
 obtain⟨M,⟨es,clock,hb,F,hs,hD⟩,hf⟩:=h
 exact⟨M,⟨es,clock,(t.block b (Array.getElem?_eq_some_iff.1 hb).1 hd).trans hb,F,hs,hD⟩,hf⟩
theorem Mp.below{w':World}(h:Mp P k ek ok w b n f)(t:Below w.heap.size w w'):Mp P k ek ok w' b n f:=h.turns (D:=fun _=>False) (.of_below t) id
theorem Mp.mono{n':Nat}(h:Mp P k ek ok w b n f)(hn:n≤n'):Mp P k ek ok w b n' f:=by
 obtain⟨M,h,hf⟩:=h
 exact⟨M,h.mono hn,hf⟩
theorem Mp.look(h:Mp P k ek ok w b n f)(K:KeyE P k ek ok){t e:TypeId}(ht:P.underlying t=some (.map k e)){z:Value}(hz:(zeroValue e).run P w=.ok z w){x:κ}(hx:ok x):
  (Instr.lookup t (.map (some b)) (ek x) true).run P w=.ok (.tuple #[(f x).getD z,.bool (f x).isSome]) w:=by
 obtain⟨D,hown,hf⟩:=h
 obtain⟨l,hl⟩:=K.reads x hx
 obtain⟨v,ps,hrun,hv⟩:=hown.look_ok K.keyed ht hz (zd:=.held z) (zp:=[]) rfl hl
 obtain⟨h1,h2⟩:=hf x l hx hl
 simp only[hold,Option.some.injEq,Prod.mk.injEq]at hv
 rw[hrun]
 cases hfx:f x with
 |none=>
  have h3:=h1 hfx
  have e1:v=z:=by have:=hv.1.trans (h3 (.held z));cases this;rfl
  rw[e1,has_false_of_atKey h3];rfl
 |some u=>
  have h3:=h2 u hfx
  have e1:v=u:=by have:=hv.1.trans (h3 (.held z));cases this;rfl
  rw[e1,has_true_of_atKey h3];rfl
def upd[DecidableEq κ](f:κ→Option Value)(x:κ)(v:Value):κ→Option Value:=fun y=>if y=x then some v else f y
theorem Mp.put[DecidableEq κ](h:Mp P k ek ok w b n f)(K:KeyE P k ek ok){t e:TypeId}(ht:P.underlying t=some (.map k e))(hn:n<maxLen){x:κ}(hx:ok x)(v:Value):
  ∃w',(Instr.mapUpdate t (.map (some b)) (ek x) v).run P w=.ok () w'∧Mp P k ek ok w' b (n+1) (upd f x v)∧w.mapTurned w' b:=by
 obtain⟨D,hown,hf⟩:=h
 obtain⟨l,hl⟩:=K.reads x hx
 have hm:=hown.isMap
 obtain⟨w',hrun,hown',hturn⟩:=hown.store K.keyed ht hn (val:=v) (d:=.held v) (ps:=[]) hl rfl
 refine⟨w',hrun,⟨_,hown',fun y l' hy hl'=>?_⟩,hturn⟩
 by_cases hyx:y=x
 ·subst hyx
  obtain rfl:l=l':=by rw[hl]at hl';cases hl';rfl
  have e1:upd f y v y=some v:=by unfold upd;rw[if_pos rfl]
  rw[e1]
  exact⟨fun h=>(by cases h),fun u hu z=>(by cases hu;exact atKey_put_same hm (K.keyed.key hl) _ z)⟩
 ·have hne:l'≠l:=fun e=>hyx (K.inj _ _ (K.keyed.inj hl' (e▸hl)))
  have e1:upd f x v y=f y:=by unfold upd;rw[if_neg hyx]
  rw[e1]
  obtain⟨h1,h2⟩:=hf y l' hy hl'
  exact⟨fun h z=>by rw[atKey_put_other hne];exact h1 h z,fun u hu z=>by rw[atKey_put_other hne];exact h2 u hu z⟩
end
end Go.Proofs.YtbbeciofgnkggaaGreatDoor.nam
end
namespace Go.Proofs.YtbbeciofgnkggaaGreatDoor.nam
open Go.Maps Go.RowKit
def ek(x:ByteArray×ByteArray):Value:=.agg #[.string x.1,.string x.2]
def okk(x:ByteArray×ByteArray):Prop:=x.1.size≤maxLen∧x.2.size≤maxLen
theorem types_n:Tryz.prog.types.size=Tryz.prog.types.size-2+2:=by kernel_rfl
theorem key_type:Tryz.prog.keyType 175=true:=by kernel_rfl
theorem cells_name:Tryz.prog.cellsOf 175=2:=by kernel_rfl
theorem cells_string:Tryz.prog.cellsOf 9=1:=by kernel_rfl
theorem key_reads(x:ByteArray×ByteArray)(h:okk x):∃l,keyOf Tryz.prog 175 (ek x)=some l:=by
 have hf:(ek x).formed Tryz.prog 175=true:=by
  simp[ek,Value.formed,Tryz.underlying175]
  exact cells_name.symm
 have hs:∀(m:Nat)(s:ByteArray),s.size≤maxLen→Tryz.prog.keyLits (m+1) 9 [.string s]=some [.string s.data.toList]:=fun m s hs=>by
  simp[Program.keyLits,Tryz.underlying9,hs]
 have hk:∀m,Tryz.prog.keyLits (m+2+1) 175 (ek x).cells.toList=some [.string x.1.data.toList,.string x.2.data.toList]:=fun m=>by
  unfold Program.keyLits
  simp[Tryz.underlying175,cells_name,cells_string,hs _ _ h.1,hs _ _ h.2,ek,Value.cells]
 unfold keyOf
 rw[Tryz.underlying175]
 simp only[key_type,hf,Bool.and_self,if_true]
 rw[types_n,hk]
 exact⟨_,rfl⟩
theorem key_law:WideMaps.KeyLaw Tryz.prog 175:=deep_law_laid (by kernel_rfl) (m:=3) (by omega) (of_decide_eq_true (by kernel_rfl)) (by kernel_rfl) (by rw[Tryz.underlying175])
theorem keyE:KeyE Tryz.prog 175 ek okk where
 keyed:=Keyed.of_law key_law
 reads:=key_reads
 inj:=fun x y h=>by
  unfold ek at h
  simp only[Value.agg.injEq,Array.mk.injEq,List.cons.injEq,Value.string.injEq]at h
  exact Prod.ext h.1 h.2.1
end Go.Proofs.YtbbeciofgnkggaaGreatDoor.nam
namespace Go.Proofs.YtbbeciofgnkggaaGreatDoor.nam
open Go.RowKit lin
def hit(x:List UInt8×List UInt8)(r:R3):Bool:=r.1==x.1&&(looseL r.2.1==x.2||looseL r.2.2==x.2)
def lookL(x:List UInt8×List UInt8):Option R3:=rowsL.find? (hit x)
/--Both names as a value. -/
def al(r:R3):Value:=.agg #[.string (BA r.2.1),.string (BA r.2.2)]
def tab:List R3→ByteArray×ByteArray→Option Value
 |[]=>fun _=>none
 |r::rest=>upd (upd (tab rest) (BA r.1,BA (looseL r.2.1)) (al r)) (BA r.1,BA (looseL r.2.2)) (al r)
theorem BA_inj(a:ByteArray)(l:List UInt8):a=BA l↔a.data.toList=l:=by
 constructor
 ·rintro rfl;rfl
 ·intro e;rw[←e,BA_list]
theorem tab_find(L:List R3)(x:ByteArray×ByteArray):tab L x=(L.find? (hit (x.1.data.toList,x.2.data.toList))).map al:=by
 induction L with
 |nil=>rfl
 |cons r rest ih=>
  have h1:∀l,(x=(BA r.1,BA l))↔(x.1.data.toList=r.1∧x.2.data.toList=l):=fun l=>by
   rw[Prod.ext_iff,←BA_inj,←BA_inj]
  unfold tab upd
  rw[List.find?_cons]
  cases hh:hit (x.1.data.toList,x.2.data.toList) r with
  |true=>
   unfold hit at hh
   simp only[Bool.and_eq_true,Bool.or_eq_true,beq_iff_eq]at hh
   simp only[Option.map_some]
   rcases hh.2 with h2|h2
   ·by_cases h3:x=(BA r.1,BA (looseL r.2.2))
    ·rw[if_pos h3]
    ·rw[if_neg h3,if_pos ((h1 _).2 ⟨hh.1.symm,h2.symm⟩)]
   ·rw[if_pos ((h1 _).2 ⟨hh.1.symm,h2.symm⟩)]
  |false=>
   have hn:∀l,l=looseL r.2.1∨l=looseL r.2.2→x≠(BA r.1,BA l):=fun l hl e=>by
    obtain⟨e1,e2⟩:=(h1 l).1 e
    unfold hit at hh
    rw[e1,e2]at hh
    rcases hl with rfl|rfl<;>simp at hh
   rw[if_neg (hn _ (.inr rfl)),if_neg (hn _ (.inl rfl))]
   exact ih
theorem tab_look(x:ByteArray×ByteArray):tab rowsL x=(lookL (x.1.data.toList,x.2.data.toList)).map al:=tab_find rowsL x
theorem rows_at(L:List (List UInt8)):rowsOf (L.map BA)=(L.flatMap rowL).map (fun r=>r.map BA):=by
 induction L with
 |nil=>rfl
 |cons l rest ih=>
  unfold rowsOf at ih⊢
  rw[List.map_cons,List.flatMap_cons,ih,List.flatMap_cons,List.map_append]
  congr 1
  unfold rowOf rowL
  rw[fieldsV_list,BA_data,List.length_map]
  by_cases h:fieldsL l=[]
  ·rw[if_pos h,if_pos (by rw[h];rfl)];rfl
  ·rw[if_neg h,if_neg (fun e=>h (List.eq_nil_of_length_eq_zero e))];rfl
theorem rows_eq:rowsOf (cutV aliasB 10)=rowsL.map (fun r=>[BA r.1,BA r.2.1,BA r.2.2]):=by
 have h:=cutV_list aliasB 10
 rw[show((10:UInt8).toNat:Int)=10 from rfl]at h
 rw[h,rows_at,rows_lit,List.map_map]
 rfl
theorem rows_n:rowsL.length=51:=by decide+kernel
theorem rows_small:∀r∈rowsL,r.1.length≤30∧r.2.1.length≤30∧r.2.2.length≤30:=by decide+kernel
theorem alias_n:aliasB.size≤100000:=by decide+kernel
theorem aliases_any(w:World):Calls Tryz.prog 101 #[] w fun e w'=>e=.returned (.string aliasB)∧w'=w:=by
 go_enter Tryz.func101,Tryz.ntmps101
 go_wp2
 go_ret
 exact⟨rfl,rfl⟩
end Go.Proofs.YtbbeciofgnkggaaGreatDoor.nam
namespace Go.Proofs.YtbbeciofgnkggaaGreatDoor.nam
open Go.RowKit lin
def RowAt(w:World)(base:Nat)(x:Value)(r:R3):Prop:=
 ∃fg fo fc,x=.slice (some ⟨fg,fo,none⟩) 3 fc∧base≤fg∧fg<w.heap.size∧w.cell? ⟨fg,fo,none⟩=some (.string (BA r.1))∧w.cell? ⟨fg,fo+1,none⟩=some (.string (BA r.2.1))∧w.cell? ⟨fg,fo+1+1,none⟩=some (.string (BA r.2.2))
/--All rows. -/
structure FileAt(w:World)(base:Nat)(v:Value)(g cap:Nat)(vs:List Value):Prop where
 val:v=.slice (some ⟨g,0,none⟩) vs.length cap
 len:vs.length=rowsL.length
 low:base≤g
 lt:g<w.heap.size
 cell:∀i(h:i<vs.length),w.cell? ⟨g,0+i,none⟩=some vs[i]
 row:∀(i:Nat)(x:Value)(r:R3),vs[i]?=some x→rowsL[i]?=some r→RowAt w base x r
theorem file_at{w:World}{base:Nat}{v:Value}(h:RowsAt w base v (rowsOf (cutV aliasB 10))):∃g cap vs,FileAt w base v g cap vs:=by
 rw[rows_eq]at h
 obtain⟨L,hL,ho,hf⟩:=h
 have hlen:L.length=rowsL.length:=by have:=congrArg List.length hL;simpa using this
 have hpos:0<L.length:=by rw[hlen,rows_n];decide
 rcases ho.2 with hn|⟨g,cap,cur,hv,hg,hgg,h3,h4,h5,h6⟩
 ·omega
 ·have hvl:(L.map (·.1)).length=L.length:=List.length_map ..
  refine⟨g,cap,L.map (·.1),⟨by rw[hvl];exact hv,by rw[hvl];exact hlen,hg,(Array.getElem?_eq_some_iff.1 hgg).1,fun i hi=>?_,fun i x r hx hr=>?_⟩⟩
  ·rw[Nat.zero_add,cell_of_row w g i cur _ _ hgg,←Array.getElem?_toList,←List.getElem?_take_of_lt (show i<L.length*1 by rw[hvl]at hi;omega),h6,List.getElem?_eq_getElem hi]
  ·rw[List.getElem?_map]at hx
   cases hq:L[i]? with
   |none=>rw[hq]at hx;cases hx
   |some q=>
    rw[hq]at hx
    cases hx
    have h7:q.2=[BA r.1,BA r.2.1,BA r.2.2]:=by
     have:=congrArg (fun l=>l[i]?) hL
     simp only[List.getElem?_map,hq,hr,Option.map_some,Option.some.injEq]at this
     exact this
    obtain⟨fg,fo,fc,fcur,hfv,hfg,hfgg,hfc⟩:=hf q (List.mem_of_getElem? hq)
    rw[h7]at hfv hfc
    refine⟨fg,fo,fc,hfv,hfg,(Array.getElem?_eq_some_iff.1 hfgg).1,?_,?_,?_⟩
    ·rw[cell_of_row w fg fo fcur _ _ hfgg];exact hfc 0 (by simp)
    ·rw[cell_of_row w fg (fo+1) fcur _ _ hfgg];exact hfc 1 (by simp)
    ·rw[cell_of_row w fg (fo+1+1) fcur _ _ hfgg];exact hfc 2 (by simp)
end Go.Proofs.YtbbeciofgnkggaaGreatDoor.nam
namespace Go.Proofs.YtbbeciofgnkggaaGreatDoor.nam
open Go.RowKit Go.Shelf lin
attribute [local go_sem] Oper.semAt_some
abbrev Elt:=Nat×Value
def encB(x:Elt):Array Value:=#[.int .i64 (x.1:Int),x.2]
/--Elements with their places, the last one first. -/
def backs(vs:List Value):List Elt:=(vs.zipIdx.map fun p=>(p.2,p.1)).reverse
theorem backs_snoc(vs:List Value)(v:Value):backs (vs++[v])=(vs.length,v)::backs vs:=by
 unfold backs
 rw[List.zipIdx_append]
 simp
theorem backs_take(vs:List Value)(k:Nat)(h:k<vs.length):backs (vs.take (k+1))=(k,vs[k])::backs (vs.take k):=by
 rw[List.take_add_one,List.getElem?_eq_getElem h]
 show backs (vs.take k++[vs[k]])=_
 rw[backs_snoc,List.length_take]
 congr 2
 omega
/--In block c lies the slice of values vs, whose cells lie in block g. -/
structure Rev(W:World)(c g off cap:Nat)(vs:List Value):Prop where
 box:Boxed W c 118 (.slice (some ⟨g,off,none⟩) vs.length cap)
 cell:∀i(h:i<vs.length),W.cell? ⟨g,off+i,none⟩=some vs[i]
theorem cell_keep{lo hi:Nat}{A B:World}(h:Keep lo hi A B){g o:Nat}(h1:lo≤g)(h2:g<hi):B.cell? ⟨g,o,none⟩=A.cell? ⟨g,o,none⟩:=by
 unfold World.cell?
 rw[h g h1 h2]
theorem Backward_any(a:Option Addr)(n c:Nat)(w:World):
  Calls Tryz.prog 167 #[.slice a n c] w fun e w'=>e=.returned (.func (.func 175) #[] #[.pointer (some ⟨w.heap.size,0,none⟩)])∧w'=w.alloc (.cells #[.slice a n c] 118):=by
 go_enter Tryz.func167,Tryz.ntmps167
 go_wp2
 go_ret
 exact⟨rfl,rfl⟩
theorem back_gives(n c g off cap lo:Nat)(vs:List Value)(w:World)(hl:vs.length≤1099511627776)(hr:Rev w c g off cap vs)(h1:lo≤c)(h2:lo≤g)(hsl:∀v∈vs,∃a m k,v=.slice a m k):
  Gives n Tryz.prog 175 #[.pointer (some ⟨c,0,none⟩)] encB (backs vs) c lo w.heap.size w:=by
 intro l J Jx W hW hJ hY h0
 have hc:=hr.box.lt
 have hrW:Rev W c g off cap vs:=⟨(hW.block c hc).trans hr.box,fun i h=>(hW.cell (p:=⟨g,off+i,none⟩) (World.block_lt_of_cell? w _ (hr.cell i h))).trans (hr.cell i h)⟩
 refine callsIn_of_wp Tryz.func175 rfl trivial ?_ rfl
 simp only[Tryz.ntmps175,List.size_toArray,List.length_cons,List.length_nil,Nat.reduceAdd,Nat.reduceSub,Array.replicate_succ,Array.replicate_zero,List.push_toArray,List.append_toArray,List.nil_append,List.cons_append]
 have c1:=hrW.box.cell
 have wl:IntKind.i64.wrap ((vs.length:Int)-1)=(vs.length:Int)-1:=by rw[IntKind.wrap_i64];omega
 gi_wp2
 clear c1
 gi_loopg[3]vs.length(fun k v wr=>∃(pre:List Elt),k≤vs.length∧v=.int .i64 ((k:Int)-1)∧Hid (pre++backs (vs.take k)=backs vs)∧Rev wr c g off cap vs∧J pre wr)
 case atStart=>exact⟨[],Nat.le_refl _,rfl,by rw[Hid,List.take_of_length_le (Nat.le_refl _)];rfl,hrW,h0⟩
 case round=>
  obtain⟨pre,hk,rfl,HX,hcr,hj⟩:=hrel
  cases gk with
  |zero=>
   have HE:pre=backs vs:=by have:=HX.out;simpa[backs]using this
   subst HE
   gi_wp2
   go_end0
   exact⟨⟨_,rfl⟩,.inl hj⟩
  |succ k=>
   have hkl:k<vs.length:=by omega
   have e0:((k+1:Nat):Int)-1=(k:Int):=by omega
   have hkl':(k:Int)<(vs.length:Int):=by omega
   have HX2:backs vs=pre++(k,vs[k])::backs (vs.take k):=by rw[←HX.out,backs_take vs k hkl]
   obtain⟨fn,tmps,assign,body,hy,hR⟩:=hY pre (k,vs[k]) _ wr HX2 hj
   have HX3:Hid ((pre++[(k,vs[k])])++backs (vs.take k)=backs vs):=by rw[Hid,HX2];simp
   clear HX HX2
   have c1:=hcr.box.cell
   have c2:=hcr.cell k hkl
   obtain⟨va,vm,vk,hv⟩:=hsl vs[k] (List.getElem_mem hkl)
   have wk:IntKind.i64.wrap ((k:Int)-1)=(k:Int)-1:=by rw[IntKind.wrap_i64];omega
   rw[e0]
   simp only[encB]at hy
   generalize vs[k]=x at*
   subst hv
   gi_wp2
   refine⟨wide_depth _,hR.mono ?_⟩
   rintro e W3(⟨rfl,hJ3,hk3⟩|⟨rfl,hJx3⟩)
   ·have hc3:Rev W3 c g off cap vs:=⟨(hk3 c h1 hc).trans hcr.box,fun i h=>(cell_keep hk3 h2 (World.block_lt_of_cell? w _ (hr.cell i h))).trans (hcr.cell i h)⟩
    gi_wp2
    gi_roundg k
    case measure=>omega
    case rel=>exact⟨_,by omega,rfl,HX3,hc3,hJ3⟩
   ·gi_wp2
    refine bodyPost_ret (results_none rfl _ _ _) rfl ?_
    exact⟨⟨_,rfl⟩,.inr ⟨_,hJx3⟩⟩
end Go.Proofs.YtbbeciofgnkggaaGreatDoor.nam
namespace Go.Proofs.YtbbeciofgnkggaaGreatDoor.nam
open Go.RowKit lin
def Bd(w:World)(B:Nat)(l:List UInt8):Prop:=Lib.IsBuilderF 49 5 B B (Lib.byteCells l) w
theorem Bd.lt{w:World}{B:Nat}{l:List UInt8}(h:Bd w B l):B<w.heap.size:=by
 rcases h with h|h
 ·exact h.lt
 ·exact h.lt
theorem byteCells_append(a b:List UInt8):Lib.byteCells (a++b)=Lib.byteCells a++Lib.byteCells b:=by simp[Lib.byteCells]
theorem wbyte_any(B:Nat)(l:List UInt8)(c:Int)(w:World)(h:Bd w B l)(hlen:l.length+1≤140737488355328)(h0:0≤c)(h1:c<256):
  Calls Tryz.prog 73 #[.pointer (some ⟨B,0,none⟩),.int .u8 c] w fun e w'=>e=.returned .nilIface∧Bd w' B (l++[UInt8.ofNat c.toNat])∧Below B w w':=by
 refine(Any.Builder_WriteByte_k Tryz.lays167 Tryz.Builder_Extra_167 B B (Lib.byteCells l) c w h (by rw[Lib.byteCells_length];exact hlen) (Nat.le_of_lt h.lt)).mono ?_
 rintro e w'⟨rfl,h2,h3,_⟩
 refine⟨rfl,.inr ?_,h3⟩
 rw[byteCells_append]
 have:Lib.byteCells [UInt8.ofNat c.toNat]=[.int .u8 c]:=by simp[Lib.byteCells];omega
 rw[this]
 exact h2
theorem len_any(B:Nat)(l:List UInt8)(w:World)(h:Bd w B l):
  Calls Tryz.prog 173 #[.pointer (some ⟨B,0,none⟩)] w fun e w'=>e=.returned (.int .i64 l.length)∧w'=w:=
 (Tryz.Builder_Len_f B B (Lib.byteCells l) w h).mono fun e w'⟨h1,h2⟩=>⟨by rw[h1,Lib.byteCells_length],h2⟩
theorem string_any(B:Nat)(l:List UInt8)(w:World)(h:Bd w B l):
  Calls Tryz.prog 17 #[.pointer (some ⟨B,0,none⟩)] w fun e w'=>e=.returned (.string (BA l))∧Below B w w':=
 (Tryz.Builder_String_any_k B B l w h (Nat.le_of_lt h.lt)).mono fun e w'⟨h1,_,h3,_⟩=>⟨h1,h3⟩
theorem Bd.new(w:World):Bd (w.alloc (.cells #[.pointer none,.slice none 0 0] 49)) w.heap.size []:=
 .inl ⟨Nat.le_refl _,.slice none 0 0,World.alloc_heap_new w _,World.ownsRowF_nil _ _ _ _,by simp[Value.ownBlock]⟩
end Go.Proofs.YtbbeciofgnkggaaGreatDoor.nam
namespace Go.Proofs.YtbbeciofgnkggaaGreatDoor.nam
open Go.RowKit lin
theorem loose_any(s:ByteArray)(w:World)(hs:s.size≤140737488355327):
  Calls Tryz.prog 163 #[.string s] w fun e w'=>e=.returned (.string (BA (looseL s.data.toList)))∧Below w.heap.size w w':=by
 have BN:Hid (Bd (w.alloc (.cells #[.pointer none,.slice none 0 0] 49)) w.heap.size []):=Bd.new w
 have HNX:Hid (∀k(h:k<s.size),s.data.toList.take (k+1)=s.data.toList.take k++[s[k]'h]):=take_next s
 have HLN:Hid (∀k,k≤s.size→(sift (s.data.toList.take k)).length≤k):=fun k hk=>Nat.le_trans (sift_len _) (by rw[List.length_take];omega)
 have HALL:Hid (s.data.toList.take s.size=s.data.toList):=List.take_of_length_le (by simp)
 go_enter Tryz.func163,Tryz.ntmps163
 go_wp2
 go_loopw[8](fun i wr=>∃k:Nat,k≤s.size∧i=.int .i64 k∧Hid (Bd wr w.heap.size (sift (s.data.toList.take k)))∧Below w.heap.size w wr)(fun i _=>s.size-(RowKit.intOf i).toNat)
 case atStart=>exact⟨0,Nat.zero_le _,rfl,BN,(Below.refl _ w).alloc (Nat.le_refl _) _⟩
 case round=>
  clear BN
  obtain⟨k,hk,rfl,HB,hbel⟩:=hrel
  by_cases hlt:k<s.size
  ·have hlt':(k:Int)<(s.size:Int):=by omega
   have hl:=HLN.out k hk
   have htk:=HNX.out k hlt
   have hbs:=hbel.size
   have hlo:=low_not (s[k]'hlt)
   have hgr:=low_great (s[k]'hlt)
   have hel:=low_else (s[k]'hlt)
   have h256:(s[k]'hlt).toNat<256:=UInt8.toNat_lt _
   have HSN:Hid (sift (s.data.toList.take (k+1))=sift (s.data.toList.take k)++low (s[k]'hlt)):=by rw[Hid,htk,sift_snoc]
   clear htk
   have HX:Hid ((s[k]'hlt)=UInt8.ofNat (s[k]'hlt).toNat):=by simp[Hid]
   have HC:Hid (∃c:UInt8,(s[k]'hlt)=c):=⟨_,rfl⟩
   obtain⟨c,hc⟩:=HC.out
   clear HC
   have hr0:((s[k]'hlt).toNat:Int)=(c.toNat:Int):=by rw[hc]
   rw[hc]at hlo hgr hel h256 HSN HX
   clear hc
   by_cases h1:c.toNat=32∨c.toNat=45∨c.toNat=95
   ·have HN:Hid (sift (s.data.toList.take (k+1))=sift (s.data.toList.take k)):=by rw[Hid,HSN.out,hlo h1,List.append_nil]
    have HB2:Hid (Bd wr w.heap.size (sift (s.data.toList.take (k+1)))):=by rw[Hid,HN.out];exact HB.out
    clear hlo hgr hel HSN HX HN HB
    have h1':(c.toNat:Int)=32∨(c.toNat:Int)=45∨(c.toNat:Int)=95:=by omega
    clear h1 h256
    generalize hr:(c.toNat:Int)=r at*
    clear hr
    cases t1:(r==32)with
    |true=>
     clear h1'
     go_wp2
     exact⟨⟨k+1,by omega,by go_num,HB2,hbel⟩,by simp[Go.RowKit.intOf];omega⟩
    |false=>
     cases t2:(r==45)with
     |true=>
      clear h1'
      go_wp2
      exact⟨⟨k+1,by omega,by go_num,HB2,hbel⟩,by simp[Go.RowKit.intOf];omega⟩
     |false=>
      have t3:(r==95)=true:=by simp at t1 t2⊢;omega
      clear h1'
      go_wp2
      exact⟨⟨k+1,by omega,by go_num,HB2,hbel⟩,by simp[Go.RowKit.intOf];omega⟩
   ·have t1:((c.toNat:Int)==32)=false:=by simp;omega
    have t2:((c.toNat:Int)==45)=false:=by simp;omega
    have t3:((c.toNat:Int)==95)=false:=by simp;omega
    by_cases h2:65≤c.toNat∧c.toNat≤90
    ·have WB:=wbyte_any w.heap.size (sift (s.data.toList.take k)) ((c.toNat:Int)+32) wr HB.out (by omega) (by omega) (by omega)
     have HN:Hid (sift (s.data.toList.take k)++[UInt8.ofNat ((c.toNat:Int)+32).toNat]=sift (s.data.toList.take (k+1))):=by
      rw[Hid,HSN.out,hgr h2.1 h2.2 h1,show((c.toNat:Int)+32).toNat=c.toNat+32 from by omega]
     clear hlo hgr hel HSN HX HB h1
     have h3':(65:Int)≤(c.toNat:Int):=by omega
     have h4':(c.toNat:Int)≤90:=by omega
     clear h2 h256
     generalize hr:(c.toNat:Int)=r at*
     clear hr
     have e1:IntKind.u8.wrap (r-65)=r-65:=by simp[IntKind.wrap,IntKind.signed,IntKind.bits];omega
     have e2:IntKind.u8.wrap (r-65+97)=r+32:=by simp[IntKind.wrap,IntKind.signed,IntKind.bits];omega
     go_wp2_with fail
     refine WB.mono ?_
     rintro e w2⟨rfl,hb2,hbl⟩
     have HB2:Hid (Bd w2 w.heap.size (sift (s.data.toList.take (k+1)))):=by rw[Hid,←HN.out];exact hb2
     have hb3:=hbel.trans hbl
     clear WB HN hb2 hbl hbel
     go_wp2
     exact⟨⟨k+1,by omega,by go_num,HB2,hb3⟩,by simp[Go.RowKit.intOf];omega⟩
    ·have WB:=wbyte_any w.heap.size (sift (s.data.toList.take k)) (c.toNat:Int) wr HB.out (by omega) (by omega) (by omega)
     have HN:Hid (sift (s.data.toList.take k)++[UInt8.ofNat (c.toNat:Int).toNat]=sift (s.data.toList.take (k+1))):=by
      rw[Hid,HSN.out,hel h2 h1,show((c.toNat:Int)).toNat=c.toNat from by omega]
      rw[←HX.out]
     clear hlo hgr hel HSN HX HB h1
     have h2':¬((65:Int)≤(c.toNat:Int)∧(c.toNat:Int)≤90):=by omega
     clear h2 h256
     generalize hr:(c.toNat:Int)=r at*
     clear hr
     by_cases h3:65≤r
     ·have h4':¬r≤90:=by omega
      clear h2'
      go_wp2_with fail
      refine WB.mono ?_
      rintro e w2⟨rfl,hb2,hbl⟩
      have HB2:Hid (Bd w2 w.heap.size (sift (s.data.toList.take (k+1)))):=by rw[Hid,←HN.out];exact hb2
      have hb3:=hbel.trans hbl
      clear WB HN hb2 hbl hbel
      go_wp2
      exact⟨⟨k+1,by omega,by go_num,HB2,hb3⟩,by simp[Go.RowKit.intOf];omega⟩
     ·clear h2'
      go_wp2_with fail
      refine WB.mono ?_
      rintro e w2⟨rfl,hb2,hbl⟩
      have HB2:Hid (Bd w2 w.heap.size (sift (s.data.toList.take (k+1)))):=by rw[Hid,←HN.out];exact hb2
      have hb3:=hbel.trans hbl
      clear WB HN hb2 hbl hbel
      go_wp2
      exact⟨⟨k+1,by omega,by go_num,HB2,hb3⟩,by simp[Go.RowKit.intOf];omega⟩
  ·have hge:¬(k:Int)<(s.size:Int):=by omega
   obtain rfl:k=s.size:=by omega
   rw[HALL.out]at HB
   have LN:=len_any w.heap.size (sift s.data.toList) wr HB.out
   have ST:=string_any w.heap.size (sift s.data.toList) wr HB.out
   have HL1:Hid ((sift s.data.toList).length=2→strip (sift s.data.toList)=sift s.data.toList):=strip_two _
   have HL2:Hid ((sift s.data.toList).length≠2→strip (sift s.data.toList)=Lib.trimPrefix (sift s.data.toList) [105,115]):=strip_trim _
   have HLO:Hid (looseL s.data.toList=strip (sift s.data.toList)):=rfl
   have hl:=HLN.out s.size (Nat.le_refl _)
   rw[HALL.out]at hl
   generalize sift s.data.toList=l at*
   go_wp2_with fail
   refine LN.mono ?_
   rintro e w2⟨rfl,rfl⟩
   by_cases h2:l.length=2
   ·have t1:((l.length:Int)==2)=true:=by simp;omega
    have HE:Hid (looseL s.data.toList=l):=HLO.out.trans (HL1.out h2)
    clear HL1 HL2 HLO
    go_wp2_with fail
    refine ST.mono ?_
    rintro e w3⟨rfl,hb3⟩
    have hb4:=hbel.trans hb3
    go_wp2
    go_ret
    exact⟨by rw[HE.out];rfl,hb4⟩
   ·have t1:((l.length:Int)==2)=false:=by simp;omega
    have HE:Hid (looseL s.data.toList=Lib.trimPrefix l [105,115]):=HLO.out.trans (HL2.out h2)
    clear HL1 HL2 HLO
    go_wp2_with fail
    refine ST.mono ?_
    rintro e w3⟨rfl,hb3⟩
    have hb4:=hbel.trans hb3
    have TP:=Tryz.strings_TrimPrefix (BA l) ⟨#[105,115]⟩ w3
    go_wp2_with fail
    refine TP.mono ?_
    rintro e w4⟨rfl,rfl⟩
    go_wp2
    go_ret
    exact⟨by rw[HE.out];rfl,hb4⟩
end Go.Proofs.YtbbeciofgnkggaaGreatDoor.nam
namespace Go.Proofs.YtbbeciofgnkggaaGreatDoor.nam
theorem wpIn_round_of{P:Program}{o:Oper}{l n:Nat}{a:Act}{w:World}{K:Act→World→Prop}{Q:Exit→Act→World→Prop}(hd:∀c,o.op≠.defer c)(hL:¬LetsOut Q)
  (h:o.wp P a w K Q):o.wpIn (Fence.wide.inRound l) n P a w K Q:=by
 refine⟨fun _ _=>trivial,?_⟩
 rw[Oper.semAt_eq _ _ _ hd]
 unfold Oper.wp at h
 generalize(execOp a.eval o).run P w=r at h
 cases r with
 |ok x w'=>
  cases x<;>simp only[Oper.upon,Oper.uponIn]at h⊢<;>try exact h
  ·exact⟨fun h=>by simp[Fence.wide,Fence.inRound]at h,CallsIn.mono (callsIn_wide.2 h:CallsIn Fence.wide (n-1) P _ _ _ _) fun e w2 he=>by cases e<;>exact he⟩
  ·exact⟨fun h=>by simp[Fence.wide,Fence.inRound]at h,fun c cs _=>let⟨v,w2,r,s⟩:=h c cs;⟨v,w2,r,stepsIn_wide.2 s⟩⟩
 |halt x w'=>cases x<;>simp only[Oper.upon,Oper.uponIn]at h⊢<;>exact h
theorem wpAnyIn_round{P:Program}{ops:Array Oper}{l n:Nat}{md:Region.Mode}{Q:Exit→Act→World→Prop}(hd:∀o∈ops.toList,∀c,o.op≠.defer c)(hL:¬LetsOut Q):
  ∀(fuel:Nat)(listed:Array Bool)(a:Act)(w:World),wpAny P md ops Q fuel listed a w→wpAnyIn (Fence.wide.inRound l) n P md ops Q fuel listed a w
 |0,_,_,_,h=>h
 |fuel+1,listed,a,w,h=>⟨h.1,fun i hi=>by
   have h2:=h.2 i hi
   unfold wpOp at h2
   unfold wpOpIn
   cases ho:ops[i]? with
   |none=>rw[ho]at h2;exact wpAnyIn_round hd hL fuel _ _ _ h2
   |some o=>
    rw[ho]at h2
    simp only at h2⊢
    have hdo:∀c,o.op≠.defer c:=hd o (Array.mem_toList_iff.2 (Array.mem_of_getElem? ho))
    split
    ·rename_i hw
     rw[if_pos hw]at h2
     rcases h2 with h2|⟨_,h2⟩
     ·exact wpIn_round_of hdo hL (Oper.wp_mono (fun a' w' h'=>wpAnyIn_round hd hL fuel _ a' w' h') h2)
     ·exact absurd h2 hL
    ·rename_i hw
     rw[if_neg hw]at h2
     exact⟨fun _ _=>trivial,wpAnyIn_round hd hL fuel _ _ _ h2⟩⟩
/--No operation of it is a defer statement. -/
def noDefer(ops:Array Oper):Bool:=ops.toList.all fun o=>match o.op with|.defer _=>false|_=>true
theorem noDefer_spec{ops:Array Oper}(h:noDefer ops=true):∀o∈ops.toList,∀c,o.op≠.defer c:=fun o ho c e=>by
 have:=List.all_eq_true.1 h o ho
 simp[e]at this
/--The beginning. -/
theorem wpIn_region_round{P:Program}{ops:Array Oper}{id l n:Nat}{Q:Exit→Act→World→Prop}{S:World→Prop}{a:Act}{w:World}(hm:P.follows .mixedOrders=true)(hd:noDefer ops=true)(hL:¬LetsOut Q)(hS:S w.drew)
  (h:S w.drew→wpAnyH P .any ops Q S ops.size (Array.replicate ops.size false) a w.drew):(Code.region id ops true).wpIn (Fence.wide.inRound l) n P Q a w:=
 wpIn_region_any hm (wpAnyIn_round (noDefer_spec hd) hL _ _ _ _ (wpAny_of_held _ _ _ _ (h hS)))
end Go.Proofs.YtbbeciofgnkggaaGreatDoor.nam
