import Derived.Test.YtbbeciofgnkggaaGreatDoorBqTok3
import Derived.Test.YtbbeciofgnkggaaGreatDoorBqUtf2
import Derived.Test.YtbbeciofgnkggaaGreatDoorBqUtf1
set_option linter.unusedSimpArgs false
set_option linter.unusedVariables false
section
namespace Go.Proofs.YtbbeciofgnkggaaGreatDoor.tok
open utf(it len it_end)
open lin(BA)
def In{α:Type}(st lo n:Nat):Out α→Prop
 |.ok _ a=>lo≤a∧a≤n
 |.no c p=>c≠0∧st≤p∧p≤n
theorem In.bind{α β:Type}{st lo n:Nat}{o:Out α}{g:α→Nat→Out β}(h:In st lo n o)(hk:∀v a,lo≤a→a≤n→In st lo n (g v a)):In st lo n (o.bind g):=by
 cases o with
 |ok v a=>exact hk v a h.1 h.2
 |no c p=>exact h
theorem In.weak{α:Type}{st lo lo' n:Nat}{o:Out α}(h:In st lo n o)(hl:lo'≤lo):In st lo' n o:=by
 cases o with
 |ok v a=>exact⟨by have:=h.1;omega,h.2⟩
 |no c p=>exact h
theorem In.ite{α:Type}{st lo n:Nat}{c:Prop}[Decidable c]{x y:Out α}(hx:In st lo n x)(hy:In st lo n y):In st lo n (if c then x else y):=by split<;>assumption
/--What comes of a step has this property. -/
def Gives{α:Type}(P:α→Prop):Out α→Prop
 |.ok v _=>P v
 |.no _ _=>True
theorem Gives.bind{α β:Type}{P:β→Prop}{o:Out α}{g:α→Nat→Out β}(hk:∀v a,Gives P (g v a)):Gives P (o.bind g):=by
 cases o with
 |ok v a=>exact hk v a
 |no c p=>trivial
theorem Gives.ite{α:Type}{P:α→Prop}{c:Prop}[Decidable c]{x y:Out α}(hx:Gives P x)(hy:Gives P y):Gives P (if c then x else y):=by split<;>assumption
section
variable(f:Nat→Int)(n:Nat)
theorem noneC_ne(st:Nat):noneC f st≠0:=by unfold noneC;(repeat' split)<;>decide
theorem nope_in{α:Type}(st lo:Nat)(h:st≤n):In st lo n (nope f st:Out α):=⟨noneC_ne f st,Nat.le_refl _,h⟩
theorem point_in(st a:Nat)(h:st≤a)(hs:st≤n):In st (a+1) n (point f n a):=by
 unfold point
 split
 ·rename_i ha
  have:=it_end f n a ha
  split
  ·exact⟨by omega,by omega⟩
  ·exact⟨by decide,h,by omega⟩
 ·exact⟨by decide,hs,Nat.le_refl _⟩
theorem octet_in(st a:Nat)(h:st≤a)(hs:st≤n):In st (a+1) n (octet f n a):=by
 unfold octet
 split
 ·exact⟨by omega,by omega⟩
 ·exact⟨by decide,hs,Nat.le_refl _⟩
theorem want_in(st:Nat)(c:Int)(a:Nat)(h:st≤a)(hs:st≤n):In st (a+1) n (want f n st c a):=by
 unfold want
 refine(octet_in f n st a h hs).bind fun v a' h1 h2=>?_
 split
 ·exact⟨h1,h2⟩
 ·exact nope_in f n st _ hs
theorem numR_in(st:Nat)(base:Int)(hs:st≤n):∀left acc first a,st≤a→In st (a+1) n (numR f n st base left acc first a):=by
 intro left
 induction left with
 |zero=>
  intro acc first a h
  rw[numR_step]
  refine(octet_in f n st a h hs).bind fun v a' h1 h2=>?_
  split
  ·exact nope_in f n st _ hs
  ·split
   ·exact nope_in f n st _ hs
   ·exact⟨h1,h2⟩
 |succ left ih=>
  intro acc first a h
  rw[numR_step]
  refine(octet_in f n st a h hs).bind fun v a' h1 h2=>?_
  split
  ·exact(ih _ _ a' (by omega)).weak (by omega)
  ·split
   ·exact nope_in f n st _ hs
   ·exact⟨h1,h2⟩
theorem number_in(st:Nat)(base:Int)(most a:Nat)(hs:st≤n)(h:st≤a):In st (a+1) n (number f n st base most a):=numR_in f n st base hs most 0 true a h
theorem nmR_step(st b left a:Nat):nmR f n st b left a=(octet f n a).bind fun c a'=>
  if c=62∧b<a then .ok (bytes f b a) a'
  else match left with
  |0=>nope f st
  |left+1=>if nmC c (decide (a=b))=true then nmR f n st b left a' else nope f st:=by
 cases left<;>rfl
theorem nmR_in(st b:Nat)(hs:st≤n):∀left a,st≤a→In st (a+1) n (nmR f n st b left a):=by
 intro left
 induction left with
 |zero=>
  intro a h
  rw[nmR_step]
  refine(octet_in f n st a h hs).bind fun v a' h1 h2=>?_
  split
  ·exact⟨h1,h2⟩
  ·exact nope_in f n st _ hs
 |succ left ih=>
  intro a h
  rw[nmR_step]
  refine(octet_in f n st a h hs).bind fun v a' h1 h2=>?_
  split
  ·exact⟨h1,h2⟩
  ·simp only[]
   split
   ·exact(ih a' (by omega)).weak (by omega)
   ·exact nope_in f n st _ hs
theorem name_in(st a:Nat)(hs:st≤n)(h:st≤a):In st (a+1) n (name f n st a):=nmR_in f n st a hs 20 a h
theorem exprR_in(st:Nat)(hs:st≤n):∀m a,st≤a→In st (a+1) n (exprR f n m a):=by
 intro m
 induction m with
 |zero=>intro a h;exact⟨by decide,hs,Nat.le_refl _⟩
 |succ m ih=>
  intro a h
  simp only[exprR]
  refine(point_in f n st a h hs).bind fun v a' h1 h2=>?_
  split
  ·exact⟨h1,h2⟩
  ·exact(ih a' (by omega)).weak (by omega)
theorem meant_in(st b e:Nat)(h:st≤n)(he:e≤n):In st e n (meant f st b e):=by
 unfold meant
 split
 ·exact⟨Nat.le_refl _,he⟩
 ·rename_i hc;exact⟨hc,Nat.le_refl _,h⟩
theorem expr_in(st a:Nat)(hs:st≤n)(h:st≤a):In st (a+1) n (expr f n st a):=by
 unfold expr
 refine(want_in f n st 123 a h hs).bind fun v b h1 h2=>?_
 refine((exprR_in f n st hs (n+1-b) b (by omega)).weak (by omega)).bind fun u e h3 h4=>?_
 exact(meant_in f n st b e hs h4).weak h3
theorem hex_in(st a:Nat)(hs:st≤n)(h:st≤a):In st (a+1) n (hex f n st a):=by
 unfold hex
 refine(want_in f n st 123 a h hs).bind fun v b h1 h2=>?_
 refine((number_in f n st 16 6 b hs (by omega)).weak (by omega)).bind fun u e h3 h4=>?_
 split
 ·exact⟨h3,h4⟩
 ·exact nope_in f n st _ hs
theorem at_lt{a:Nat}{c:Int}(h:at_ f n a c=true):a<n∧f a=c:=by unfold at_ at h;simpa using h
theorem edge_in(st:Nat)(x y z:Int)(a:Nat)(hs:st≤n)(h:st≤a)(ha:a≤n):In st a n (edge f n st x y z a):=by
 unfold edge
 split
 ·refine((octet_in f n st (a+1) (by omega) hs).weak (by omega)).bind fun c b h1 h2=>?_
  split
  ·exact((want_in f n st 125 b (by omega) hs).weak (by omega)).bind fun u e h3 h4=>⟨h3,h4⟩
  ·split
   ·exact((want_in f n st 125 b (by omega) hs).weak (by omega)).bind fun u e h3 h4=>⟨h3,h4⟩
   ·exact nope_in f n st _ hs
 ·exact⟨Nat.le_refl _,ha⟩
theorem back_in(st a:Nat)(hs:st≤n)(h:st≤a):In st a n (back f n st a):=by
 unfold back
 refine((octet_in f n st a h hs).weak (by omega)).bind fun c b h1 h2=>?_
 split
 ·exact((name_in f n st b hs (by omega)).weak (by omega)).bind fun u e h3 h4=>⟨h3,h4⟩
 ·split
  ·refine((number_in f n st 10 2 b hs (by omega)).weak (by omega)).bind fun u e h3 h4=>?_
   split
   ·exact⟨h3,h4⟩
   ·exact nope_in f n st _ hs
  ·exact nope_in f n st _ hs
theorem rep_in(st:Nat)(x y:Int)(a:Nat)(ha:a≤n):In st a n (rep f n x y a):=by
 unfold rep
 split
 ·rename_i h;have:=at_lt f n h;exact⟨by omega,by omega⟩
 ·split
  ·rename_i h;have:=at_lt f n h;exact⟨by omega,by omega⟩
  ·exact⟨Nat.le_refl _,ha⟩
theorem counted_in(st a:Nat)(hs:st≤n)(h:st≤a):In st a n (counted f n st a):=by
 unfold counted
 refine((number_in f n st 10 3 a hs h).weak (by omega)).bind fun q b h1 h2=>?_
 split
 ·rename_i hq
  have:=at_lt f n hq.2
  split
  ·exact(rep_in f n st _ _ (b+1) (by omega)).weak (by omega)
  ·exact nope_in f n st _ hs
 ·split
  ·refine((number_in f n st 10 3 b hs (by omega)).weak (by omega)).bind fun p e h3 h4=>?_
   split
   ·exact(rep_in f n st _ _ e h4).weak h3
   ·exact nope_in f n st _ hs
  ·split
   ·exact(rep_in f n st _ _ b h2).weak h1
   ·exact nope_in f n st _ hs
theorem openLeft_in(st a:Nat)(hs:st≤n)(h:st≤a)(ha:a≤n):In st a n (openLeft f n st a):=by
 unfold openLeft
 split
 ·rename_i h;have:=at_lt f n h;exact⟨by omega,by omega⟩
 ·split
  ·rename_i h;have:=at_lt f n h;exact⟨by omega,by omega⟩
  ·exact((name_in f n st a hs h).weak (by omega)).bind fun u e h3 h4=>⟨h3,h4⟩
theorem open_in(st a:Nat)(hs:st≤n)(h:st≤a)(ha:a≤n):In st a n (open_ f n st a):=by
 unfold open_
 split
 ·refine((octet_in f n st (a+1) (by omega) hs).weak (by omega)).bind fun c b h1 h2=>?_
  (repeat' split)<;>first|exact⟨h1,h2⟩|exact(openLeft_in f n st b hs (by omega) h2).weak h1|exact nope_in f n st _ hs
 ·exact⟨Nat.le_refl _,ha⟩
theorem class_in(st a:Nat)(ha:a≤n):In st a n (class_ f n a):=by
 unfold class_
 split
 ·rename_i h;have:=at_lt f n h;exact⟨by omega,by omega⟩
 ·exact⟨Nat.le_refl _,ha⟩
theorem with_in{st lo k:Nat}{o:Out Tk}(h:In st lo n o):In st lo n (o.with_ k):=h.bind fun v a h1 h2=>⟨h1,h2⟩
theorem within_in(st:Nat)(r:Int)(a k:Nat)(ha:a≤n):In st a n (within f n r a k):=by
 unfold within
 split
 ·exact with_in n (class_in f n st a ha)
 ·split
  ·exact⟨Nat.le_refl _,ha⟩
  ·split
   ·rename_i h;have:=at_lt f n h.2;exact⟨by omega,by omega⟩
   ·split
    ·rename_i h;have:=at_lt f n h.2;exact⟨by omega,by omega⟩
    ·split
     ·rename_i h;have:=at_lt f n h.2;exact⟨by omega,by omega⟩
     ·split<;>exact⟨Nat.le_refl _,ha⟩
theorem mark_in(st:Nat)(r:Int)(a:Nat)(hs:st≤n)(h:st≤a)(ha:a≤n):In st a n (mark f n st r a):=by
 unfold mark
 (repeat' split)<;>first|exact⟨Nat.le_refl _,ha⟩|exact open_in f n st a hs h ha|exact rep_in f n st _ _ a ha|exact counted_in f n st a hs h
theorem outside_in(st:Nat)(r:Int)(a k:Nat)(hs:st≤n)(h:st≤a)(ha:a≤n):In st a n (outside f n st r a k):=by
 unfold outside
 split
 ·exact with_in n (class_in f n st a ha)
 ·exact with_in n (mark_in f n st r a hs h ha)
theorem escOut_in(st:Nat)(r:Int)(a:Nat)(hs:st≤n)(h:st≤a)(ha:a≤n):In st a n (escOut f n st r a):=by
 unfold escOut
 (repeat' split)<;>first|exact⟨Nat.le_refl _,ha⟩|exact edge_in f n st _ _ _ a hs h ha|exact back_in f n st a hs h|exact nope_in f n st _ hs
theorem escape_in(st a k:Nat)(hs:st≤n)(h:st≤a):In st a n (escape f n st a k):=by
 unfold escape
 refine((point_in f n st a h hs).weak (by omega)).bind fun r b h1 h2=>?_
 have hx:=(expr_in f n st b hs (by omega)).weak (show a≤b+1 by omega)
 repeat' first|exact(escOut_in f n st r b hs (by omega) h2).weak h1|exact(hex_in f n st b hs (by omega)).weak (by omega)|refine In.ite ?_ ?_
 all_goals first|exact⟨h1,h2⟩|exact hx.bind (fun u e h3 h4=>⟨h3,h4⟩)|exact(hex_in f n st b hs (by omega)).weak (by omega)|exact nope_in f n st _ hs|exact(escOut_in f n st r b hs (by omega) h2).weak h1
theorem token_in(st k:Nat)(hs:st≤n):In st (st+1) n (token f n st k):=by
 unfold token
 refine(point_in f n st st (Nat.le_refl _) hs).bind fun r a h1 h2=>?_
 split
 ·exact with_in n ((escape_in f n st a k hs (by omega)).weak h1)
 ·split
  ·exact(within_in f n st r a k h2).weak h1
  ·exact(outside_in f n st r a k hs (by omega) h2).weak h1
/--How many classes may be open behind a token; its kind. -/
def Fine(k:Nat)(t:Tk×Nat):Prop:=t.2≤k+1∧1≤t.1.kind∧t.1.kind≤14
def Kind(t:Tk):Prop:=1≤t.kind∧t.kind≤14
theorem with_fine{k k':Nat}{o:Out Tk}(h:Gives Kind o)(hk:k'≤k+1):Gives (Fine k) (o.with_ k'):=by
 cases o with
 |ok t a=>exact⟨hk,h⟩
 |no c p=>trivial
theorem rep_kind(x y:Int)(a:Nat):Gives Kind (rep f n x y a):=by unfold rep;(repeat' split)<;>exact⟨by show(1:Int)≤6;decide,by show(6:Int)≤14;decide⟩
theorem class_kind(a:Nat):Gives Kind (class_ f n a):=by unfold class_;(repeat' split)<;>exact⟨by decide,by decide⟩
theorem counted_kind(st a:Nat):Gives Kind (counted f n st a):=by
 unfold counted
 refine Gives.bind fun q b=>?_
 split
 ·split
  ·exact rep_kind f n _ _ _
  ·trivial
 ·split
  ·refine Gives.bind fun p e=>?_
   split
   ·exact rep_kind f n _ _ _
   ·trivial
  ·split
   ·exact rep_kind f n _ _ _
   ·trivial
theorem openLeft_kind(st a:Nat):Gives Kind (openLeft f n st a):=by
 unfold openLeft
 (repeat' split)<;>first|exact⟨by decide,by decide⟩|exact Gives.bind fun q b=>⟨by show(1:Int)≤3;decide,by show(3:Int)≤14;decide⟩
theorem open_kind(st a:Nat):Gives Kind (open_ f n st a):=by
 unfold open_
 split
 ·refine Gives.bind fun c b=>?_
  (repeat' split)<;>first|exact⟨by decide,by decide⟩|exact openLeft_kind f n st b|trivial
 ·exact⟨by decide,by decide⟩
theorem edge_kind(st:Nat)(x y z:Int)(a:Nat):Gives Kind (edge f n st x y z a):=by
 unfold edge
 split
 ·refine Gives.bind fun c b=>?_
  (repeat' split)<;>first|exact Gives.bind fun q b=>⟨by show(1:Int)≤7;decide,by show(7:Int)≤14;decide⟩|trivial
 ·exact⟨by show(1:Int)≤7;decide,by show(7:Int)≤14;decide⟩
theorem back_kind(st a:Nat):Gives Kind (back f n st a):=by
 unfold back
 refine Gives.bind fun c b=>?_
 split
 ·exact Gives.bind fun q b=>⟨by show(1:Int)≤9;decide,by show(9:Int)≤14;decide⟩
 ·split
  ·refine Gives.bind fun q b=>?_
   split
   ·exact⟨by show(1:Int)≤9;decide,by show(9:Int)≤14;decide⟩
   ·trivial
  ·trivial
theorem hex_kind(st a:Nat):Gives Kind (hex f n st a):=by
 unfold hex
 refine Gives.bind fun c b=>Gives.bind fun q b=>?_
 split
 ·exact⟨by show(1:Int)≤1;decide,by show(1:Int)≤14;decide⟩
 ·trivial
theorem mark_kind(st:Nat)(r:Int)(a:Nat):Gives Kind (mark f n st r a):=by
 unfold mark
 (repeat' split)<;>first|exact⟨by show(1:Int)≤_;decide,by show _≤(14:Int);decide⟩|exact open_kind f n st a|exact rep_kind f n _ _ _|exact counted_kind f n st a|exact⟨by show(1:Int)≤1;decide,by show(1:Int)≤14;decide⟩
theorem escOut_kind(st:Nat)(r:Int)(a:Nat):Gives Kind (escOut f n st r a):=by
 unfold escOut
 (repeat' split)<;>first|exact⟨by show(1:Int)≤7;decide,by show(7:Int)≤14;decide⟩|exact edge_kind f n st _ _ _ a|exact⟨by show(1:Int)≤10;decide,by show(10:Int)≤14;decide⟩|exact back_kind f n st a|exact⟨by show(1:Int)≤9;decide,by show(9:Int)≤14;decide⟩|trivial
theorem escape_kind(st a k:Nat):Gives Kind (escape f n st a k):=by
 unfold escape
 refine Gives.bind fun r b=>?_
 repeat' first|exact escOut_kind f n st r b|exact hex_kind f n st b|refine Gives.ite ?_ ?_
 all_goals first|exact⟨by show(1:Int)≤8;decide,by show(8:Int)≤14;decide⟩|exact⟨by show(1:Int)≤1;decide,by show(1:Int)≤14;decide⟩|exact Gives.bind (fun u e=>⟨by show(1:Int)≤8;decide,by show(8:Int)≤14;decide⟩)|exact hex_kind f n st b|exact escOut_kind f n st r b|trivial
theorem within_fine(r:Int)(a k:Nat):Gives (Fine k) (within f n r a k):=by
 unfold within
 split
 ·exact with_fine (class_kind f n a) (Nat.le_refl _)
 ·(repeat' split)<;>first|exact⟨by show k-1≤_;omega,by show(1:Int)≤12;decide,by show(12:Int)≤14;decide⟩|exact⟨by show k≤_;omega,by show(1:Int)≤14;decide,by show(14:Int)≤14;decide⟩|exact⟨by show k≤_;omega,by show(1:Int)≤13;decide,by show(13:Int)≤14;decide⟩|exact⟨by show k≤_;omega,by show(1:Int)≤1;decide,by show(1:Int)≤14;decide⟩
theorem token_fine(st k:Nat):Gives (Fine k) (token f n st k):=by
 unfold token
 refine Gives.bind fun r a=>?_
 split
 ·exact with_fine (escape_kind f n st a k) (by omega)
 ·split
  ·exact within_fine f n r a k
  ·unfold outside
   split
   ·exact with_fine (class_kind f n a) (Nat.le_refl _)
   ·exact with_fine (mark_kind f n st r a) (by omega)
theorem token_val{st k:Nat}{t:Tk×Nat}{a:Nat}(h:token f n st k=.ok t a)(hs:st≤n):st<a∧a≤n∧t.2≤k+1∧1≤t.1.kind∧t.1.kind≤14:=by
 have h1:=token_in f n st k hs
 have h2:=token_fine f n st k
 rw[h]at h1 h2
 exact⟨h1.1,h1.2,h2⟩
theorem scanR_fuel:∀m a k,n≤a+m→∀m',n≤a+m'→scanR f n m a k=scanR f n m' a k:=by
 intro m
 induction m with
 |zero=>
  intro a k h m' hm
  cases m' with
  |zero=>rfl
  |succ m'=>simp only[scanR];rw[if_neg (by omega)]
 |succ m ih=>
  intro a k h m' hm
  cases m' with
  |zero=>simp only[scanR];rw[if_neg (by omega)]
  |succ m'=>
   simp only[scanR]
   by_cases ha:a<n
   ·rw[if_pos ha,if_pos ha]
    cases ho:token f n a k with
    |no c p=>rfl
    |ok t a'=>
     have:=token_val f n ho (by omega)
     simp only[]
     rw[ih a' t.2 (by omega) m' (by omega)]
   ·rw[if_neg ha,if_neg ha]
/--What is left to scan. -/
def scanA(a k:Nat):List Tk×Int×Nat:=scanR f n (n-a) a k
theorem scanA_ok{a k:Nat}{t:Tk×Nat}{a':Nat}(h:token f n a k=.ok t a')(ha:a<n):scanA f n a k=({t.1 with s:=a,e:=a'}::(scanA f n a' t.2).1,(scanA f n a' t.2).2):=by
 have hv:=token_val f n h (by omega)
 unfold scanA
 rw[show n-a=(n-a-1)+1 by omega]
 simp only[scanR]
 rw[if_pos ha,h]
 simp only[]
 rw[scanR_fuel f n (n-a-1) a' t.2 (by omega) (n-a') (by omega)]
theorem scanA_no{a k:Nat}{c:Int}{p:Nat}(h:token f n a k=.no c p)(ha:a<n):scanA f n a k=([],c,p):=by
 unfold scanA
 rw[show n-a=(n-a-1)+1 by omega]
 simp only[scanR]
 rw[if_pos ha,h]
theorem scanA_end(k:Nat):scanA f n n k=([],0,0):=by unfold scanA;rw[Nat.sub_self];rfl
theorem scanL_A(h:n≤2000):scanL f n=scanA f n 0 0:=by unfold scanL scanA;rw[if_pos h];rfl
end
end Go.Proofs.YtbbeciofgnkggaaGreatDoor.tok
end
section
namespace Go.Proofs.YtbbeciofgnkggaaGreatDoor.tok
open utf(it len it_end)
def Chain:Nat→List Tk→Nat→Prop
 |a,[],b=>a=b
 |a,t::l,b=>t.s=a∧a<t.e∧1≤t.kind∧t.kind≤14∧Chain t.e l b
/--Where tokens end. -/
def endT:Nat→List Tk→Nat
 |a,[]=>a
 |_,t::l=>endT t.e l
section
variable(f:Nat→Int)(n:Nat)
end
end Go.Proofs.YtbbeciofgnkggaaGreatDoor.tok
end
section
namespace Go.Proofs.YtbbeciofgnkggaaGreatDoor.tok
open utf(it len it_end enc it_ext it_shift it_enc enc_pos enc_of_1 len_1)
def Here(f:Nat→Int)(n a:Nat)(L:List Int):Prop:=a+L.length≤n∧∀i,i<L.length→f (a+i)=L.getD i 0
theorem point_here{f:Nat→Int}{n a:Nat}{r:Int}(hr:len r≠0)(h:Here f n a (enc r)):point f n a=.ok r (a+(enc r).length):=by
 have hp:=enc_pos r hr
 have h1:=h.1
 have e1:=it_ext (fun i=>(enc r).getD i 0) (fun i=>f (a+i)) (enc r).length (n-a) 0 (by omega) hp.1 (fun i hi=>h.2 i hi) (by rw[it_enc r hr])
 rw[it_enc r hr,it_shift,show a+(n-a)=n by omega,show a+0=a by omega]at e1
 have he:=it_end f n a (by omega)
 have e2:(it f n a).1=r:=congrArg (·.1) e1
 have e3:(it f n a).2.1-a=(enc r).length:=congrArg (·.2.1) e1
 have e4:(it f n a).2.2=true:=congrArg (·.2.2) e1
 unfold point
 rw[if_pos (by omega),if_pos e4,e2,show(it f n a).2.1=a+(enc r).length by omega]
theorem enc_low(r:Int)(h0:0≤r)(h1:r≤127):enc r=[r]:=enc_of_1 r (len_1 r h0 h1)
theorem len_low(r:Int)(h0:0≤r)(h1:r≤127):len r≠0:=by rw[len_1 r h0 h1];decide
/--A byte below 128 is a code point. -/
theorem point_low{f:Nat→Int}{n a:Nat}{r:Int}(h0:0≤r)(h1:r≤127)(ha:a<n)(hf:f a=r):point f n a=.ok r (a+1):=by
 have:=point_here (f:=f) (n:=n) (a:=a) (len_low r h0 h1) (by rw[enc_low r h0 h1];exact⟨by simp;omega,fun i hi=>by simp at hi;subst hi;simpa using hf⟩)
 rw[enc_low r h0 h1]at this
 exact this
def dU(d:Int):Int:=if d<10 then 48+d else 55+d
def hexU(r:Int):List Int:=if r<16 then[dU r]else[dU (r/16),dU (r%16)]
def marksO:List Int:=[46,91,40,41,124,42,43,63,123,94,36,92]
def marksC:List Int:=[91,93,94,45,38,126,92]
/--What a pattern says for a code point. -/
def printL(r:Int)(cls:Bool):List Int:=
 if len r=0 then[]else if r<32∨r=127 then[92,120,123]++hexU r++[125]
 else if r∈(if cls=true then marksC else marksO)then 92::enc r else enc r
theorem marks_low(r:Int)(cls:Bool)(h:r∈(if cls=true then marksC else marksO)):32≤r∧r≤126∧letterB r=false∧digitB r=false∧¬(r=100∨r=119∨r=115∨r=68∨r=87∨r=83∨r=112∨r=80∨r=110∨r=116∨r=114∨r=120):=by
 cases cls
 ·simp only[Bool.false_eq_true,if_false,marksO,List.mem_cons,List.not_mem_nil,or_false]at h
  rcases h with rfl|rfl|rfl|rfl|rfl|rfl|rfl|rfl|rfl|rfl|rfl|rfl<;>decide
 ·simp only[if_true,marksC,List.mem_cons,List.not_mem_nil,or_false]at h
  rcases h with rfl|rfl|rfl|rfl|rfl|rfl|rfl<;>decide
section
variable(f:Nat→Int)(n:Nat)
theorem octet_at{a:Nat}{c:Int}(ha:a<n)(h:f a=c):octet f n a=.ok c (a+1):=by unfold octet;rw[if_pos ha,h]
theorem want_at{st a:Nat}{c:Int}(ha:a<n)(h:f a=c):want f n st c a=.ok () (a+1):=by unfold want;rw[octet_at f n ha h,bind_ok,if_pos rfl]
theorem print_pos(r:Int)(cls:Bool)(hr:len r≠0):0<(printL r cls).length∧(printL r cls).length≤6:=by
 have hp:=enc_pos r hr
 unfold printL hexU
 rw[if_neg hr]
 by_cases hc:r<32∨r=127
 ·rw[if_pos hc];split<;>simp
 ·rw[if_neg hc]
  by_cases hm:r∈(if cls=true then marksC else marksO)
  ·rw[if_pos hm,List.length_cons];omega
  ·rw[if_neg hm];omega
theorem print_none(r:Int)(cls:Bool)(hr:len r=0):printL r cls=[]:=by unfold printL;rw[if_pos hr]
end
end Go.Proofs.YtbbeciofgnkggaaGreatDoor.tok
end
