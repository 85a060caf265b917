import Derived.Test.YtbbeciofgnkggaaGreatDoorBqUtf1
set_option linter.unusedSimpArgs false
set_option linter.unusedVariables false
namespace Go.Proofs.YtbbeciofgnkggaaGreatDoor.utf
open Go.RowKit
def seg(f:Nat→Int)(a m:Nat):List Int:=(List.range m).map fun i=>f (a+i)
theorem len_1(r:Int)(h0:0≤r)(h1:r≤127):len r=1:=by unfold len;(repeat' split)<;>omega
theorem enc_of_1(r:Int)(c:len r=1):enc r=[r]:=by unfold enc;rw[if_pos c]
theorem enc_of_2(r:Int)(c:len r=2):enc r=[192+r/64,128+r%64]:=by unfold enc;rw[if_neg (by omega),if_pos c]
theorem enc_of_3(r:Int)(c:len r=3):enc r=[224+r/64/64,128+r/64%64,128+r%64]:=by unfold enc;rw[if_neg (by omega),if_neg (by omega),if_pos c]
theorem enc_of_4(r:Int)(c:len r=4):enc r=[240+r/64/64/64,128+r/64/64%64,128+r/64%64,128+r%64]:=by unfold enc;rw[if_neg (by omega),if_neg (by omega),if_neg (by omega),if_pos c]
/--The bytes of items, written anew. -/
def encs(l:List (Int×Nat×Nat)):List Int:=l.flatMap fun x=>enc x.1
end Go.Proofs.YtbbeciofgnkggaaGreatDoor.utf
namespace Go.Proofs.YtbbeciofgnkggaaGreatDoor.utf
theorem run_ext(f g:Nat→Int)(n N:Nat)(hN:n≤N)(h:∀i,i<n→g i=f i):∀k r e l u,(run f n k r e l u).2.2=true→run g N k r e l u=run f n k r e l u:=by
 intro k
 induction k with
 |zero=>intro r e l u _;simp[run]
 |succ k ih=>
  intro r e l u hk
  by_cases c:e<n∧l≤f e∧f e≤u
  ·have hg:=h e c.1
   rw[run_go f n (k+1) r e l u (by omega) c]at hk⊢
   rw[run_go g N (k+1) r e l u (by omega) (by rw[hg];omega),hg]
   exact ih _ _ _ _ hk
  ·rw[run_stop f n (k+1) r e l u (by omega) c]at hk
   simp at hk
theorem it_ext(f g:Nat→Int)(n N a:Nat)(hN:n≤N)(ha:a<n)(h:∀i,i<n→g i=f i)(hk:(it f n a).2.2=true):it g N a=it f n a:=by
 unfold it at hk⊢
 rw[h a ha]
 split
 ·rfl
 ·rename_i hs
  rw[if_neg hs]at hk
  exact run_ext f g n N hN h _ _ _ _ _ hk
/--Items, so many bytes further on. -/
def shift(d:Nat)(l:List (Int×Nat×Nat)):List (Int×Nat×Nat):=l.map fun x=>(x.1,d+x.2.1,d+x.2.2)
/--The bytes of two texts, one behind the other. -/
def both(fa fb:Nat→Int)(na:Nat):Nat→Int:=fun i=>if i<na then fa i else fb (i-na)
end Go.Proofs.YtbbeciofgnkggaaGreatDoor.utf
