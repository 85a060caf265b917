import Derived.Test.YtgbkolonhddolaaGreatDoorBpUtf1
set_option linter.unusedSimpArgs false
set_option linter.unusedVariables false
namespace Go.Proofs.YtgbkolonhddolaaGreatDoor.utf
open Go.RowKit
/--The bytes from a place up to another. -/
def seg(f:Nat→Int)(a m:Nat):List Int:=(List.range m).map fun i=>f (a+i)
theorem seg_1(f:Nat→Int)(a:Nat):seg f a 1=[f a]:=by simp[seg]
theorem seg_2(f:Nat→Int)(a:Nat):seg f a 2=[f a,f (a+1)]:=by simp[seg,List.range_succ]
theorem seg_3(f:Nat→Int)(a:Nat):seg f a 3=[f a,f (a+1),f (a+2)]:=by simp[seg,List.range_succ]
theorem seg_4(f:Nat→Int)(a:Nat):seg f a 4=[f a,f (a+1),f (a+2),f (a+3)]:=by simp[seg,List.range_succ]
theorem Jf(c:Int):(sz c=1→c≤127)∧(sz c=2→194≤c∧c≤223)∧(sz c=3→224≤c∧c≤239)∧(sz c=4→240≤c∧c≤244):=by
 unfold sz;(repeat' split)<;>omega
theorem Kj(c:Int):(c=224→lo c=160)∧(c=240→lo c=144)∧(c≠224→c≠240→lo c=128):=by unfold lo;(repeat' split)<;>omega
theorem KG(c:Int):(c=237→hi c=159)∧(c=244→hi c=143)∧(c≠237→c≠244→hi c=191):=by unfold hi;(repeat' split)<;>omega
theorem Km(r:Int)(h0:0≤r)(h1:r≤127):len r=1:=by unfold len;(repeat' split)<;>omega
theorem len_2(r:Int)(h0:128≤r)(h1:r≤2047):len r=2:=by unfold len;(repeat' split)<;>omega
theorem len_3(r:Int)(h0:2048≤r)(h1:r≤65535)(h2:¬(55296≤r∧r≤57343)):len r=3:=by unfold len;(repeat' split)<;>omega
theorem len_4(r:Int)(h0:65536≤r)(h1:r≤1114111):len r=4:=by unfold len;(repeat' split)<;>omega
theorem sW(r:Int)(c:len r=1):enc r=[r]:=by unfold enc;rw[if_pos c]
theorem Ab(r:Int)(c:len r=2):enc r=[192+r/64,128+r%64]:=by unfold enc;rw[if_neg (by omega),if_pos c]
theorem Aa(r:Int)(c:len r=3):enc r=[224+r/64/64,128+r/64%64,128+r%64]:=by unfold enc;rw[if_neg (by omega),if_neg (by omega),if_pos c]
theorem z8(r:Int)(c:len r=4):enc r=[240+r/64/64/64,128+r/64/64%64,128+r/64%64,128+r%64]:=by unfold enc;rw[if_neg (by omega),if_neg (by omega),if_neg (by omega),if_pos c]
theorem it_good(f:Nat→Int)(n a:Nat)(hf:∀i,0≤f i∧f i≤255)(h:(it f n a).2.2=true):
  len (it f n a).1≠0∧enc (it f n a).1=seg f a ((it f n a).2.1-a):=by
 have h4:=Jg (f a)
 have hr:=Jf (f a)
 have hl:=Kj (f a)
 have hh:=KG (f a)
 have f0:=hf a
 have f1:=hf (a+1)
 have f2:=hf (a+2)
 have f3:=hf (a+3)
 rcases(show sz (f a)=0∨sz (f a)=1∨sz (f a)=2∨sz (f a)=3∨sz (f a)=4 from by omega)with s|s|s|s|s
 ·have e:it f n a=(65533,a+1,false):=by unfold it;rw[if_pos s]
  rw[e]at h;simp at h
 ·rw[it_1 f n a s]
  have b:=hb_1 (f a) s
  have l:=Km (f a) (by omega) (by omega)
  simp only[b]
  exact⟨by omega,by rw[sW _ l,show a+1-a=1 from by omega,seg_1]⟩
 ·by_cases c1:a+1<n∧lo (f a)≤f (a+1)∧f (a+1)≤hi (f a)
  ·rw[it_2 f n a s c1,hb_2 (f a) s]
   have l:=len_2 (f a%32*64+f (a+1)%64) (by omega) (by omega)
   refine⟨by simp only[];omega,?_⟩
   simp only[]
   rw[Ab _ l,show a+2-a=2 from by omega,seg_2]
   rw[show 192+(f a%32*64+f (a+1)%64)/64=f a from by omega,show 128+(f a%32*64+f (a+1)%64)%64=f (a+1)from by omega]
  ·have e:it f n a=(65533,a+1,false):=by unfold it;rw[if_neg (by omega),s,dM _ _ _ _ _ _ _ (by decide) c1]
   rw[e]at h;simp at h
 ·by_cases c1:a+1<n∧lo (f a)≤f (a+1)∧f (a+1)≤hi (f a)
  ·by_cases c2:a+2<n∧128≤f (a+2)∧f (a+2)≤191
   ·rw[it_3 f n a s c1 c2,hb_3 (f a) s]
    have l:=len_3 ((f a%16*64+f (a+1)%64)*64+f (a+2)%64) (by omega) (by omega) (by omega)
    refine⟨by simp only[];omega,?_⟩
    simp only[]
    rw[Aa _ l,show a+3-a=3 from by omega,seg_3]
    rw[show 224+((f a%16*64+f (a+1)%64)*64+f (a+2)%64)/64/64=f a from by omega,show 128+((f a%16*64+f (a+1)%64)*64+f (a+2)%64)/64%64=f (a+1)from by omega,show 128+((f a%16*64+f (a+1)%64)*64+f (a+2)%64)%64=f (a+2)from by omega]
   ·have e:it f n a=(65533,a+2,false):=by unfold it;rw[if_neg (by omega),s,run_go _ _ _ _ _ _ _ (by decide) c1,dM _ _ _ _ _ _ _ (by decide) c2]
    rw[e]at h;simp at h
  ·have e:it f n a=(65533,a+1,false):=by unfold it;rw[if_neg (by omega),s,dM _ _ _ _ _ _ _ (by decide) c1]
   rw[e]at h;simp at h
 ·by_cases c1:a+1<n∧lo (f a)≤f (a+1)∧f (a+1)≤hi (f a)
  ·by_cases c2:a+2<n∧128≤f (a+2)∧f (a+2)≤191
   ·by_cases c3:a+3<n∧128≤f (a+3)∧f (a+3)≤191
    ·rw[it_4 f n a s c1 c2 c3,hb_4 (f a) s]
     have l:=len_4 (((f a%8*64+f (a+1)%64)*64+f (a+2)%64)*64+f (a+3)%64) (by omega) (by omega)
     refine⟨by simp only[];omega,?_⟩
     simp only[]
     rw[z8 _ l,show a+4-a=4 from by omega,seg_4]
     rw[show 240+(((f a%8*64+f (a+1)%64)*64+f (a+2)%64)*64+f (a+3)%64)/64/64/64=f a from by omega,show 128+(((f a%8*64+f (a+1)%64)*64+f (a+2)%64)*64+f (a+3)%64)/64/64%64=f (a+1)from by omega,show 128+(((f a%8*64+f (a+1)%64)*64+f (a+2)%64)*64+f (a+3)%64)/64%64=f (a+2)from by omega,show 128+(((f a%8*64+f (a+1)%64)*64+f (a+2)%64)*64+f (a+3)%64)%64=f (a+3)from by omega]
    ·have e:it f n a=(65533,a+3,false):=by unfold it;rw[if_neg (by omega),s,run_go _ _ _ _ _ _ _ (by decide) c1,run_go _ _ _ _ _ _ _ (by decide) c2,dM _ _ _ _ _ _ _ (by decide) c3]
     rw[e]at h;simp at h
   ·have e:it f n a=(65533,a+2,false):=by unfold it;rw[if_neg (by omega),s,run_go _ _ _ _ _ _ _ (by decide) c1,dM _ _ _ _ _ _ _ (by decide) c2]
    rw[e]at h;simp at h
  ·have e:it f n a=(65533,a+1,false):=by unfold it;rw[if_neg (by omega),s,dM _ _ _ _ _ _ _ (by decide) c1]
   rw[e]at h;simp at h
theorem run_bad(f:Nat→Int)(n:Nat):∀k r e l h,(run f n k r e l h).2.2=false→(run f n k r e l h).1=65533:=by
 intro k
 induction k with
 |zero=>intro r e l h;simp[run]
 |succ k ih=>
  intro r e l h
  unfold run
  split
  ·exact ih _ _ _ _
  ·simp
theorem it_bad(f:Nat→Int)(n a:Nat)(h:(it f n a).2.2=false):(it f n a).1=65533:=by
 unfold it at h⊢
 split
 ·rfl
 ·rename_i hs
  rw[if_neg hs]at h
  exact run_bad _ _ _ _ _ _ _ h
theorem it_len(f:Nat→Int)(n a:Nat)(hf:∀i,0≤f i∧f i≤255):len (it f n a).1≠0:=by
 cases h:(it f n a).2.2 with
 |true=>exact(it_good f n a hf h).1
 |false=>rw[it_bad f n a h];decide
/--The bytes of items, written anew. -/
def encs(l:List (Int×Nat×Nat)):List Int:=l.flatMap fun x=>enc x.1
end Go.Proofs.YtgbkolonhddolaaGreatDoor.utf
namespace Go.Proofs.YtgbkolonhddolaaGreatDoor.utf
theorem run_ext(f g:Nat→Int)(n N:Nat)(hN:n≤N)(h:∀i,i<n→g i=f i):∀k r e l u,(run f n k r e l u).2.2=true→run g N k r e l u=run f n k r e l u:=by
 intro k
 induction k with
 |zero=>intro r e l u _;simp[run]
 |succ k ih=>
  intro r e l u hk
  by_cases c:e<n∧l≤f e∧f e≤u
  ·have hg:=h e c.1
   rw[run_go f n (k+1) r e l u (by omega) c]at hk⊢
   rw[run_go g N (k+1) r e l u (by omega) (by rw[hg];omega),hg]
   exact ih _ _ _ _ hk
  ·rw[dM f n (k+1) r e l u (by omega) c]at hk
   simp at hk
theorem Ku(f g:Nat→Int)(n N a:Nat)(hN:n≤N)(ha:a<n)(h:∀i,i<n→g i=f i)(hk:(it f n a).2.2=true):it g N a=it f n a:=by
 unfold it at hk⊢
 rw[h a ha]
 split
 ·rfl
 ·rename_i hs
  rw[if_neg hs]at hk
  exact run_ext f g n N hN h _ _ _ _ _ hk
/--Items, so many bytes further on. -/
def shift(d:Nat)(l:List (Int×Nat×Nat)):List (Int×Nat×Nat):=l.map fun x=>(x.1,d+x.2.1,d+x.2.2)
/--The bytes of two texts, one behind the other. -/
def both(fa fb:Nat→Int)(na:Nat):Nat→Int:=fun i=>if i<na then fa i else fb (i-na)
end Go.Proofs.YtgbkolonhddolaaGreatDoor.utf
