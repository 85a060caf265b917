import Derived.Test.YtgbkolonhddolaaGreatDoorBpTok1
import Derived.Test.YtgbkolonhddolaaGreatDoorBpUtf2
import Derived.Test.YtgbkolonhddolaaGreatDoorBpTok5
import Derived.Test.YtgbkolonhddolaaGreatDoorBpUtf1
import Derived.Test.YtgbkolonhddolaaGreatDoorBpTok6
import Derived.Test.YtgbkolonhddolaaGreatDoorBpLin3
import Derived.Test.YtgbkolonhddolaaGreatDoorBpUpS1
import Derived.Test.YtgbkolonhddolaaGreatDoorBpLin1
import Derived.ProofKit
import Derived.OpenShut
set_option linter.unusedSectionVars false
set_option linter.unusedSimpArgs false
set_option linter.unusedVariables false
set_option maxRecDepth 1000000
set_option maxHeartbeats 4000000
section
namespace Go.Proofs.YtgbkolonhddolaaGreatDoor.tok
open utf(it)
/--What comes to a value comes to it further on, too. -/
def aJ{α:Type}(n d:Nat)(o o':Out α):Prop:=∀v a,o=.ok v a→a≤n∧o'=.ok v (d+a)
theorem aJ.bind{α β:Type}{n d:Nat}{o o':Out α}{k k':α→Nat→Out β}(h1:aJ n d o o')(h2:∀v a,a≤n→aJ n d (k v a) (k' v (d+a))):aJ n d (o.bind k) (o'.bind k'):=by
 intro v a h
 cases o with
 |no c p=>cases h
 |ok x b=>
  obtain⟨hb,e⟩:=h1 x b rfl
  rw[e]
  exact h2 x b hb v a h
theorem aJ.ok{α:Type}{n d a b:Nat}{v:α}(h:a≤n)(e:b=d+a):aJ n d (.ok v a) (.ok v b):=by
 intro x c hx
 cases hx
 exact⟨h,by rw[e]⟩
theorem aJ.no{α:Type}{n d:Nat}{c:Int}{p:Nat}{o':Out α}:aJ n d (.no c p) o':=fun _ _ h=>by cases h
theorem aJ.bu{α:Type}{n d:Nat}{f:Nat→Int}{st:Nat}{o':Out α}:aJ n d (bu f st) o':=fun _ _ h=>by cases h
theorem aJ.ite{α:Type}{n d:Nat}{c:Prop}[Decidable c]{x x' y y':Out α}(hx:aJ n d x x')(hy:aJ n d y y'):aJ n d (if c then x else y) (if c then x' else y'):=by
 split
 ·exact hx
 ·exact hy
section
variable(f g:Nat→Int)(n N d:Nat)(hg:∀i,i<n→g (d+i)=f i)(hN:d+n≤N)(hx:d+n<N→g (d+n)=41∨g (d+n)=124)
theorem jb(hg:∀i,i<n→g (d+i)=f i)(hN:d+n≤N)(hx:d+n<N→g (d+n)=41∨g (d+n)=124){a:Nat}{c:Int}(ha:a≤n)(h1:c≠41)(h2:c≠124):at_ g N (d+a) c=at_ f n a c:=by
 unfold at_
 by_cases h:a<n
 ·rw[hg a h];simp[h,show d+a<N by omega]
 ·obtain rfl:a=n:=by omega
  by_cases h':d+a<N
  ·rcases hx h' with e|e<;>rw[e]<;>simp[h,h']<;>omega
  ·simp[h,h']
theorem iL(hg:∀i,i<n→g (d+i)=f i)(hN:d+n≤N)(hx:d+n<N→g (d+n)=41∨g (d+n)=124){a:Nat}:aJ n d (bL f n a) (bL g N (d+a)):=by
 unfold bL
 by_cases h:a<n
 ·rw[if_pos h,if_pos (show d+a<N by omega),hg a h]
  exact aJ.ok (by omega) (by omega)
 ·rw[if_neg h];exact aJ.no
theorem pG(hg:∀i,i<n→g (d+i)=f i)(hN:d+n≤N)(hx:d+n<N→g (d+n)=41∨g (d+n)=124){a:Nat}:aJ n d (point f n a) (point g N (d+a)):=by
 unfold point
 by_cases h:a<n
 ·rw[if_pos h,if_pos (show d+a<N by omega)]
  by_cases hk:(it f n a).2.2=true
  ·have e1:=utf.Ku f (fun i=>g (d+i)) n (N-d) a (by omega) h hg hk
   have e2:=utf.sI g (N-d) d a
   rw[e1,show d+(N-d)=N by omega]at e2
   have e3:=utf.gL g N (d+a) (by omega)
   have e4:=utf.gL f n a h
   rcases hi:it f n a with⟨p,q,r⟩
   rcases hi':it g N (d+a)with⟨p',q',r'⟩
   rw[hi,hi']at e2
   rw[hi]at hk e4
   rw[hi']at e3
   simp only[Prod.mk.injEq]at e2
   dsimp only at e2 e3 e4 hk⊢
   obtain⟨rfl,e5,rfl⟩:=e2
   rw[if_pos hk,if_pos hk]
   exact aJ.ok e4.2.1 (by omega)
  ·rw[if_neg hk];exact aJ.no
 ·rw[if_neg h];exact aJ.no
theorem rA(hg:∀i,i<n→g (d+i)=f i)(hN:d+n≤N)(hx:d+n<N→g (d+n)=41∨g (d+n)=124){st st':Nat}{c:Int}{a:Nat}:aJ n d (want f n st c a) (want g N st' c (d+a)):=by
 unfold want
 refine(iL f g n N d hg hN hx).bind fun v b hb=>?_
 exact aJ.ite (aJ.ok hb rfl) aJ.bu
theorem zu(hg:∀i,i<n→g (d+i)=f i)(hN:d+n≤N)(hx:d+n<N→g (d+n)=41∨g (d+n)=124){st st':Nat}{base:Int}:∀(left:Nat)(acc:Int)(first:Bool)(a:Nat),aJ n d (numR f n st base left acc first a) (numR g N st' base left acc first (d+a))
 |left,acc,first,a=>by
  rw[numR,numR]
  refine(iL f g n N d hg hN hx).bind fun v b hb=>?_
  refine aJ.ite ?_ (aJ.ite aJ.bu (aJ.ok hb rfl))
  cases left with
  |zero=>exact aJ.bu
  |succ left=>exact zu hg hN hx left _ _ b
theorem Ie(hg:∀i,i<n→g (d+i)=f i)(hN:d+n≤N)(hx:d+n<N→g (d+n)=41∨g (d+n)=124){b e:Nat}(he:e≤n):bytes g (d+b) (d+e)=bytes f b e:=by
 unfold bytes
 rw[show d+e-(d+b)=e-b by omega]
 refine List.map_congr_left fun i hi=>?_
 rw[List.mem_range]at hi
 rw[show d+b+i=d+(b+i)by omega,hg (b+i) (by omega)]
theorem Dv(hg:∀i,i<n→g (d+i)=f i)(hN:d+n≤N)(hx:d+n<N→g (d+n)=41∨g (d+n)=124){b e:Nat}(he:e≤n):bytes g (d+b) (d+e-1)=bytes f b (e-1):=by
 unfold bytes
 rw[show d+e-1-(d+b)=e-1-b by omega]
 refine List.map_congr_left fun i hi=>?_
 rw[List.mem_range]at hi
 rw[show d+b+i=d+(b+i)by omega,hg (b+i) (by omega)]
theorem El(hg:∀i,i<n→g (d+i)=f i)(hN:d+n≤N)(hx:d+n<N→g (d+n)=41∨g (d+n)=124){st st' b:Nat}:∀(left a:Nat),a≤n→aJ n d (nmR f n st b left a) (nmR g N st' (d+b) left (d+a))
 |left,a,ha=>by
  rw[nmR,nmR]
  refine(iL f g n N d hg hN hx).bind fun v c hc=>?_
  have e:decide (d+a=d+b)=decide (a=b):=by simp
  by_cases h:v=62∧b<a
  ·rw[if_pos h,if_pos (show v=62∧d+b<d+a from⟨h.1,by have:=h.2;omega⟩),Ie f g n N d hg hN hx ha]
   exact aJ.ok hc rfl
  ·rw[if_neg h,if_neg (show¬(v=62∧d+b<d+a)from fun x=>h ⟨x.1,by have:=x.2;omega⟩)]
   cases left with
   |zero=>exact aJ.bu
   |succ left=>
    dsimp only
    rw[e]
    exact aJ.ite (El hg hN hx left c hc) aJ.bu
theorem zz(hg:∀i,i<n→g (d+i)=f i)(hN:d+n≤N)(hx:d+n<N→g (d+n)=41∨g (d+n)=124){st st' a:Nat}(ha:a≤n):aJ n d (name f n st a) (name g N st' (d+a)):=El f g n N d hg hN hx 20 a ha
theorem vT(hg:∀i,i<n→g (d+i)=f i)(hN:d+n≤N)(hx:d+n<N→g (d+n)=41∨g (d+n)=124):∀(m m' a:Nat),m≤m'→aJ n d (exprR f n m a) (exprR g N m' (d+a))
 |0,m',a,hm=>by rw[exprR];exact aJ.no
 |m+1,m',a,hm=>by
  obtain⟨q,rfl⟩:∃q,m'=q+1:=⟨m'-1,by omega⟩
  rw[exprR,exprR]
  refine(pG f g n N d hg hN hx).bind fun v c hc=>?_
  exact aJ.ite (aJ.ok hc rfl) (vT hg hN hx m q c (by omega))
theorem Gv(hg:∀i,i<n→g (d+i)=f i)(hN:d+n≤N)(hx:d+n<N→g (d+n)=41∨g (d+n)=124){st st' b e:Nat}(he:e≤n):aJ n d (meant f st b e) (meant g st' (d+b) (d+e)):=by
 unfold meant
 rw[Dv f g n N d hg hN hx he]
 exact aJ.ite (aJ.ok he rfl) aJ.no
theorem K5(hg:∀i,i<n→g (d+i)=f i)(hN:d+n≤N)(hx:d+n<N→g (d+n)=41∨g (d+n)=124){st st' a:Nat}:aJ n d (expr f n st a) (expr g N st' (d+a)):=by
 unfold expr
 refine(rA f g n N d hg hN hx).bind fun _ b hb=>?_
 refine(vT f g n N d hg hN hx _ _ b (by omega)).bind fun _ e he=>?_
 exact Gv f g n N d hg hN hx he
theorem kz(hg:∀i,i<n→g (d+i)=f i)(hN:d+n≤N)(hx:d+n<N→g (d+n)=41∨g (d+n)=124){st st':Nat}{base:Int}{most a:Nat}:aJ n d (number f n st base most a) (number g N st' base most (d+a)):=zu f g n N d hg hN hx most 0 true a
theorem hex_emb(hg:∀i,i<n→g (d+i)=f i)(hN:d+n≤N)(hx:d+n<N→g (d+n)=41∨g (d+n)=124){st st' a:Nat}:aJ n d (hex f n st a) (hex g N st' (d+a)):=by
 unfold hex
 refine(rA f g n N d hg hN hx).bind fun _ b hb=>?_
 refine(kz f g n N d hg hN hx).bind fun q c hc=>?_
 exact aJ.ite (aJ.ok hc rfl) aJ.bu
theorem Ac(hg:∀i,i<n→g (d+i)=f i)(hN:d+n≤N)(hx:d+n<N→g (d+n)=41∨g (d+n)=124){st st':Nat}{x y z:Int}{a:Nat}(ha:a≤n):aJ n d (edge f n st x y z a) (edge g N st' x y z (d+a)):=by
 unfold edge
 rw[jb f g n N d hg hN hx ha (by decide) (by decide)]
 refine aJ.ite ?_ (aJ.ok ha rfl)
 refine aJ.bind (iL f g n N d hg hN hx (a:=a+1)) fun v b hb=>?_
 refine aJ.ite ?_ (aJ.ite ?_ aJ.bu)
 all_goals exact(rA f g n N d hg hN hx).bind fun _ c hc=>aJ.ok hc rfl
theorem LU(hg:∀i,i<n→g (d+i)=f i)(hN:d+n≤N)(hx:d+n<N→g (d+n)=41∨g (d+n)=124){st st' a:Nat}:aJ n d (back f n st a) (back g N st' (d+a)):=by
 unfold back
 refine(iL f g n N d hg hN hx).bind fun v b hb=>?_
 refine aJ.ite ((zz f g n N d hg hN hx hb).bind fun _ c hc=>aJ.ok hc rfl) (aJ.ite ?_ aJ.bu)
 refine(kz f g n N d hg hN hx).bind fun q c hc=>?_
 exact aJ.ite (aJ.ok hc rfl) aJ.bu
theorem kK(hg:∀i,i<n→g (d+i)=f i)(hN:d+n≤N)(hx:d+n<N→g (d+n)=41∨g (d+n)=124){a:Nat}{c:Int}(h:at_ f n a c=true):a<n:=by
 unfold at_ at h
 simp at h
 exact h.1
theorem qU(hg:∀i,i<n→g (d+i)=f i)(hN:d+n≤N)(hx:d+n<N→g (d+n)=41∨g (d+n)=124){x y:Int}{a:Nat}(ha:a≤n):aJ n d (rep f n x y a) (rep g N x y (d+a)):=by
 unfold rep
 rw[jb f g n N d hg hN hx ha (by decide) (by decide),jb f g n N d hg hN hx ha (by decide) (by decide)]
 split
 ·rename_i h
  have:=kK f g n N d hg hN hx h
  exact aJ.ok (by omega) (by omega)
 split
 ·rename_i h
  have:=kK f g n N d hg hN hx h
  exact aJ.ok (by omega) (by omega)
 ·exact aJ.ok ha rfl
theorem Ag(hg:∀i,i<n→g (d+i)=f i)(hN:d+n≤N)(hx:d+n<N→g (d+n)=41∨g (d+n)=124){st st' a:Nat}:aJ n d (counted f n st a) (counted g N st' (d+a)):=by
 unfold counted
 refine(kz f g n N d hg hN hx).bind fun q b hb=>?_
 rw[jb f g n N d hg hN hx hb (by decide) (by decide)]
 split
 ·rename_i h
  have:=kK f g n N d hg hN hx h.2
  exact aJ.ite (by have:=qU f g n N d hg hN hx (x:=q.1) (y:=-1) (a:=b+1) (by omega);rwa[←Nat.add_assoc]at this) aJ.bu
 refine aJ.ite ?_ (aJ.ite (qU f g n N d hg hN hx hb) aJ.bu)
 refine(kz f g n N d hg hN hx).bind fun p c hc=>?_
 exact aJ.ite (qU f g n N d hg hN hx hc) aJ.bu
theorem wY(hg:∀i,i<n→g (d+i)=f i)(hN:d+n≤N)(hx:d+n<N→g (d+n)=41∨g (d+n)=124){st st' a:Nat}(ha:a≤n):aJ n d (bG f n st a) (bG g N st' (d+a)):=by
 unfold bG
 rw[jb f g n N d hg hN hx ha (by decide) (by decide),jb f g n N d hg hN hx ha (by decide) (by decide)]
 split
 ·rename_i h
  have:=kK f g n N d hg hN hx h
  exact aJ.ok (by omega) (by omega)
 split
 ·rename_i h
  have:=kK f g n N d hg hN hx h
  exact aJ.ok (by omega) (by omega)
 ·exact(zz f g n N d hg hN hx ha).bind fun _ c hc=>aJ.ok hc rfl
theorem JP(hg:∀i,i<n→g (d+i)=f i)(hN:d+n≤N)(hx:d+n<N→g (d+n)=41∨g (d+n)=124){st st' a:Nat}(ha:a≤n):aJ n d (open_ f n st a) (open_ g N st' (d+a)):=by
 unfold open_
 rw[jb f g n N d hg hN hx ha (by decide) (by decide)]
 refine aJ.ite ?_ (aJ.ok ha rfl)
 refine aJ.bind (iL f g n N d hg hN hx (a:=a+1)) fun v b hb=>?_
 exact aJ.ite (aJ.ok hb rfl) (aJ.ite (aJ.ok hb rfl) (aJ.ite (aJ.ok hb rfl) (aJ.ite (aJ.ok hb rfl) (aJ.ite (wY f g n N d hg hN hx hb) aJ.bu))))
theorem wo(hg:∀i,i<n→g (d+i)=f i)(hN:d+n≤N)(hx:d+n<N→g (d+n)=41∨g (d+n)=124){a:Nat}(ha:a≤n):aJ n d (dV f n a) (dV g N (d+a)):=by
 unfold dV
 rw[jb f g n N d hg hN hx ha (by decide) (by decide)]
 split
 ·rename_i h
  have:=kK f g n N d hg hN hx h
  exact aJ.ok (by omega) (by omega)
 ·exact aJ.ok ha rfl
theorem nQ(hg:∀i,i<n→g (d+i)=f i)(hN:d+n≤N)(hx:d+n<N→g (d+n)=41∨g (d+n)=124){k:Nat}{o o':Out Tk}(h:aJ n d o o'):aJ n d (o.with_ k) (o'.with_ k):=h.bind fun _ _ hb=>aJ.ok hb rfl
theorem Bf(hg:∀i,i<n→g (d+i)=f i)(hN:d+n≤N)(hx:d+n<N→g (d+n)=41∨g (d+n)=124){r:Int}{a k:Nat}(ha:a≤n):aJ n d (within f n r a k) (within g N r (d+a) k):=by
 unfold within
 rw[jb f g n N d hg hN hx ha (by decide) (by decide),jb f g n N d hg hN hx ha (by decide) (by decide),jb f g n N d hg hN hx ha (by decide) (by decide)]
 refine aJ.ite (nQ f g n N d hg hN hx (wo f g n N d hg hN hx ha)) (aJ.ite (aJ.ok ha rfl) ?_)
 split
 ·rename_i h
  have:=kK f g n N d hg hN hx h.2
  exact aJ.ok (by omega) (by omega)
 split
 ·rename_i h
  have:=kK f g n N d hg hN hx h.2
  exact aJ.ok (by omega) (by omega)
 split
 ·rename_i h
  have:=kK f g n N d hg hN hx h.2
  exact aJ.ok (by omega) (by omega)
 exact aJ.ite (aJ.ok ha rfl) (aJ.ok ha rfl)
theorem Kc(hg:∀i,i<n→g (d+i)=f i)(hN:d+n≤N)(hx:d+n<N→g (d+n)=41∨g (d+n)=124){st st':Nat}{r:Int}{a:Nat}(ha:a≤n):aJ n d (mark f n st r a) (mark g N st' r (d+a)):=by
 unfold mark
 have o{v:Tk}:aJ n d (Out.ok v a) (Out.ok v (d+a)):=aJ.ok ha rfl
 have p{x y:Int}:aJ n d (rep f n x y a) (rep g N x y (d+a)):=qU f g n N d hg hN hx ha
 exact aJ.ite o (aJ.ite o (aJ.ite (JP f g n N d hg hN hx ha) (aJ.ite o (aJ.ite p (aJ.ite p (aJ.ite p (aJ.ite (Ag f g n N d hg hN hx) (aJ.ite o (aJ.ite o o)))))))))
theorem zl(hg:∀i,i<n→g (d+i)=f i)(hN:d+n≤N)(hx:d+n<N→g (d+n)=41∨g (d+n)=124){st st':Nat}{r:Int}{a k:Nat}(ha:a≤n):aJ n d (outside f n st r a k) (outside g N st' r (d+a) k):=by
 unfold outside
 exact aJ.ite (nQ f g n N d hg hN hx (wo f g n N d hg hN hx ha)) (nQ f g n N d hg hN hx (Kc f g n N d hg hN hx ha))
theorem Dh(hg:∀i,i<n→g (d+i)=f i)(hN:d+n≤N)(hx:d+n<N→g (d+n)=41∨g (d+n)=124){st st':Nat}{r:Int}{a:Nat}(ha:a≤n):aJ n d (aB f n st r a) (aB g N st' r (d+a)):=by
 unfold aB
 have o{v:Tk}:aJ n d (Out.ok v a) (Out.ok v (d+a)):=aJ.ok ha rfl
 exact aJ.ite o (aJ.ite o (aJ.ite (Ac f g n N d hg hN hx ha) (aJ.ite (Ac f g n N d hg hN hx ha) (aJ.ite o (aJ.ite (LU f g n N d hg hN hx) (aJ.ite o aJ.bu))))))
theorem De(hg:∀i,i<n→g (d+i)=f i)(hN:d+n≤N)(hx:d+n<N→g (d+n)=41∨g (d+n)=124){st st' a k:Nat}:aJ n d (escape f n st a k) (escape g N st' (d+a) k):=by
 unfold escape
 refine(pG f g n N d hg hN hx).bind fun r b hb=>?_
 have o{v:Tk}:aJ n d (Out.ok v b) (Out.ok v (d+b)):=aJ.ok hb rfl
 have e{q:Bool}:aJ n d ((expr f n st b).bind fun s a=>.ok (prop s q) a) ((expr g N st' (d+b)).bind fun s a=>.ok (prop s q) a):=(K5 f g n N d hg hN hx).bind fun _ _ hc=>aJ.ok hc rfl
 exact aJ.ite o (aJ.ite o (aJ.ite o (aJ.ite o (aJ.ite o (aJ.ite o (aJ.ite e (aJ.ite e (aJ.ite o (aJ.ite o (aJ.ite o (aJ.ite (hex_emb f g n N d hg hN hx) (aJ.ite o (aJ.ite aJ.bu (Dh f g n N d hg hN hx hb))))))))))))))
/--A token is one further on, too. -/
theorem Fa(hg:∀i,i<n→g (d+i)=f i)(hN:d+n≤N)(hx:d+n<N→g (d+n)=41∨g (d+n)=124){st k:Nat}:aJ n d (token f n st k) (token g N (d+st) k):=by
 unfold token
 refine(pG f g n N d hg hN hx).bind fun r b hb=>?_
 exact aJ.ite (nQ f g n N d hg hN hx (De f g n N d hg hN hx)) (aJ.ite (Bf f g n N d hg hN hx hb) (zl f g n N d hg hN hx hb))
end
end Go.Proofs.YtgbkolonhddolaaGreatDoor.tok
end
section
namespace Go.Proofs.YtgbkolonhddolaaGreatDoor.tok
/--How many classes are open behind tokens. -/
def pU(k:Nat)(t:Tk):Nat:=if t.kind=11 then k+1 else if t.kind=12 then k-1 else k
def lev:Nat→List Tk→Nat
 |k,[]=>k
 |k,t::ts=>lev (pU k t) ts
def sh(d:Nat)(t:Tk):Tk:={t with s:=d+t.s,e:=d+t.e}
def aT{α:Type}(P:α→Prop)(o:Out α):Prop:=∀v a,o=.ok v a→P v
theorem aT.bind{α β:Type}{P:β→Prop}{o:Out α}{k:α→Nat→Out β}(h:∀v a,aT P (k v a)):aT P (o.bind k):=by
 cases o with
 |no c p=>intro v a e;cases e
 |ok x b=>exact h x b
theorem aT.ok{α:Type}{P:α→Prop}{v:α}{a:Nat}(h:P v):aT P (.ok v a):=fun x b e=>by cases e;exact h
theorem aT.no{α:Type}{P:α→Prop}{c:Int}{p:Nat}:aT P (.no c p:Out α):=fun x b e=>by cases e
theorem aT.ite{α:Type}{P:α→Prop}{c:Prop}[Decidable c]{x y:Out α}(hx:aT P x)(hy:aT P y):aT P (if c then x else y):=by split<;>assumption
/--No class's mark; an opening one with a name has mode 2, and all modes are from 0 to 7. -/
structure Kd(t:Tk):Prop where
 no1:t.kind≠11
 no2:t.kind≠12
 open_:t.kind=3→(t.name≠[]→t.mode=2)∧0≤t.mode∧t.mode≤7
theorem Kd.of{t:Tk}(h1:t.kind≠11∧t.kind≠12∧t.kind≠3):Kd t:=⟨h1.1,h1.2.1,fun h=>absurd h h1.2.2⟩
theorem Kd.opening{m:Int}(h:0≤m∧m≤7):Kd (opening m):=⟨by simp[tok.opening],by simp[tok.opening],fun _=>⟨fun h=>absurd rfl h,h⟩⟩
section
variable(f:Nat→Int)(n:Nat)
theorem pz{x y:Int}{a:Nat}:aT Kd (rep f n x y a):=by
 unfold rep
 exact aT.ite (aT.ok (.of (by simp))) (aT.ite (aT.ok (.of (by simp))) (aT.ok (.of (by simp))))
theorem Dl{st a:Nat}:aT Kd (counted f n st a):=by
 unfold counted
 refine aT.bind fun q b=>aT.ite (aT.ite (pz f n) aT.no) (aT.ite (aT.bind fun p c=>aT.ite (pz f n) aT.no) (aT.ite (pz f n) aT.no))
theorem open_kd{st a:Nat}:aT Kd (open_ f n st a):=by
 unfold open_ bG
 refine aT.ite (aT.bind fun c b=>aT.ite (aT.ok (.opening (by decide))) (aT.ite (aT.ok (.opening (by decide))) (aT.ite (aT.ok (.opening (by decide))) (aT.ite (aT.ok (.opening (by decide))) (aT.ite ?_ aT.no))))) (aT.ok (.opening (by decide)))
 refine aT.ite (aT.ok (.opening (by decide))) (aT.ite (aT.ok (.opening (by decide))) (aT.bind fun s a=>aT.ok ⟨(by simp),(by simp),fun _=>⟨fun _=>rfl,(by simp)⟩⟩))
theorem mark_kd{st:Nat}{r:Int}{a:Nat}:aT Kd (mark f n st r a):=by
 unfold mark
 have o{v:Tk}(h:v.kind≠11∧v.kind≠12∧v.kind≠3):aT Kd (Out.ok v a):=aT.ok (.of h)
 exact aT.ite (o (by decide)) (aT.ite (o (by decide)) (aT.ite (open_kd f n) (aT.ite (o (by decide)) (aT.ite (pz f n) (aT.ite (pz f n) (aT.ite (pz f n) (aT.ite (Dl f n) (aT.ite (o (by decide)) (aT.ite (o (by decide)) (o (by simp[char])))))))))))
theorem ED{st:Nat}{x y z:Int}{a:Nat}:aT Kd (edge f n st x y z a):=by
 unfold edge
 exact aT.ite (aT.bind fun c b=>aT.ite (aT.bind fun _ _=>aT.ok (.of (by simp[gT]))) (aT.ite (aT.bind fun _ _=>aT.ok (.of (by simp[gT]))) aT.no)) (aT.ok (.of (by simp[gT])))
theorem back_kd{st a:Nat}:aT Kd (back f n st a):=by
 unfold back
 exact aT.bind fun c b=>aT.ite (aT.bind fun _ _=>aT.ok (.of (by simp))) (aT.ite (aT.bind fun _ _=>aT.ite (aT.ok (.of (by simp))) aT.no) aT.no)
theorem Hg{st:Nat}{r:Int}{a:Nat}:aT Kd (aB f n st r a):=by
 unfold aB
 have o{v:Tk}(h:v.kind≠11∧v.kind≠12∧v.kind≠3):aT Kd (Out.ok v a):=aT.ok (.of h)
 exact aT.ite (o (by decide)) (aT.ite (o (by decide)) (aT.ite (ED f n) (aT.ite (ED f n) (aT.ite (o (by decide)) (aT.ite (back_kd f n) (aT.ite (o (by simp)) aT.no))))))
theorem hex_kd{st a:Nat}:aT Kd (hex f n st a):=by
 unfold hex
 exact aT.bind fun _ _=>aT.bind fun _ _=>aT.ite (aT.ok (.of (by simp[char]))) aT.no
theorem He{st a k:Nat}:aT Kd (escape f n st a k):=by
 unfold escape
 refine aT.bind fun r b=>?_
 have o{v:Tk}(h:v.kind≠11∧v.kind≠12∧v.kind≠3):aT Kd (Out.ok v b):=aT.ok (.of h)
 have e{q:Bool}:aT Kd ((expr f n st b).bind fun s a=>.ok (prop s q) a):=aT.bind fun _ _=>aT.ok (.of (by simp[prop]))
 have p(h:∀(s:List UInt8)(q:Bool),(prop s q).kind≠11∧(prop s q).kind≠12∧(prop s q).kind≠3){s:List UInt8}{q:Bool}:aT Kd (Out.ok (prop s q) b):=o (h s q)
 have p{s:List UInt8}{q:Bool}:aT Kd (Out.ok (prop s q) b):=o (by simp[prop])
 have ch{r:Int}:aT Kd (Out.ok (char r) b):=o (by simp[char])
 exact aT.ite p (aT.ite p (aT.ite p (aT.ite p (aT.ite p (aT.ite p (aT.ite e (aT.ite e (aT.ite ch (aT.ite ch (aT.ite ch (aT.ite (hex_kd f n) (aT.ite ch (aT.ite aT.no (Hg f n))))))))))))))
/--What the qQ says of how many classes are open is what the token's kind says; what opening tokens are. -/
structure Lv(k:Nat)(q:Tk×Nat):Prop where
 lev:q.2=pU k q.1
 end_:q.1.kind=12→0<k
 open_:q.1.kind=3→(q.1.name≠[]→q.1.mode=2)∧0≤q.1.mode∧q.1.mode≤7
theorem Lv.kd{k:Nat}{t:Tk}(h:Kd t):Lv k (t,k):=⟨by unfold pU;rw[if_neg h.no1,if_neg h.no2],fun e=>absurd e h.no2,h.open_⟩
theorem DV{k:Nat}{o:Out Tk}(h:aT Kd o):aT (Lv k) (o.with_ k):=by
 unfold Out.with_
 cases o with
 |no c p=>exact aT.no
 |ok t b=>exact aT.ok (.kd (h t b rfl))
theorem Al{a k:Nat}:aT (Lv k) ((dV f n a).with_ (k+1)):=by
 unfold Out.with_ dV
 split
 ·exact aT.ok ⟨rfl,fun h=>absurd h (show(11:Int)≠12 by decide),fun h=>absurd h (show(11:Int)≠3 by decide)⟩
 ·exact aT.ok ⟨rfl,fun h=>absurd h (show(11:Int)≠12 by decide),fun h=>absurd h (show(11:Int)≠3 by decide)⟩
theorem yH{st k:Nat}:aT (Lv k) (token f n st k):=by
 unfold token
 refine aT.bind fun r b=>?_
 refine aT.ite (DV (He f n)) ?_
 split
 ·rename_i hk
  unfold within
  have o{v:Tk}{c:Nat}(h:v.kind≠11∧v.kind≠12∧v.kind≠3):aT (Lv k) (Out.ok (v,k) c):=aT.ok (.kd (.of h))
  exact aT.ite (Al f n) (aT.ite (aT.ok ⟨rfl,fun _=>hk,fun h=>absurd h (show(12:Int)≠3 by decide)⟩) (aT.ite (o (by decide)) (aT.ite (o (by decide)) (aT.ite (o (by decide)) (aT.ite (o (by decide)) (o (by simp[char])))))))
 ·unfold outside
  exact aT.ite (Al f n) (DV (mark_kd f n))
end
section
variable(f g:Nat→Int)(n N d:Nat)(hg:∀i,i<n→g (d+i)=f i)(hN:d+n≤N)(hx:d+n<N→g (d+n)=41∨g (d+n)=124)
/--The tokens of a pattern with no fault, within a longer one: they come first, and the rest is scanned with as many classes open as they left. -/
theorem nX(hg:∀i,i<n→g (d+i)=f i)(hN:d+n≤N)(hx:d+n<N→g (d+n)=41∨g (d+n)=124)(hin:∀a k v a',token f n a k=.ok v a'→a<a'):∀(m a k M:Nat),n-a≤m→a≤n→(scanR f n m a k).2.1=0→N-(d+a)≤M→(∀c p a k,token f n a k=.no c p→c≠0)→
  ∃M',N-(d+n)≤M'∧scanR g N M (d+a) k=((scanR f n m a k).1.map (sh d)++(scanR g N M' (d+n) (lev k (scanR f n m a k).1)).1,(scanR g N M' (d+n) (lev k (scanR f n m a k).1)).2)
 |0,a,k,M,hm,ha,h0,hM,hc=>by
  obtain rfl:a=n:=by omega
  exact⟨M,hM,by simp[scanR,lev]⟩
 |m+1,a,k,M,hm,ha,h0,hM,hc=>by
  by_cases h:a<n
  ·obtain⟨M1,rfl⟩:∃q,M=q+1:=⟨M-1,by omega⟩
   have e:scanR f n (m+1) a k=(match token f n a k with|.ok t a'=>({t.1 with s:=a,e:=a'}::(scanR f n m a' t.2).1,(scanR f n m a' t.2).2)|.no c p=>([],c,p)):=by rw[scanR,if_pos h];rfl
   cases hq:token f n a k with
   |no c p=>
    rw[hq]at e
    rw[e]at h0
    exact absurd h0 (hc c p a k hq)
   |ok t b=>
    rw[hq]at e
    have hb:=hin a k t b hq
    obtain⟨hbn,hq'⟩:=Fa f g n N d hg hN hx (st:=a) (k:=k) t b hq
    rw[e]at h0⊢
    dsimp only at h0⊢
    obtain⟨M',hM',ih⟩:=nX hg hN hx hin m b t.2 M1 (by omega) hbn h0 (by omega) hc
    refine⟨M',hM',?_⟩
    rw[scanR,if_pos (show d+a<N by omega),hq']
    dsimp only
    rw[ih,(yH f n t b hq).lev]
    simp only[List.map_cons,List.cons_append,lev]
    rfl
  ·obtain rfl:a=n:=by omega
   exact⟨M,hM,by simp[scanR,lev]⟩
end
end Go.Proofs.YtgbkolonhddolaaGreatDoor.tok
end
namespace Go.Proofs.YtgbkolonhddolaaGreatDoor.tok
open utf(it)
theorem sJ(f:Nat→Int)(n a:Nat)(h0:0≤f a)(h:f a≤127):it f n a=(f a,a+1,true):=by
 unfold utf.it utf.sz utf.hb
 simp[h,utf.run]
theorem yJ(g:Nat→Int)(N a:Nat)(ha:a<N)(h:g a=41):token g N a 0=.ok (bare 4,0) (a+1):=by
 have e:=sJ g N a (by omega) (by omega)
 unfold token point
 rw[if_pos ha,e,if_pos rfl]
 simp[h,Out.bind,outside,mark,Out.with_]
theorem Fb(g:Nat→Int)(N a:Nat)(ha:a<N)(h:g a=124):token g N a 0=.ok (bare 5,0) (a+1):=by
 have e:=sJ g N a (by omega) (by omega)
 unfold token point
 rw[if_pos ha,e,if_pos rfl]
 simp[h,Out.bind,outside,mark,Out.with_]
theorem pq(f:Nat→Int)(n m a k:Nat)(h:n≤a):scanR f n m a k=([],0,0):=by
 cases m with
 |zero=>rw[scanR]
 |succ m=>rw[scanR,if_neg (by omega)]
theorem jY(f:Nat→Int)(n m a k:Nat)(h:a<n):scanR f n (m+1) a k=(match token f n a k with|.ok t a'=>({t.1 with s:=a,e:=a'}::(scanR f n m a' t.2).1,(scanR f n m a' t.2).2)|.no c p=>([],c,p)):=by
 rw[scanR,if_pos h];rfl
/--Within a bracket o of d bytes, and one that closes it. -/
theorem oV(f g:Nat→Int)(n d:Nat)(hg:∀i,i<n→g (d+i)=f i)(h41:g (d+n)=41)(hin:∀a k v a',token f n a k=.ok v a'→a<a')(hc:∀c p a k,token f n a k=.no c p→c≠0)
  (o:Tk)(hd:0<d)(ho:token g (d+n+1) 0 0=.ok (o,0) d)(h0:(scanR f n n 0 0).2.1=0)(hl:lev 0 (scanR f n n 0 0).1=0):
  scanR g (d+n+1) (d+n+1) 0 0=({o with s:=0,e:=d}::((scanR f n n 0 0).1.map (sh d)++[{bare 4 with s:=d+n,e:=d+n+1}]),0,0):=by
 rw[jY _ _ _ _ _ (by omega),ho]
 dsimp only
 obtain⟨M',hM',e⟩:=nX f g n (d+n+1) d hg (by omega) (fun _=>.inl h41) hin n 0 0 (d+n) (by omega) (by omega) h0 (by omega) hc
 rw[hl]at e
 obtain⟨M,rfl⟩:∃M,M'=M+1:=⟨M'-1,by omega⟩
 rw[jY _ _ _ _ _ (by omega),yJ g _ _ (by omega) h41]at e
 dsimp only at e
 rw[pq _ _ _ _ _ (Nat.le_refl _)]at e
 rw[show d+0=d from rfl]at e
 rw[e]
/--Two patterns with a bar between them. -/
theorem GH(f1 f2 g:Nat→Int)(n1 n2:Nat)(hg1:∀i,i<n1→g (0+i)=f1 i)(hg2:∀i,i<n2→g (n1+1+i)=f2 i)(hb:g n1=124)
  (hin1:∀a k v a',token f1 n1 a k=.ok v a'→a<a')(hc1:∀c p a k,token f1 n1 a k=.no c p→c≠0)(hin2:∀a k v a',token f2 n2 a k=.ok v a'→a<a')(hc2:∀c p a k,token f2 n2 a k=.no c p→c≠0)
  (h1:(scanR f1 n1 n1 0 0).2.1=0)(h2:(scanR f2 n2 n2 0 0).2.1=0)(hl:lev 0 (scanR f1 n1 n1 0 0).1=0):
  scanR g (n1+1+n2) (n1+1+n2) 0 0=((scanR f1 n1 n1 0 0).1.map (sh 0)++{bare 5 with s:=n1,e:=n1+1}::(scanR f2 n2 n2 0 0).1.map (sh (n1+1)),0,0):=by
 obtain⟨M',hM',e⟩:=nX f1 g n1 (n1+1+n2) 0 hg1 (by omega) (fun _=>.inr (by rw[Nat.zero_add];exact hb)) hin1 n1 0 0 (n1+1+n2) (by omega) (by omega) h1 (by omega) hc1
 rw[hl,Nat.zero_add,Nat.zero_add]at e
 rw[e]
 obtain⟨M,rfl⟩:∃M,M'=M+1:=⟨M'-1,by omega⟩
 rw[jY _ _ _ _ _ (by omega),Fb g _ _ (by omega) hb]
 dsimp only
 obtain⟨M2,hM2,e2⟩:=nX f2 g n2 (n1+1+n2) (n1+1) hg2 (by omega) (fun h=>absurd h (by omega)) hin2 n2 0 0 M (by omega) (by omega) h2 (by omega) hc2
 rw[show n1+1+0=n1+1 from rfl]at e2
 rw[e2,pq _ _ _ (n1+1+n2) _ (Nat.le_refl _)]
 simp
end Go.Proofs.YtgbkolonhddolaaGreatDoor.tok
section
namespace Go.Proofs.YtgbkolonhddolaaGreatDoor.tok
open utf(it len gL)
/--L6 that stand one behind the other, from a to b. -/
def Chain:Nat→List Tk→Nat→Prop
 |a,[],b=>a=b
 |a,t::l,b=>t.s=a∧a<t.e∧1≤t.kind∧t.kind≤14∧Chain t.e l b
/--Where tokens end. -/
def endT:Nat→List Tk→Nat
 |a,[]=>a
 |_,t::l=>endT t.e l
section
variable(f:Nat→Int)(n:Nat)
end
end Go.Proofs.YtgbkolonhddolaaGreatDoor.tok
end
section
namespace Go.Proofs.YtgbkolonhddolaaGreatDoor.tok
open utf(it len gL enc Ku sI it_enc xG sW Km)
/--These bytes stand at a place. -/
def Here(f:Nat→Int)(n a:Nat)(L:List Int):Prop:=a+L.length≤n∧∀i,i<L.length→f (a+i)=L.getD i 0
theorem enc_low(r:Int)(h0:0≤r)(h1:r≤127):enc r=[r]:=sW r (Km r h0 h1)
def dU(d:Int):Int:=if d<10 then 48+d else 55+d
def il(r:Int):List Int:=if r<16 then[dU r]else[dU (r/16),dU (r%16)]
def iB:List Int:=[46,91,40,41,124,42,43,63,123,94,36,92]
def iC:List Int:=[91,93,94,45,38,126,92]
/--What a pattern says for a code point. -/
def ak(r:Int)(cls:Bool):List Int:=
 if len r=0 then[]else if r<32∨r=127 then[92,120,123]++il r++[125]
 else if r∈(if cls=true then iC else iB)then 92::enc r else enc r
theorem Gw(r:Int)(cls:Bool)(h:r∈(if cls=true then iC else iB)):32≤r∧r≤126∧gW r=false∧kH r=false∧¬(r=100∨r=119∨r=115∨r=68∨r=87∨r=83∨r=112∨r=80∨r=110∨r=116∨r=114∨r=120):=by
 cases cls
 ·simp only[Bool.false_eq_true,if_false,iB,List.mem_cons,List.not_mem_nil,or_false]at h
  rcases h with rfl|rfl|rfl|rfl|rfl|rfl|rfl|rfl|rfl|rfl|rfl|rfl<;>decide
 ·simp only[if_true,iC,List.mem_cons,List.not_mem_nil,or_false]at h
  rcases h with rfl|rfl|rfl|rfl|rfl|rfl|rfl<;>decide
section
variable(f:Nat→Int)(n:Nat)
theorem rU(r:Int)(cls:Bool)(hr:len r=0):ak r cls=[]:=by unfold ak;rw[if_pos hr]
end
end Go.Proofs.YtgbkolonhddolaaGreatDoor.tok
end
namespace Go.Proofs.YtgbkolonhddolaaGreatDoor.tok
open Go.RowKit
open utf(len enc)
open lin(BA aj)
/--The variables that Print reads. -/
structure PEnv(w:World):Prop where
 mks:utf.Marks w
 bj:w.cell? ⟨7,15,none⟩=some (.int .u8 4)
 ml:∃m,w.cell? ⟨1,0,none⟩=some (.int .i64 m)
theorem PEnv.below{w w':World}(h:PEnv w)(hb:Below w.heap.size w w'):PEnv w':=by
 obtain⟨m,hm⟩:=h.ml
 exact⟨h.mks.below hb,(hb.cell (World.block_lt_of_cell? w _ h.bj)).trans h.bj,m,(hb.cell (World.block_lt_of_cell? w _ hm)).trans hm⟩
/--Numbers as a text. -/
def TX(L:List Int):ByteArray:=BA (Lib.bytesOf L)
theorem uV:∀n:Fin 128,((lin.fO n.val).map Lib.upperB)=Lib.bytesOf (il (n.val:Int)):=by decide+kernel
theorem Ep:∀n:Fin 128,∀x∈lin.fO n.val,x.toNat<128:=by decide+kernel
theorem KN:∀n:Fin 128,∀c:Bool,Lib.contains (if c=true then[91,93,94,45,38,126,92]else[46,91,40,41,124,42,43,63,123,94,36,92]) (Lib.bytesOf [(n.val:Int)])=decide ((n.val:Int)∈(if c=true then iC else iB)):=by decide+kernel
theorem nowhere(x:UInt8)(rest:List UInt8):∀s:List UInt8,(∀b∈s,b≠x)→Lib.index s (x::rest)=-1
 |[],_=>by simp[Lib.index]
 |b::l,h=>by
  have h1:=nowhere x rest l (fun c hc=>h c (List.mem_cons_of_mem _ hc))
  have h2:x≠b:=fun e=>h b (List.mem_cons_self ..) e.symm
  unfold Lib.index
  rw[h1]
  simp[List.isPrefixOf,h2]
theorem Lb(r:Int)(hr:len r≠0)(h:128≤r):∃x rest,enc r=x::rest∧192≤x∧x≤255:=by
 obtain⟨r0,r1,r2,c|c|c|c⟩:=utf.gK r hr
 ·omega
 ·exact⟨_,_,utf.Ab r c.1,by omega,by omega⟩
 ·exact⟨_,_,utf.Aa r c.1,by omega,by omega⟩
 ·exact⟨_,_,utf.z8 r c.1,by omega,by omega⟩
theorem vN(r:Int)(cls:Bool)(hr:len r≠0):Lib.contains (if cls=true then[91,93,94,45,38,126,92]else[46,91,40,41,124,42,43,63,123,94,36,92]) (Lib.bytesOf (enc r))=decide (r∈(if cls=true then iC else iB)):=by
 obtain⟨r0,r1,-⟩:=utf.gK r hr
 by_cases h:r≤127
 ·rw[enc_low r r0 h]
  have:=KN ⟨r.toNat,by omega⟩ cls
  rw[show((⟨r.toNat,by omega⟩:Fin 128).val:Int)=r by simp;omega]at this
  exact this
 ·obtain⟨x,rest,e,h1,h2⟩:=Lb r hr (by omega)
  have hn:¬r∈(if cls=true then iC else iB):=fun hh=>by have:=Gw r cls hh;omega
  rw[decide_eq_false hn,e]
  unfold Lib.contains
  have hx:(UInt8.ofNat x.toNat).toNat=x.toNat:=by rw[UInt8.toNat_ofNat'];omega
  have hb:Lib.bytesOf (x::rest)=UInt8.ofNat x.toNat::Lib.bytesOf rest:=by simp[Lib.bytesOf]
  rw[hb,nowhere]
  ·decide
  ·intro b hb2 e2
   have hb3:b.toNat≤126:=by
    revert hb2
    cases cls
    ·simp only[Bool.false_eq_true,if_false,List.mem_cons,List.not_mem_nil,or_false]
     intro hb2
     rcases hb2 with rfl|rfl|rfl|rfl|rfl|rfl|rfl|rfl|rfl|rfl|rfl|rfl<;>decide
    ·simp only[if_true,List.mem_cons,List.not_mem_nil,or_false]
     intro hb2
     rcases hb2 with rfl|rfl|rfl|rfl|rfl|rfl|rfl<;>decide
   rw[e2,hx]at hb3
   omega
theorem oL(L:List Int):(TX L).size=L.length:=by unfold TX;rw[lin.cB];simp[Lib.bytesOf]
theorem qg(L M:List Int):TX (L++M)=TX L++TX M:=by
 unfold TX
 rw[show Lib.bytesOf (L++M)=Lib.bytesOf L++Lib.bytesOf M by simp[Lib.bytesOf]]
 exact(nam.DN _ _).symm
theorem zZ(r:Int)(w:World):(convert 22 9 (.slice (some ⟨w.heap.size,0,none⟩) (enc r).length (enc r).length)).run Tryz.prog (w.alloc (utf.fD r))=.ok (.string (TX (enc r))) (w.alloc (utf.fD r)):=
 utf.Ih (xs:=enc r) (enc r).length (World.alloc_heap_new w (utf.fD r))
theorem y9(r:Int)(w:World)(E:PEnv w):Calls Tryz.prog 86 #[.int .i64 r,.bool false] w fun e w'=>e=.returned (.string (TX (ak r false)))∧Below w.heap.size w w':=by
 by_cases hr:len r=0
 ·rw[rU r false hr]
  have C:=utf.Dj r w hr
  clear E hr
  go_enter Tryz.func86,Tryz.ntmps86
  go_wp2_with fail
  refine C.mono ?_
  rintro e w1⟨rfl,rfl⟩
  go_wp2
  go_ret
  exact⟨rfl,Below.refl _ _⟩
 ·have C:=utf.xE r w hr E.mks
  have CV:=zZ r w
  have hp:=utf.xG r hr
  obtain⟨r0,r1,-⟩:=utf.gK r hr
  obtain⟨W,hW⟩:∃W,w.alloc (utf.fD r)=W:=⟨_,rfl⟩
  have bW:Below w.heap.size w W:=by rw[←hW];exact(Below.refl _ _).alloc (Nat.le_refl _) _
  rw[hW]at C CV
  have HB:Hid (Below w.heap.size w W):=bW
  have EW:=E.below bW
  have hbl:=World.block_lt_of_cell? W _ EW.bj
  simp only[]at hbl
  obtain⟨m,hm⟩:=EW.ml
  have HC:Hid (Lib.contains [46,91,40,41,124,42,43,63,123,94,36,92] (Lib.bytesOf (enc r))=decide (r∈iB)):=vN r false hr
  have hs:=oL (enc r)
  have uL:Hid (ak r false=if r<32∨r=127 then[92,120,123]++il r++[125]else if r∈iB then 92::enc r else enc r):=by unfold Hid ak;rw[if_neg hr];rfl
  have DF:Hid (TX (92::enc r)=⟨#[92]⟩++TX (enc r)):=qg [92] (enc r)
  have Ml:Hid (∀W,W.cell? ⟨1,0,none⟩=some (.int .i64 m)→Calls Tryz.prog 111 #[.string ⟨#[46,91,40,41,124,42,43,63,123,94,36,92]⟩,.string (TX (enc r))] W fun e w'=>e=.returned (.bool (decide (r∈iB)))∧w'=W):=fun W h=>by
   have:=Tryz.strings_Contains ⟨#[46,91,40,41,124,42,43,63,123,94,36,92]⟩ (TX (enc r)) m W (by decide) h
   rw[show Lib.contains (⟨#[46,91,40,41,124,42,43,63,123,94,36,92]⟩:ByteArray).data.toList (TX (enc r)).data.toList=decide (r∈iB)from HC.out]at this
   exact this
  obtain⟨X,hX⟩:∃X,TX (enc r)=X:=⟨_,rfl⟩
  rw[hX]at CV hs DF Ml
  have Ma:Hid (TX (enc r)=X):=hX
  clear hX
  obtain⟨K,hK⟩:∃K,(enc r).length=K:=⟨_,rfl⟩
  rw[hK]at C CV hs hp
  by_cases hc:r<32∨r=127
  ·have qj:Hid (ak r false=[92,120,123]++il r++[125]):=by unfold Hid;rw[uL.out,if_pos hc]
   obtain⟨n,rfl⟩:∃n:Nat,r=n:=⟨r.toNat,by omega⟩
   have hn:n<128:=by omega
   have FM:=lin.EA n W (by omega) EW.bj hbl
   have hup:=uV ⟨n,hn⟩
   have hll:=lin.sF 1 n (by omega)
   have UP:∀W,Calls Tryz.prog 109 #[.string (BA (lin.fO n))] W fun e w'=>e=.returned (.string (TX (il (n:Int))))∧Below W.heap.size W w':=fun W=>by
    have:=Tryz.strings_ToUpper_ascii (BA (lin.fO n)) W (by rw[lin.cB];omega) (fun j b hb=>Ep ⟨n,hn⟩ b (List.mem_of_getElem? hb))
    rw[show(⟨(Lib.toUpperA (BA (lin.fO n)).data.toList).toArray⟩:ByteArray)=TX (il (n:Int))from by unfold TX;rw[←hup];rfl]at this
    exact this
   have HT:Hid (TX (ak (n:Int) false)=⟨#[92,120,123]⟩++TX (il (n:Int))++⟨#[125]⟩):=by unfold Hid;rw[qj.out,qg,qg];rfl
   have hhs:(TX (il (n:Int))).size≤2:=by rw[oL];unfold il;split<;>simp
   have s1:ByteArray.size ⟨#[92,120,123]⟩=3:=rfl
   have s2:ByteArray.size ⟨#[125]⟩=1:=rfl
   rw[HT.out]
   obtain⟨Q,hQ⟩:∃Q,ak (n:Int) false=Q:=⟨_,rfl⟩
   clear hQ Q HT qj uL HC Ml DF hup E EW
   generalize TX (il (n:Int))=H at*
   have d1:((⟨#[92,120,123]⟩:ByteArray)++H).size≤5:=by rw[ByteArray.size_append];show 3+H.size≤5;omega
   generalize BA (lin.fO n)=LL at*
   rcases(show n<32∨n=127 from by omega)with h32|h127
   ·have c1:(n:Int)<32:=by omega
    clear hc
    go_enter Tryz.func86,Tryz.ntmps86
    go_wp2_with fail
    refine C.mono ?_
    rintro e w1⟨rfl,rfl⟩
    clear C
    go_wp2_with fail
    refine FM.mono ?_
    rintro e w2⟨rfl,hb2⟩
    go_wp2_with fail
    refine(UP _).mono ?_
    rintro e w3⟨rfl,hb3⟩
    generalize(⟨#[92,120,123]⟩:ByteArray)++H=Y at*
    go_wp2
    go_ret
    exact⟨rfl,(HB.out.trans (hb2.mono HB.out.size)).trans (hb3.mono (Nat.le_trans HB.out.size hb2.size))⟩
   ·subst h127
    clear hc
    go_enter Tryz.func86,Tryz.ntmps86
    go_wp2_with fail
    refine C.mono ?_
    rintro e w1⟨rfl,rfl⟩
    clear C
    go_wp2_with fail
    refine FM.mono ?_
    rintro e w2⟨rfl,hb2⟩
    go_wp2_with fail
    refine(UP _).mono ?_
    rintro e w3⟨rfl,hb3⟩
    generalize(⟨#[92,120,123]⟩:ByteArray)++H=Y at*
    go_wp2
    go_ret
    exact⟨rfl,(HB.out.trans (hb2.mono HB.out.size)).trans (hb3.mono (Nat.le_trans HB.out.size hb2.size))⟩
  ·have qj:Hid (ak r false=if r∈iB then 92::enc r else enc r):=by unfold Hid;rw[uL.out,if_neg hc]
   have CT:=Ml.out W hm
   have c1:¬r<32:=by omega
   have c2:¬r=127:=by omega
   have c3:(r==127)=false:=by simp[c2]
   have s1:ByteArray.size ⟨#[92]⟩=1:=rfl
   by_cases hmk:r∈iB
   ·have HT:Hid (TX (ak r false)=⟨#[92]⟩++X):=by unfold Hid;rw[qj.out,if_pos hmk];exact DF.out
    rw[HT.out]
    rw[decide_eq_true hmk]at CT
    clear HT qj uL HC Ml DF E EW hc hmk
    go_enter Tryz.func86,Tryz.ntmps86
    go_wp2_with fail
    refine C.mono ?_
    rintro e w1⟨rfl,rfl⟩
    clear C
    go_wp2_with fail
    refine CT.mono ?_
    rintro e w2⟨rfl,rfl⟩
    go_wp2
    go_ret
    exact⟨rfl,HB.out⟩
   ·have HT:Hid (TX (ak r false)=X):=by unfold Hid;rw[qj.out,if_neg hmk];exact Ma.out
    rw[HT.out]
    rw[decide_eq_false hmk]at CT
    clear HT qj uL HC Ml DF E EW hc hmk Ma
    go_enter Tryz.func86,Tryz.ntmps86
    go_wp2_with fail
    refine C.mono ?_
    rintro e w1⟨rfl,rfl⟩
    clear C
    go_wp2_with fail
    refine CT.mono ?_
    rintro e w2⟨rfl,rfl⟩
    go_wp2
    go_ret
    exact⟨rfl,HB.out⟩
theorem BZ(r:Int)(w:World)(E:PEnv w):Calls Tryz.prog 86 #[.int .i64 r,.bool true] w fun e w'=>e=.returned (.string (TX (ak r true)))∧Below w.heap.size w w':=by
 by_cases hr:len r=0
 ·rw[rU r true hr]
  have C:=utf.Dj r w hr
  clear E hr
  go_enter Tryz.func86,Tryz.ntmps86
  go_wp2_with fail
  refine C.mono ?_
  rintro e w1⟨rfl,rfl⟩
  go_wp2
  go_ret
  exact⟨rfl,Below.refl _ _⟩
 ·have C:=utf.xE r w hr E.mks
  have CV:=zZ r w
  have hp:=utf.xG r hr
  obtain⟨r0,r1,-⟩:=utf.gK r hr
  obtain⟨W,hW⟩:∃W,w.alloc (utf.fD r)=W:=⟨_,rfl⟩
  have bW:Below w.heap.size w W:=by rw[←hW];exact(Below.refl _ _).alloc (Nat.le_refl _) _
  rw[hW]at C CV
  have HB:Hid (Below w.heap.size w W):=bW
  have EW:=E.below bW
  have hbl:=World.block_lt_of_cell? W _ EW.bj
  simp only[]at hbl
  obtain⟨m,hm⟩:=EW.ml
  have HC:Hid (Lib.contains [91,93,94,45,38,126,92] (Lib.bytesOf (enc r))=decide (r∈iC)):=vN r true hr
  have hs:=oL (enc r)
  have uL:Hid (ak r true=if r<32∨r=127 then[92,120,123]++il r++[125]else if r∈iC then 92::enc r else enc r):=by unfold Hid ak;rw[if_neg hr];rfl
  have DF:Hid (TX (92::enc r)=⟨#[92]⟩++TX (enc r)):=qg [92] (enc r)
  have Ml:Hid (∀W,W.cell? ⟨1,0,none⟩=some (.int .i64 m)→Calls Tryz.prog 111 #[.string ⟨#[91,93,94,45,38,126,92]⟩,.string (TX (enc r))] W fun e w'=>e=.returned (.bool (decide (r∈iC)))∧w'=W):=fun W h=>by
   have:=Tryz.strings_Contains ⟨#[91,93,94,45,38,126,92]⟩ (TX (enc r)) m W (by decide) h
   rw[show Lib.contains (⟨#[91,93,94,45,38,126,92]⟩:ByteArray).data.toList (TX (enc r)).data.toList=decide (r∈iC)from HC.out]at this
   exact this
  obtain⟨X,hX⟩:∃X,TX (enc r)=X:=⟨_,rfl⟩
  rw[hX]at CV hs DF Ml
  have Ma:Hid (TX (enc r)=X):=hX
  clear hX
  obtain⟨K,hK⟩:∃K,(enc r).length=K:=⟨_,rfl⟩
  rw[hK]at C CV hs hp
  by_cases hc:r<32∨r=127
  ·have qj:Hid (ak r true=[92,120,123]++il r++[125]):=by unfold Hid;rw[uL.out,if_pos hc]
   obtain⟨n,rfl⟩:∃n:Nat,r=n:=⟨r.toNat,by omega⟩
   have hn:n<128:=by omega
   have FM:=lin.EA n W (by omega) EW.bj hbl
   have hup:=uV ⟨n,hn⟩
   have hll:=lin.sF 1 n (by omega)
   have UP:∀W,Calls Tryz.prog 109 #[.string (BA (lin.fO n))] W fun e w'=>e=.returned (.string (TX (il (n:Int))))∧Below W.heap.size W w':=fun W=>by
    have:=Tryz.strings_ToUpper_ascii (BA (lin.fO n)) W (by rw[lin.cB];omega) (fun j b hb=>Ep ⟨n,hn⟩ b (List.mem_of_getElem? hb))
    rw[show(⟨(Lib.toUpperA (BA (lin.fO n)).data.toList).toArray⟩:ByteArray)=TX (il (n:Int))from by unfold TX;rw[←hup];rfl]at this
    exact this
   have HT:Hid (TX (ak (n:Int) true)=⟨#[92,120,123]⟩++TX (il (n:Int))++⟨#[125]⟩):=by unfold Hid;rw[qj.out,qg,qg];rfl
   have hhs:(TX (il (n:Int))).size≤2:=by rw[oL];unfold il;split<;>simp
   have s1:ByteArray.size ⟨#[92,120,123]⟩=3:=rfl
   have s2:ByteArray.size ⟨#[125]⟩=1:=rfl
   rw[HT.out]
   obtain⟨Q,hQ⟩:∃Q,ak (n:Int) true=Q:=⟨_,rfl⟩
   clear hQ Q HT qj uL HC Ml DF hup E EW
   generalize TX (il (n:Int))=H at*
   have d1:((⟨#[92,120,123]⟩:ByteArray)++H).size≤5:=by rw[ByteArray.size_append];show 3+H.size≤5;omega
   generalize BA (lin.fO n)=LL at*
   rcases(show n<32∨n=127 from by omega)with h32|h127
   ·have c1:(n:Int)<32:=by omega
    clear hc
    go_enter Tryz.func86,Tryz.ntmps86
    go_wp2_with fail
    refine C.mono ?_
    rintro e w1⟨rfl,rfl⟩
    clear C
    go_wp2_with fail
    refine FM.mono ?_
    rintro e w2⟨rfl,hb2⟩
    go_wp2_with fail
    refine(UP _).mono ?_
    rintro e w3⟨rfl,hb3⟩
    generalize(⟨#[92,120,123]⟩:ByteArray)++H=Y at*
    go_wp2
    go_ret
    exact⟨rfl,(HB.out.trans (hb2.mono HB.out.size)).trans (hb3.mono (Nat.le_trans HB.out.size hb2.size))⟩
   ·subst h127
    clear hc
    go_enter Tryz.func86,Tryz.ntmps86
    go_wp2_with fail
    refine C.mono ?_
    rintro e w1⟨rfl,rfl⟩
    clear C
    go_wp2_with fail
    refine FM.mono ?_
    rintro e w2⟨rfl,hb2⟩
    go_wp2_with fail
    refine(UP _).mono ?_
    rintro e w3⟨rfl,hb3⟩
    generalize(⟨#[92,120,123]⟩:ByteArray)++H=Y at*
    go_wp2
    go_ret
    exact⟨rfl,(HB.out.trans (hb2.mono HB.out.size)).trans (hb3.mono (Nat.le_trans HB.out.size hb2.size))⟩
  ·have qj:Hid (ak r true=if r∈iC then 92::enc r else enc r):=by unfold Hid;rw[uL.out,if_neg hc]
   have CT:=Ml.out W hm
   have c1:¬r<32:=by omega
   have c2:¬r=127:=by omega
   have c3:(r==127)=false:=by simp[c2]
   have s1:ByteArray.size ⟨#[92]⟩=1:=rfl
   by_cases hmk:r∈iC
   ·have HT:Hid (TX (ak r true)=⟨#[92]⟩++X):=by unfold Hid;rw[qj.out,if_pos hmk];exact DF.out
    rw[HT.out]
    rw[decide_eq_true hmk]at CT
    clear HT qj uL HC Ml DF E EW hc hmk
    go_enter Tryz.func86,Tryz.ntmps86
    go_wp2_with fail
    refine C.mono ?_
    rintro e w1⟨rfl,rfl⟩
    clear C
    go_wp2_with fail
    refine CT.mono ?_
    rintro e w2⟨rfl,rfl⟩
    go_wp2
    go_ret
    exact⟨rfl,HB.out⟩
   ·have HT:Hid (TX (ak r true)=X):=by unfold Hid;rw[qj.out,if_neg hmk];exact Ma.out
    rw[HT.out]
    rw[decide_eq_false hmk]at CT
    clear HT qj uL HC Ml DF E EW hc hmk Ma
    go_enter Tryz.func86,Tryz.ntmps86
    go_wp2_with fail
    refine C.mono ?_
    rintro e w1⟨rfl,rfl⟩
    clear C
    go_wp2_with fail
    refine CT.mono ?_
    rintro e w2⟨rfl,rfl⟩
    go_wp2
    go_ret
    exact⟨rfl,HB.out⟩
theorem mo(r:Int)(cls:Bool)(w:World)(E:PEnv w):Calls Tryz.prog 86 #[.int .i64 r,.bool cls] w fun e w'=>e=.returned (.string (TX (ak r cls)))∧Below w.heap.size w w':=by
 cases cls
 ·exact y9 r w E
 ·exact BZ r w E
end Go.Proofs.YtgbkolonhddolaaGreatDoor.tok
namespace Go.Proofs.YtgbkolonhddolaaGreatDoor.tok
open Go.ChangeShapes Go.WideShapes Go.ChangeAt Go.RowKit
open utf(oM)
/--Bytes that came in. -/
def ArgB(w:World)(v:Value)(n:Nat)(f:Nat→Int):Prop:=
 ∃ao cap,v=.slice ao n cap∧oM w ao n f∧(∀i,0≤f i∧f i≤255)∧n≤cap∧cap≤9223372036854775807∧(ao=none→n=0)
theorem open_bytes{H:Type}{enc:TypeId×Value→H}{W:World}{base:Nat}{v:Value}{d:DataW H}{p:List MemPlace}
  (hv:Value.okWide Tryz.prog W .any base 22 v)(h:DataW.Trod enc Tryz.prog W 0 (fun _=>true) true 22 v d p):∃n f,ArgB W v n f∧(n=0∨∃elems spare,d=.slice elems spare∧n≤elems.length):=by
 obtain⟨ao,n,cap,rfl⟩:=okWide_slice Tryz.underlying22 hv
 obtain⟨fuel,hf⟩:=h
 rcases open_ints Tryz.underlying22 Tryz.underlying5 (by kernel_rfl) hf with⟨hcs,_⟩|⟨x,l,c,zs,hcs,_,hl,hm,hz,hx,hcell,hwz⟩
 ·simp[Value.cells]at hcs
  obtain⟨rfl,rfl,rfl⟩:=hcs
  exact⟨0,fun _=>0,⟨none,0,rfl,.inl rfl,fun _=>⟨Int.le_refl 0,by show(0:Int)≤255;decide⟩,Nat.le_refl _,by omega,fun _=>rfl⟩,.inl rfl⟩
 ·simp[Value.cells]at hcs
  obtain⟨rfl,rfl,rfl⟩:=hcs
  simp at hz
  unfold maxLen at hm
  obtain⟨rfl,rfl⟩:=Prod.mk.inj hx
  refine⟨n,fun i=>zs[i]?.getD 0,⟨some x,cap,rfl,?_,range_u8 hwz,hl,by omega,fun h=>by cases h⟩,.inr ⟨_,_,rfl,?_⟩⟩
  rotate_left
  ·simp[lits];omega
  rcases Nat.eq_zero_or_pos n with h0|h0
  ·exact .inl h0
  ·obtain⟨b,off,spot⟩:=x
   have hspot:spot=none:=by simpa[Addr.add]using World.cell?_spot (hcell 0 (by omega))
   subst hspot
   exact .inr ⟨b,off,rfl,fun i hi=>by rw[←Addr.add_lit];simpa using hcell i (by omega)⟩
end Go.Proofs.YtgbkolonhddolaaGreatDoor.tok
