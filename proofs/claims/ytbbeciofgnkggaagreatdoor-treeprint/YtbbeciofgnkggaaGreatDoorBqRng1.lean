import Derived.Test.YtbbeciofgnkggaaGreatDoorProg
import Derived.WalkKit
import Derived.WalkSpells
import Derived.WalkLawsBesides
import Derived.Outline
import Derived.Deep.QuietTactic
import Derived.BigQuiet
set_option linter.unusedSimpArgs false
set_option linter.unusedVariables false
namespace Go.Proofs.YtbbeciofgnkggaaGreatDoor.rng
abbrev R:=Int×Int
def code(x:Int):Bool:=decide (0≤x)&&decide (x≤1114111)
def inP(p:R)(x:Int):Bool:=decide (p.1≤x)&&decide (x≤p.2)
/--Is x in what the list means. -/
def has(l:List R)(x:Int):Bool:=code x&&l.any (fun p=>inP p x)
/--Rising from lo on, apart, of code points alone. -/
def CanF:Int→List R→Prop
 |_,[]=>True
 |lo,p::r=>lo≤p.1∧p.1≤p.2∧p.2≤1114111∧CanF (p.2+2) r
def canB:Int→List R→Bool
 |_,[]=>true
 |lo,p::r=>decide (lo≤p.1∧p.1≤p.2∧p.2≤1114111)&&canB (p.2+2) r
/--Where the next range may begin. -/
def nxt:Int→List R→Int
 |lo,[]=>lo
 |_,p::r=>nxt (p.2+2) r
/--r is the set of all code points of which f holds. -/
def IsSet(r:List R)(f:Int→Bool):Prop:=CanF 0 r∧∀x,code x=true→has r x=f x
/--What a range is cut to, and which ranges mean something. -/
def clip(p:R):R:=(max p.1 0,min p.2 1114111)
def usable(l:List R):List R:=(l.map clip).filter fun p=>decide (p.1≤p.2)
/--How Make goes on: p: what was gone through; out: its set; rest: what is left. -/
structure MkInv(p out rest:List R):Prop where
 can:CanF 0 out
 same:∀x,has out x=has p x
 last:∀i q,out=i++[q]→∀y∈rest,q.1≤y.1
 good:∀y∈rest,0≤y.1∧y.1≤y.2∧y.2≤1114111
 rise:rest.Pairwise fun a b=>a.1≤b.1
end Go.Proofs.YtbbeciofgnkggaaGreatDoor.rng
namespace Go.Proofs.YtbbeciofgnkggaaGreatDoor.rng
def ed(r:List R):List Int:=r.flatMap fun p=>[p.1,p.2+1]
def eat(l:List Int)(i:Nat):Int:=l.getD i 1114113
/--How many stand at x or ahead of it. -/
def cnt(l:List Int)(x:Int):Nat:=(l.filter fun y=>decide (y≤x)).length
/--Rising from lo on. -/
def RiseF:Int→List Int→Prop
 |_,[]=>True
 |lo,a::l=>lo≤a∧RiseF (a+1) l
/--How the sweep goes on: pos: how far it is; i, k: how many edges of each lie there or ahead; out: what is told; lo: where an open range began. -/
structure CoInv(r s:List R)(K:Bool→Bool→Bool)(i k:Nat)(lo:Int)(ins:Bool)(out:List R)(pos:Int):Prop where
 ci:i=cnt (ed r) pos
 ck:k=cnt (ed s) pos
 pb:-1≤pos∧pos≤1114112
 can:CanF 0 out
 now:ins=K (decide (i%2=1)) (decide (k%2=1))
 opn:ins=true→0≤lo∧lo≤pos∧nxt 0 out≤lo
 shut:ins=false→nxt 0 out≤pos+1
 mem:∀x,0≤x→x≤pos→code x=true→K (has r x) (has s x)=(has out x||(ins&&decide (lo≤x)))
/--How the document's sweep goes on: at: the place that is next; f: what is asked for; out: the set of all ahead of it. -/
structure BoInv(f:Int→Bool)(out:List R)(at_:Int):Prop where
 can:CanF 0 out
 nx:nxt 0 out≤at_+1
 mem:∀x,0≤x→x<at_→has out x=f x
/--How many there are. -/
def tot(r:List R):Int:=(r.map fun p=>p.2-p.1+1).sum
def cn(f:Int→Bool):Nat→Int
 |0=>0
 |n+1=>cn f n+if f n then 1 else 0
end Go.Proofs.YtbbeciofgnkggaaGreatDoor.rng
namespace Go.Proofs.YtbbeciofgnkggaaGreatDoor.rng
open Go.RowKit
theorem ret_int{k:IntKind}{a b:Int}(h:a=b):Ending.returned (.int k a)=.returned (.int k b):=by rw[h]
theorem ret_bool{a b:Bool}(h:a=b):Ending.returned (.bool a)=.returned (.bool b):=by rw[h]
theorem below_drewN{B:Nat}{a w:World}(h:Below B a w)(q:Nat):Below B a (w.drewN q):=⟨h.os,h.tape,h.output,h.size,h.block⟩
theorem info_parts{P:Program}{t:TypeId}{z:Value}{s b:Nat}(h:(P.info? t).map (fun i=>(i.zero,i.size,i.bytes))=some (some z,s,b)):∃i,P.info? t=some i∧i.zero=some z∧i.size=s∧i.bytes=b:=by
 cases hi:P.info? t with
 |none=>rw[hi]at h;cases h
 |some i=>rw[hi]at h;simp at h;exact⟨i,rfl,h.1,h.2.1,h.2.2⟩
theorem infoRange:(Tryz.prog.info? 45).map (fun i=>(i.zero,i.size,i.bytes))=some (some (.agg #[.int .i64 0,.int .i64 0]),2,16):=by kernel_rfl
/--The cells of ranges. -/
def flat(l:List R):List Value:=l.flatMap fun p=>[.int .i64 p.1,.int .i64 p.2]
theorem flat_cons(p:R)(l:List R):flat (p::l)=.int .i64 p.1::.int .i64 p.2::flat l:=rfl
theorem flat_append(l r:List R):flat (l++r)=flat l++flat r:=by simp[flat]
theorem flat_length(l:List R):(flat l).length=l.length*2:=by
 induction l with
 |nil=>rfl
 |cons x l ih=>rw[flat_cons];simp;omega
theorem flat_get:∀(l:List R)(i:Nat)(p:R),l[i]?=some p→(flat l)[i*2]?=some (.int .i64 p.1)∧(flat l)[i*2+1]?=some (.int .i64 p.2)
 |[],i,p,h=>by simp at h
 |x::l,0,p,h=>by simp at h;subst h;exact⟨rfl,rfl⟩
 |x::l,i+1,p,h=>by
  have:=flat_get l i p (by simpa using h)
  rw[flat_cons,show(i+1)*2=i*2+1+1 from by omega]
  simpa using this
theorem flat_one(l:List R):∀u∈flat l,u.oneCell'=true:=by
 intro u hu
 unfold flat at hu
 obtain⟨q,hq,hu⟩:=List.mem_flatMap.1 hu
 simp only[List.mem_cons,List.mem_nil_iff,or_false]at hu
 rcases hu with rfl|rfl<;>rfl
/--v is a row of the call's own, of ranges l. -/
def Own(w:World)(base:Nat)(v:Value)(l:List R):Prop:=w.ownsRow base 45 2 v l.length (flat l)
theorem own_below'{w w':World}{B e size n:Nat}{v:Value}{xs:List Value}(h:w.ownsRow B e size v n xs)(hb:Below w.heap.size w w'):w'.ownsRow B e size v n xs:=by
 refine⟨h.1,?_⟩
 rcases h.2 with hn|⟨g,cap,cur,rfl,hg,hgg,rest⟩
 ·exact .inl hn
 ·exact .inr ⟨g,cap,cur,rfl,hg,by rw[hb.block g (Array.getElem?_eq_some_iff.1 hgg).1];exact hgg,rest⟩
/--The ranges l can be read from the address on. -/
def RV(w:World)(ao:Option Addr)(l:List R):Prop:=
 l=[]∨∃b off,ao=some ⟨b,off,none⟩∧∀i p,l[i]?=some p→w.cell? ⟨b,off+i*2,none⟩=some (.int .i64 p.1)∧w.cell? ⟨b,off+i*2+1,none⟩=some (.int .i64 p.2)
theorem RV.some{w:World}{ao:Option Addr}{l:List R}(h:RV w ao l)(h0:0<l.length):∃b off,ao=some ⟨b,off,none⟩∧∀i p,l[i]?=Option.some p→w.cell? ⟨b,off+i*2,none⟩=Option.some (.int .i64 p.1)∧w.cell? ⟨b,off+i*2+1,none⟩=Option.some (.int .i64 p.2):=by
 rcases h with rfl|h
 ·simp at h0
 ·exact h
theorem Own.view{w:World}{B:Nat}{v:Value}{l:List R}(h:Own w B v l):∃ao cap,v=.slice ao l.length cap∧RV w ao l∧l.length≤cap∧cap≤maxLen:=by
 rcases h.2 with⟨rfl,h0⟩|⟨g,cap,cur,rfl,hg,hgg,hc,hm,hs,ht⟩
 ·exact⟨none,0,by rw[h0],.inl (List.eq_nil_of_length_eq_zero h0),by omega,by unfold maxLen;omega⟩
 ·refine⟨_,cap,rfl,.inr ⟨g,0,rfl,fun i p hi=>?_⟩,hc,hm⟩
  obtain⟨e1,e2⟩:=flat_get l i p hi
  have hil:i<l.length:=(List.getElem?_eq_some_iff.1 hi).1
  have h':w.ownsRow B 45 2 (.slice (some ⟨g,0,none⟩) l.length cap) l.length (flat l):=h
  rw[Nat.zero_add]
  exact⟨(h'.cellAt _ (by omega)).trans e1,(h'.cellAt _ (by omega)).trans e2⟩
end Go.Proofs.YtbbeciofgnkggaaGreatDoor.rng
