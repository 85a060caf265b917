import Derived.Test.YtbbeciofgnkggaaGreatDoorBqTre9
import Derived.Test.YtbbeciofgnkggaaGreatDoorBqTok8
set_option linter.unusedSimpArgs false
set_option linter.unusedVariables false
section
namespace Go.Proofs.YtbbeciofgnkggaaGreatDoor.tre
open Go.RowKit nod tok
theorem sfB_lie(X:ByteArray):Lie (sfB X) X.size 0 X.data.toList:=⟨by rw[show X.data.toList.length=X.size from Array.length_toList];omega,fun i x hi=>by
 rw[Nat.zero_add];unfold sfB;rw[List.getD_eq_getElem?_getD,hi];rfl⟩
/--A text that is one token of a name. -/
theorem named_one{X m:ByteArray}(h:namedB X m=true):∃t,token (sfB X) X.size 0 0=.ok t X.size∧lin.BA t.1.name=m:=by
 unfold namedB at h
 simp only[Bool.and_eq_true,beq_iff_eq,decide_eq_true_eq]at h
 obtain⟨h1,h2⟩:=h
 by_cases hn:X.size≤2000
 ·rw[scanL_A _ _ hn]at h1 h2
  by_cases h0:0<X.size
  ·cases ht:token (sfB X) X.size 0 0 with
   |no c p=>rw[scanA_no _ _ ht h0]at h2;simp at h2
   |ok t a=>
    rw[scanA_ok _ _ ht h0]at h1 h2
    simp only[List.map_cons,List.cons.injEq,List.map_eq_nil_iff]at h1 h2
    have hv:=token_val _ _ ht (by omega)
    refine⟨t,?_,h2.1⟩
    by_cases ha:a<X.size
    ·exfalso
     cases hu:token (sfB X) X.size a t.2 with
     |no c p=>
      rw[scanA_no _ _ hu ha]at h1
      have:=token_in (sfB X) X.size a t.2 (by omega)
      rw[hu]at this
      exact this.1 h1
     |ok u b=>rw[scanA_ok _ _ hu ha]at h2;simp at h2
    ·rw[show X.size=a by omega]
  ·exfalso
   have e:X.size=0:=by omega
   rw[e,scanA_end]at h2
   simp at h2
 ·exfalso
  unfold scanL at h1
  rw[if_neg hn]at h1
  revert h1;decide
section
variable{f:Nat→Int}{n:Nat}
theorem nmR_zero(st b a:Nat):nmR f n st b 0 a=(octet f n a).bind fun c a'=>if c=62∧b<a then .ok (tok.bytes f b a) a' else nope f st:=by rw[nmR]
theorem nmR_succ(st b left a:Nat):nmR f n st b (left+1) a=(octet f n a).bind fun c a'=>if c=62∧b<a then .ok (tok.bytes f b a) a' else if nmC c (decide (a=b))=true then nmR f n st b left a' else nope f st:=by rw[nmR]
theorem nmC_62(first:Bool):nmC 62 first=false:=by cases first<;>decide
theorem nmR_conv{st b:Nat}{s:List UInt8}{e:Nat}:∀(left a:Nat),nmR f n st b left a=.ok s e→∃l,e=a+l+1∧a+l<n∧f (a+l)=62∧l≤left∧b<a+l∧s=tok.bytes f b (a+l)∧∀i,i<l→nmC (f (a+i)) (decide (a+i=b))=true:=by
 intro left
 induction left with
 |zero=>
  intro a h
  rw[nmR_zero]at h
  by_cases ha:a<n
  ·rw[octet_at f n ha rfl,bind_ok]at h
   split at h
   ·rename_i hc
    cases h
    exact⟨0,rfl,ha,hc.1,Nat.le_refl _,by omega,rfl,fun i hi=>by omega⟩
   ·cases h
  ·unfold octet at h;rw[if_neg ha]at h;cases h
 |succ left ih=>
  intro a h
  rw[nmR_succ]at h
  by_cases ha:a<n
  ·rw[octet_at f n ha rfl,bind_ok]at h
   split at h
   ·rename_i hc
    cases h
    exact⟨0,rfl,ha,hc.1,Nat.zero_le _,by omega,rfl,fun i hi=>by omega⟩
   ·split at h
    ·rename_i hm
     obtain⟨l,h1,h2,h3,h4,h5,h6,h7⟩:=ih (a+1) h
     refine⟨l+1,by omega,by omega,by rw[←h3];congr 1;omega,by omega,by omega,by rw[h6];congr 1;omega,fun i hi=>?_⟩
     match i with
     |0=>exact hm
     |i+1=>have:=h7 i (by omega);rw[show a+1+i=a+(i+1)by omega]at this;exact this
    ·cases h
  ·unfold octet at h;rw[if_neg ha]at h;cases h
theorem nmR_ok{st b:Nat}:∀(l left a:Nat),l≤left→a+l<n→f (a+l)=62→b<a+l→(∀i,i<l→nmC (f (a+i)) (decide (a+i=b))=true)→nmR f n st b left a=.ok (tok.bytes f b (a+l)) (a+l+1):=by
 intro l
 induction l with
 |zero=>
  intro left a _ hn h62 hb _
  rw[Nat.add_zero]at hn h62 hb⊢
  cases left with
  |zero=>rw[nmR_zero,octet_at f n hn h62,bind_ok,if_pos ⟨rfl,hb⟩]
  |succ q=>rw[nmR_succ,octet_at f n hn h62,bind_ok,if_pos ⟨rfl,hb⟩]
 |succ l ih=>
  intro left a hl hn h62 hb hc
  obtain⟨q,rfl⟩:∃q,left=q+1:=⟨left-1,by omega⟩
  have h0:=hc 0 (by omega)
  rw[Nat.add_zero]at h0
  have hne:¬(f a=62∧b<a):=fun h=>by rw[h.1,nmC_62]at h0;cases h0
  rw[nmR_succ,octet_at f n (by omega) rfl,bind_ok,if_neg hne,if_pos h0]
  rw[ih q (a+1) (by omega) (by omega) (by rw[←h62];congr 1;omega) (by omega) (fun i hi=>by have:=hc (i+1) (by omega);rwa[show a+(i+1)=a+1+i by omega]at this)]
  rw[show a+1+l=a+(l+1)by omega]
theorem bytes_lie{a:Nat}{l:List UInt8}(h:Lie f n a l):tok.bytes f a (a+l.length)=l:=by
 unfold tok.bytes
 apply List.ext_getElem?
 intro i
 rw[Nat.add_sub_cancel_left,List.getElem?_map]
 by_cases hi:i<l.length
 ·rw[List.getElem?_range hi]
  have:=h.2 i _ (List.getElem?_eq_getElem hi)
  rw[List.getElem?_eq_getElem hi]
  simp[this]
 ·rw[List.getElem?_eq_none (by simpa using hi),List.getElem?_eq_none (by omega)];rfl
/--A group's name, as a pattern may say it. -/
def nameOk(l:List UInt8):Prop:=0<l.length∧l.length≤20∧∀i x,l[i]?=some x→nmC (x.toNat:Int) (decide (i=0))=true
theorem nameOk_of{m:ByteArray}(h:namedB (openN m) m=true)(h0:m.size≠0):nameOk m.data.toList:=by
 obtain⟨t,ht,hm⟩:=named_one h
 have hl:=sfB_lie (openN m)
 have e:(openN m).data.toList=40::63::60::(m.data.toList++[62]):=by unfold openN;rw[data_app,data_app];rfl
 have es:(openN m).size=m.data.toList.length+4:=by
  have:(openN m).data.toList.length=(openN m).size:=Array.length_toList
  rw[←this,e];simp
 rw[e]at hl
 generalize sfB (openN m)=F at*
 generalize(openN m).size=N at*
 have hr:Lie F N 3 (m.data.toList++[62]):=Lie.right (l:=[40,63,60]) hl
 have hlen:0<m.data.toList.length:=by rw[show m.data.toList.length=m.size from Array.length_toList];omega
 have hop:token F N 0 0=(openLeft F N 0 3).with_ 0:=by
  rw[tokLow 0 (show F 0=40 from hl.b0.1) (by decide) (by decide) hl.b0.2 (by decide),if_neg (by omega)]
  unfold outside
  rw[if_neg (by decide)]
  congr 1
  unfold tok.mark
  simp
  unfold open_
  rw[at_is (show F 1=63 from hl.b1.1) hl.b1.2,if_pos rfl,octet_at F N hl.b2.2 (show F 2=60 from hl.b2.1),bind_ok]
  simp
 rw[hop]at ht
 unfold openLeft at ht
 have hnn:∀o:Tk,o.name=[]→lin.BA o.name≠m:=fun o ho hh=>by rw[ho]at hh;rw[←hh]at hlen;simp at hlen;exact absurd hlen (by decide)
 split at ht
 ·cases ht;exact absurd hm (hnn _ rfl)
 split at ht
 ·cases ht;exact absurd hm (hnn _ rfl)
 cases hnm:name F N 0 3 with
 |no c p=>rw[hnm]at ht;cases ht
 |ok s b=>
  rw[hnm]at ht
  cases ht
  obtain⟨l,h1,h2,h3,h4,h5,h6,h7⟩:=nmR_conv 20 3 hnm
  have hml:l=m.data.toList.length:=by omega
  subst hml
  refine⟨hlen,h4,fun i x hi=>?_⟩
  have hil:=(List.getElem?_eq_some_iff.1 hi).1
  have:=h7 i hil
  rw[hr.left.2 i x hi]at this
  have e0:decide (3+i=3)=decide (i=0):=decide_eq_decide.2 (by omega)
  rwa[e0]at this
/--A group with a name. -/
theorem lex_named{a:Nat}{m:ByteArray}(hk:nameOk m.data.toList)(h:Lie f n a (openN m).data.toList):token f n a 0=.ok (⟨3,2,0,0,m.data.toList,false,0,0⟩,0) (a+(openN m).size):=by
 have e:(openN m).data.toList=40::63::60::(m.data.toList++[62]):=by unfold openN;rw[data_app,data_app];rfl
 have es:(openN m).size=m.data.toList.length+4:=by
  have:(openN m).data.toList.length=(openN m).size:=Array.length_toList
  rw[←this,e];simp
 rw[e]at h
 rw[es]
 generalize m.data.toList=l at*
 have hr:Lie f n (a+3) (l++[62]):=Lie.right (l:=[40,63,60]) h
 obtain⟨x,hx⟩:∃x,l[0]?=some x:=⟨_,List.getElem?_eq_getElem hk.1⟩
 have hf0:f (a+3)=x.toNat:=hr.left.2 0 x hx
 have hx0:=hk.2.2 0 x hx
 have n61:f (a+3)≠61:=by rw[hf0];intro hh;rw[hh]at hx0;revert hx0;decide
 have n33:f (a+3)≠33:=by rw[hf0];intro hh;rw[hh]at hx0;revert hx0;decide
 refine open_tok h.b0.1 h.b0.2 ?_
 unfold open_
 rw[at_is (show f (a+1)=63 from h.b1.1) h.b1.2,if_pos rfl,octet_at f n h.b2.2 (show f (a+1+1)=60 from h.b2.1),bind_ok]
 simp only[show¬(60:Int)=58 by decide,show¬(60:Int)=61 by decide,show¬(60:Int)=33 by decide,show¬(60:Int)=62 by decide,if_false,if_true]
 unfold openLeft
 rw[at_ne (c:=61) n61,if_neg (by simp),at_ne (c:=33) n33,if_neg (by simp)]
 have hb:=hr.right.b0
 have hnm:name f n a (a+3)=.ok l (a+3+l.length+1):=by
  unfold name
  rw[nmR_ok l.length 20 (a+3) hk.2.1 hb.2 hb.1 (by have:=hk.1;omega) (fun i hi=>by
   have:=hk.2.2 i _ (List.getElem?_eq_getElem hi)
   rw[←hr.left.2 i _ (List.getElem?_eq_getElem hi)]at this
   have e0:decide (a+3+i=a+3)=decide (i=0):=decide_eq_decide.2 (by omega)
   rwa[e0]),bytes_lie hr.left]
 show(name f n a (a+3)).bind _=_
 rw[hnm,bind_ok]
 rw[show a+3+l.length+1=a+(l.length+4)by omega]
end
end Go.Proofs.YtbbeciofgnkggaaGreatDoor.tre
end
section
namespace Go.Proofs.YtbbeciofgnkggaaGreatDoor.tre
open Go.RowKit nod tok
def plainB(x:UInt8):Bool:=decide (32≤x.toNat)&&decide (x.toNat≤126)&&x !=125
theorem rows_plain:nam.rowsL.all (fun r=>r.2.1.all plainB)=true:=by decide+kernel
theorem look_plain{x:List UInt8×List UInt8}{r:nam.R3}(h:nam.lookL x=some r):r.2.1.all plainB=true:=by
 have:=List.all_eq_true.1 rows_plain r (List.mem_of_find?_eq_some h)
 exact this
theorem alone_plain(l:List UInt8)(h:(nam.aloneL l).2.2=0):(nam.aloneL l).2.1.all plainB=true:=by
 unfold nam.aloneL at*
 split
 ·rename_i r hr;exact look_plain hr
 ·split
  ·rename_i r hr;exact look_plain hr
  ·split
   ·rename_i r hr;exact look_plain hr
   ·rfl
theorem both_plain(p v:List UInt8)(h:(nam.bothL p v).2.2=0):(nam.bothL p v).2.1.all plainB=true:=by
 unfold nam.bothL at*
 split
 ·rfl
 ·split
  ·rfl
  ·rename_i q hq;exact look_plain hq
theorem canon_plain(s:ByteArray)(h:(nam.resolveV s).2.2=0):(canonL (nam.resolveV s)).all plainB=true:=by
 have hv:(nam.resolveV s).2.1.all plainB=true:=by
  unfold nam.resolveV at*
  split
  ·rename_i hm;rw[if_pos hm]at h;exact alone_plain _ h
  ·rename_i hm;rw[if_neg hm]at h;exact both_plain _ _ h
 unfold canonL
 split
 ·rw[List.all_append,hv];decide
 ·split
  ·rw[List.all_append,hv];decide
  ·exact hv
/--A property's value, as a pattern says it. -/
def propOk(m:ByteArray):Prop:=(nam.resolveV m).2.2=0∧canonL (nam.resolveV m)=m.data.toList
def propGood(m:ByteArray):Prop:=m=⟨#[100]⟩∨m=⟨#[119]⟩∨m=⟨#[115]⟩∨propOk m
theorem ba_data(m:ByteArray):lin.BA m.data.toList=m:=by
 obtain⟨⟨l⟩⟩:=m
 rfl
theorem propT_long{m:ByteArray}{g:Bool}(h1:m≠⟨#[100]⟩)(h2:m≠⟨#[119]⟩)(h3:m≠⟨#[115]⟩):(propT m g).data.toList=92::(if g then 80 else 112)::123::(m.data.toList++[125])∧(propT m g).size=m.data.toList.length+4:=by
 have e:(propT m g).data.toList=92::(if g then 80 else 112)::123::(m.data.toList++[125]):=by
  unfold propT;rw[if_neg h1,if_neg h2,if_neg h3]
  cases g<;>(simp only[Bool.false_eq_true,if_false,if_true];rw[data_app,data_app];rfl)
 refine⟨e,?_⟩
 have:(propT m g).data.toList.length=(propT m g).size:=Array.length_toList
 rw[←this,e];simp
section
variable{f:Nat→Int}{n:Nat}
/--A property's beginning. -/
theorem esc_prop{a k:Nat}{g:Bool}{l:List UInt8}(h:Lie f n a (92::(if g then 80 else 112)::123::l)):token f n a k=((exprR f n (n+1-(a+3)) (a+3)).bind fun _ e=>(meant f a (a+3) e).bind fun s b=>.ok (prop s g) b).with_ k:=by
 have h1:f (a+1)=if g then 80 else 112:=by have:=h.b1.1;cases g<;>simpa using this
 rw[tokEsc k h.b0.1 h1 (by split<;>decide) (by split<;>decide) h.b1.2]
 congr 1
 unfold escape
 rw[point_low (by split<;>decide) (by split<;>decide) h.b1.2 h1,bind_ok]
 have hw:want f n a 123 (a+1+1)=.ok () (a+1+1+1):=want_at f n h.b2.2 h.b2.1
 have hx:expr f n a (a+1+1)=(exprR f n (n+1-(a+3)) (a+3)).bind fun _ e=>meant f a (a+3) e:=by
  unfold expr;rw[hw,bind_ok]
 have hb:∀o:Out Unit,(o.bind fun _ e=>meant f a (a+3) e).bind (fun s b=>Out.ok (prop s g) b)=o.bind fun _ e=>(meant f a (a+3) e).bind fun s b=>.ok (prop s g) b:=fun o=>by cases o<;>rfl
 cases g
 ·simp only[Bool.false_eq_true,if_false]
  simp only[show¬(112:Int)=100 by decide,show¬(112:Int)=119 by decide,show¬(112:Int)=115 by decide,show¬(112:Int)=68 by decide,show¬(112:Int)=87 by decide,show¬(112:Int)=83 by decide,if_false,if_true]
  rw[hx];exact hb _
 ·simp only[if_true]
  simp only[show¬(80:Int)=100 by decide,show¬(80:Int)=119 by decide,show¬(80:Int)=115 by decide,show¬(80:Int)=68 by decide,show¬(80:Int)=87 by decide,show¬(80:Int)=83 by decide,show¬(80:Int)=112 by decide,if_false,if_true]
  rw[hx];exact hb _
theorem propGood_of{m:ByteArray}{g:Bool}(h:namedB (propT m g) m=true):propGood m:=by
 by_cases h1:m=⟨#[100]⟩
 ·exact .inl h1
 by_cases h2:m=⟨#[119]⟩
 ·exact .inr (.inl h2)
 by_cases h3:m=⟨#[115]⟩
 ·exact .inr (.inr (.inl h3))
 refine .inr (.inr (.inr ?_))
 obtain⟨t,ht,hm⟩:=named_one h
 obtain⟨e,es⟩:=propT_long (g:=g) h1 h2 h3
 have hl:=sfB_lie (propT m g)
 rw[e]at hl
 generalize sfB (propT m g)=F at*
 generalize(propT m g).size=N at*
 have hr:Lie F N 3 (m.data.toList++[125]):=Lie.right (l:=[92,if g then 80 else 112,123]) hl
 rw[esc_prop hl]at ht
 cases hx:exprR F N (N+1-(0+3)) (0+3)with
 |no c p=>rw[hx]at ht;cases ht
 |ok u b=>
  rw[hx,bind_ok]at ht
  unfold meant at ht
  split at ht
  ·rename_i hc
   have ht':Out.ok ((prop (canonL (nam.resolveV (lin.BA (tok.bytes F (0+3) (b-1))))) g,0):Tk×Nat) b=.ok t N:=ht
   cases ht'
   have hb:tok.bytes F (0+3) (N-1)=m.data.toList:=by
    have:=bytes_lie hr.left
    rw[show N-1=3+m.data.toList.length by omega]
    exact this
   rw[hb,ba_data]at hc
   have hm':lin.BA (canonL (nam.resolveV (lin.BA (tok.bytes F (0+3) (N-1)))))=m:=hm
   rw[hb,ba_data]at hm'
   exact⟨hc,by have:=congrArg (fun x:ByteArray=>x.data.toList) hm';simpa[lin.BA]using this⟩
  ·cases ht
theorem exprR_ok:∀(l:List UInt8)(a m:Nat),l.all plainB=true→Lie f n a (l++[125])→l.length<m→exprR f n m a=.ok () (a+l.length+1)
 |[],a,m,_,h,hm=>by
  obtain⟨q,rfl⟩:∃q,m=q+1:=⟨m-1,by simp at hm;omega⟩
  have h:Lie f n a [125]:=h
  rw[exprR,point_low (r:=125) (by decide) (by decide) h.b0.2 h.b0.1,bind_ok,if_pos rfl];rfl
 |x::l,a,m,hp,h,hm=>by
  obtain⟨q,rfl⟩:∃q,m=q+1:=⟨m-1,by simp at hm;omega⟩
  have h:Lie f n a (x::(l++[125])):=h
  simp only[List.all_cons,Bool.and_eq_true]at hp
  obtain⟨hx,hp⟩:=hp
  unfold plainB at hx
  simp only[Bool.and_eq_true,decide_eq_true_eq,bne_iff_ne]at hx
  have hne:¬(x.toNat:Int)=125:=fun h=>hx.2 (UInt8.toNat_inj.1 (by show x.toNat=125;omega))
  rw[exprR,point_low (r:=x.toNat) (by omega) (by omega) h.b0.2 h.b0.1,bind_ok,if_neg hne,exprR_ok l (a+1) q hp (Lie.right (l:=[x]) h) (by simp at hm;omega)]
  rw[List.length_cons,show a+1+l.length+1=a+(l.length+1)+1 by omega]
theorem esc_letter{a k:Nat}{x:Int}{s:List UInt8}{g:Bool}(e0:f a=92)(e1:f (a+1)=x)(hl:a+1<n)(hx:(x=100∧s=[100]∧g=false)∨(x=119∧s=[119]∧g=false)∨(x=115∧s=[115]∧g=false)∨(x=68∧s=[100]∧g=true)∨(x=87∧s=[119]∧g=true)∨(x=83∧s=[115]∧g=true)):token f n a k=.ok (prop s g,k) (a+2):=by
 rw[tokEsc k e0 e1 (by omega) (by omega) hl]
 have he:escape f n a (a+1) k=.ok (prop s g) (a+2):=by
  unfold escape
  rw[point_low (by omega) (by omega) hl e1,bind_ok]
  rcases hx with⟨rfl,rfl,rfl⟩|⟨rfl,rfl,rfl⟩|⟨rfl,rfl,rfl⟩|⟨rfl,rfl,rfl⟩|⟨rfl,rfl,rfl⟩|⟨rfl,rfl,rfl⟩<;>simp
 rw[he];rfl
/--A property. -/
theorem lex_prop{a k:Nat}{m:ByteArray}{g:Bool}(hg:propGood m)(h:Lie f n a (propT m g).data.toList):token f n a k=.ok (prop m.data.toList g,k) (a+(propT m g).size):=by
 by_cases h1:m=⟨#[100]⟩
 ·subst h1
  cases g
  ·have h:Lie f n a [92,100]:=h;exact esc_letter h.b0.1 h.b1.1 h.b1.2 (by simp)
  ·have h:Lie f n a [92,68]:=h;exact esc_letter h.b0.1 h.b1.1 h.b1.2 (by simp)
 by_cases h2:m=⟨#[119]⟩
 ·subst h2
  cases g
  ·have h:Lie f n a [92,119]:=h;exact esc_letter h.b0.1 h.b1.1 h.b1.2 (by simp)
  ·have h:Lie f n a [92,87]:=h;exact esc_letter h.b0.1 h.b1.1 h.b1.2 (by simp)
 by_cases h3:m=⟨#[115]⟩
 ·subst h3
  cases g
  ·have h:Lie f n a [92,115]:=h;exact esc_letter h.b0.1 h.b1.1 h.b1.2 (by simp)
  ·have h:Lie f n a [92,83]:=h;exact esc_letter h.b0.1 h.b1.1 h.b1.2 (by simp)
 have hk:propOk m:=by
  rcases hg with h|h|h|h
  ·exact absurd h h1
  ·exact absurd h h2
  ·exact absurd h h3
  ·exact h
 obtain⟨e,es⟩:=propT_long (g:=g) h1 h2 h3
 rw[e]at h
 rw[es,esc_prop h]
 have hr:Lie f n (a+3) (m.data.toList++[125]):=Lie.right (l:=[92,if g then 80 else 112,123]) h
 have hp:m.data.toList.all plainB=true:=by rw[←hk.2];exact canon_plain m hk.1
 have hlen:=hr.1
 simp only[List.length_append,List.length_cons,List.length_nil]at hlen
 rw[exprR_ok m.data.toList (a+3) _ hp hr (by omega),bind_ok]
 have hb:tok.bytes f (a+3) (a+3+m.data.toList.length+1-1)=m.data.toList:=by rw[Nat.add_sub_cancel];exact bytes_lie hr.left
 unfold meant
 rw[hb,ba_data,if_pos hk.1,bind_ok,hk.2]
 rw[show a+3+m.data.toList.length+1=a+(m.data.toList.length+4)by omega]
 rfl
end
end Go.Proofs.YtbbeciofgnkggaaGreatDoor.tre
end
section
namespace Go.Proofs.YtbbeciofgnkggaaGreatDoor.tre
open Go.RowKit nod tok
def tkMem(ins:Nd→List Tk)(t:Nd):List Tk:=
 if t.kind=1 then[char t.a]else if t.kind=4 then[char t.a,bare 13,char t.b]else if t.kind=5 then[prop t.name.data.toList t.neg]else classT t.neg::(ins t++[bare 12])
def tkIns:Nat→Nd→List Tk
 |0,_=>[]
 |N+1,t=>if t.mode=0 then t.kids.flatMap (tkMem (tkIns N))else(match t.kids with|[l,r]=>tkIns N l++setT t.mode::tkIns N r|_=>[])
/--What a writer holds stands at the text's beginning. -/
def Tx(f:Nat→Int)(n:Nat)(s:Wr):Prop:=Lie f n 0 s.text
section
variable{f:Nat→Int}{n:Nat}
end
end Go.Proofs.YtbbeciofgnkggaaGreatDoor.tre
end
section
namespace Go.Proofs.YtbbeciofgnkggaaGreatDoor.tre
open Go.RowKit nod tok
def tkSeq(tk:Nd→List Tk)(t:Nd):List Tk:=t.kids.flatMap tk
def tkBody(tk:Nd→List Tk)(t:Nd):List Tk:=
 if t.kind=6 then tkSeq tk t else(match t.kids with|x::xs=>tkSeq tk x++xs.flatMap (fun y=>bare 5::tkSeq tk y)|[]=>[])
def tkEncl(tk:Nd→List Tk)(o:Tk)(t:Nd):List Tk:=o::((match t.kids with|[x]=>tkBody tk x|_=>[])++[bare 4])
def tkPart:Nat→Nd→List Tk
 |0,_=>[]
 |N+1,t=>
  if t.kind=1 then[char t.a]else if t.kind=2 then[bare 2]
  else if t.kind=3 then classT t.neg::(tkIns N t++[bare 12])
  else if t.kind=5 then[prop t.name.data.toList t.neg]
  else if t.kind=8 then(match t.kids with|[x]=>tkPart N x|_=>[])++[⟨6,t.mode,t.a,t.b,[],false,0,0⟩]
  else if t.kind=9 then tkEncl (tkPart N) (if t.a=0 then opening 1 else if t.name.size=0 then opening 0 else⟨3,2,0,0,t.name.data.toList,false,0,0⟩) t
  else if t.kind=10 then tkEncl (tkPart N) (opening (t.mode+3)) t
  else if t.kind=11 then tkEncl (tkPart N) (opening 7) t
  else if t.kind=12 then[asrt t.mode]
  else if t.kind=13 then[⟨9,0,t.a,0,[],false,0,0⟩]
  else[bare 10]
/--What stands behind a sequence, and behind a body: nothing, a closing bracket; a bar too. -/
def TerS(f:Nat→Int)(n a:Nat):Prop:=n≤a∨f a=41∨f a=124
def TerB(f:Nat→Int)(n a:Nat):Prop:=n≤a∨f a=41
/--How a part begins. -/
def Beg(x:Int):Prop:=x≠42∧x≠43∧x≠63∧x≠123∧x≠124∧x≠41
section
variable{f:Nat→Int}{n:Nat}
end
end Go.Proofs.YtbbeciofgnkggaaGreatDoor.tre
end
section
namespace Go.Proofs.YtbbeciofgnkggaaGreatDoor.tre
open Go.RowKit nod tok
section
variable{f:Nat→Int}{n:Nat}
/--A token without its place. -/
def bareT(t:Tk):Tk:={t with s:=0,e:=0}
end
end Go.Proofs.YtbbeciofgnkggaaGreatDoor.tre
end
namespace Go.Proofs.YtbbeciofgnkggaaGreatDoor.tre
open Go.RowKit nod tok
theorem named_of{X m:ByteArray}{t:Tk×Nat}(h:token (sfB X) X.size 0 0=.ok t X.size)(hm:lin.BA t.1.name=m)(h0:0<X.size)(hn:X.size≤2000):namedB X m=true:=by
 unfold namedB
 rw[scanL_A _ _ hn,scanA_ok _ _ h h0,scanA_end]
 simp[hm]
def propD(m:ByteArray):Bool:=decide (m=⟨#[100]⟩)||decide (m=⟨#[119]⟩)||decide (m=⟨#[115]⟩)||(decide ((nam.resolveV m).2.2=0)&&decide (canonL (nam.resolveV m)=m.data.toList))
theorem propD_iff(m:ByteArray):propD m=true↔propGood m:=by
 unfold propD propGood propOk
 simp only[Bool.or_eq_true,Bool.and_eq_true,decide_eq_true_eq,or_assoc]
theorem app_size(a b:ByteArray):(a++b).size=a.size+b.size:=ByteArray.size_append
theorem propT_pos(m:ByteArray)(g:Bool):0<(propT m g).size:=by
 unfold propT
 (repeat' split)<;>first|decide|(rw[app_size,app_size];have:(⟨#[125]⟩:ByteArray).size=1:=rfl;omega)
theorem propGood_short{m:ByteArray}(h:propGood m):m.size≤200:=by
 rcases h with rfl|rfl|rfl|⟨h1,h2⟩
 ·decide
 ·decide
 ·decide
 ·have hs:=resolve_small m
  have:m.size=(canonL (nam.resolveV m)).length:=by rw[h2];exact Array.length_toList.symm
  rw[this]
  unfold canonL
  (repeat' split)<;>simp<;>omega
theorem propT_size(m:ByteArray)(g:Bool):(propT m g).size≤m.size+4:=by
 unfold propT
 (repeat' split)<;>first|(subst_vars;decide)|(rw[app_size,app_size];have h1:(⟨#[125]⟩:ByteArray).size=1:=rfl;have h2:(⟨#[92,80,123]⟩:ByteArray).size=3:=rfl;have h3:(⟨#[92,112,123]⟩:ByteArray).size=3:=rfl;omega)
theorem named_prop(m:ByteArray)(g:Bool):namedB (propT m g) m=propD m:=by
 rw[Bool.eq_iff_iff,propD_iff]
 constructor
 ·exact propGood_of
 ·intro h
  have h1:=lex_prop (k:=0) (a:=0) (g:=g) h (sfB_lie (propT m g))
  rw[Nat.zero_add]at h1
  exact named_of h1 (ba_data m) (propT_pos m g) (by have:=propT_size m g;have:=propGood_short h;omega)
theorem gd_nm{m:ByteArray}{i:Nat}{x:UInt8}(h:m.data.toList[i]?=some x):gdN m i=nmC (x.toNat:Int) (decide (i=0)):=by
 have hlt:i<m.size:=(Array.getElem?_eq_some_iff.1 (by rw[←Array.getElem?_toList];exact h)).1
 have e:lin.at8 m i=(x.toNat:Int):=by
  rw[lin.at8_eq m i hlt]
  have h2:m.data[i]?=some x:=by rw[←Array.getElem?_toList];exact h
  obtain⟨_,h3⟩:=Array.getElem?_eq_some_iff.1 h2
  rw[←h3];rfl
 unfold gdN nmC lettB
 rw[e]
 by_cases hi:i=0
 ·subst hi;simp[Bool.or_comm]
 ·have h1:decide (0<i)=true:=decide_eq_true (by omega)
  have h2:decide (i=0)=false:=decide_eq_false hi
  rw[h1,h2]
  simp only[Bool.true_and,Bool.not_false]
  cases letterB (x.toNat:Int)<;>cases((x.toNat:Int)==95)<;>rfl
theorem isN_iff(m:ByteArray):isN m=true↔nameOk m.data.toList:=by
 unfold isN nameOk
 have hl:m.data.toList.length=m.size:=Array.length_toList
 rw[decide_eq_true_iff,hl]
 constructor
 ·rintro⟨h1,h2,h3⟩
  refine⟨by omega,h3,fun i x hi=>?_⟩
  have hlt:i<m.size:=by rw[←hl];exact(List.getElem?_eq_some_iff.1 hi).1
  rw[←gd_nm hi];exact h1 i hlt
 ·rintro⟨h1,h2,h3⟩
  refine⟨fun p hp=>?_,by omega,h2⟩
  have hp':p<m.data.toList.length:=by rw[hl];exact hp
  rw[gd_nm (List.getElem?_eq_getElem hp')]
  exact h3 p _ (List.getElem?_eq_getElem hp')
theorem openN_size(m:ByteArray):(openN m).size=m.size+4:=by
 unfold openN
 rw[app_size,app_size]
 have h1:(⟨#[62]⟩:ByteArray).size=1:=rfl
 have h2:(⟨#[40,63,60]⟩:ByteArray).size=3:=rfl
 omega
theorem named_open(m:ByteArray)(h0:m.size≠0):namedB (openN m) m=isN m:=by
 rw[Bool.eq_iff_iff,isN_iff]
 constructor
 ·intro h;exact nameOk_of h h0
 ·intro h
  have h1:=lex_named (a:=0) h (sfB_lie (openN m))
  rw[Nat.zero_add]at h1
  have hs:=openN_size m
  have hl:m.data.toList.length=m.size:=Array.length_toList
  exact named_of h1 (ba_data m) (by omega) (by have:=h.2.1;omega)
/-! What is written at the end, of what was met. -/
abbrev Ck:=Int×List ByteArray
def Wr.with_(s:Wr)(l:List UInt8)(c:Ck):Wr:={s with text:=s.text++l,room:=s.room-l.length,groups:=c.1,names:=c.2}
def wput(s:Wr)(l:List UInt8)(c:Ck):Option Wr:=if(l.length:Int)≤s.room then some (s.with_ l c)else none
/--A writer's method writes l, where the document's checker goes on. -/
def WD(F:Wr→Option Wr)(D:Ck→Int→Option Ck)(l:List UInt8):Prop:=∀s,0≤s.room→F s=(D (s.groups,s.names) s.depth).bind (wput s l)
theorem with_with(s:Wr)(l r:List UInt8)(c c':Ck):(s.with_ l c).with_ r c'=s.with_ (l++r) c':=by
 simp[Wr.with_,Int.sub_sub]
theorem wput_put(s:Wr)(l r:List UInt8)(c c':Ck):(wput s l c).bind (fun s1=>wput s1 r c')=wput s (l++r) c':=by
 unfold wput
 by_cases h:(l.length:Int)≤s.room
 ·rw[if_pos h]
  simp only[Option.bind_some]
  have e:(s.with_ l c).room=s.room-l.length:=rfl
  rw[e,with_with]
  by_cases h2:(r.length:Int)≤s.room-l.length
  ·rw[if_pos h2,if_pos (by rw[List.length_append];omega)]
  ·rw[if_neg h2,if_neg (by rw[List.length_append];omega)]
 ·rw[if_neg h,if_neg (by rw[List.length_append];omega)]
  rfl
theorem WD.seq{F G:Wr→Option Wr}{D E:Ck→Int→Option Ck}{l r:List UInt8}(hF:WD F D l)(hG:WD G E r):WD (fun s=>(F s).bind G) (fun c d=>(D c d).bind fun c'=>E c' d) (l++r):=by
 intro s hs
 show(F s).bind G=((D (s.groups,s.names) s.depth).bind fun c'=>E c' s.depth).bind (wput s (l++r))
 rw[hF s hs]
 cases hD:D (s.groups,s.names) s.depth with
 |none=>rfl
 |some c=>
  simp only[Option.bind_some]
  unfold wput
  by_cases h:(l.length:Int)≤s.room
  ·rw[if_pos h]
   simp only[Option.bind_some]
   rw[hG _ (by show 0≤s.room-l.length;omega)]
   show(E c s.depth).bind _=(E c s.depth).bind _
   cases hE:E c s.depth with
   |none=>rfl
   |some c'=>
    simp only[Option.bind_some]
    have:=wput_put s l r c c'
    unfold wput at this
    rw[if_pos h]at this
    exact this
  ·rw[if_neg h]
   show none=(E c s.depth).bind _
   cases hE:E c s.depth with
   |none=>rfl
   |some c'=>
    simp only[Option.bind_some]
    rw[if_neg (by rw[List.length_append];omega)]
theorem WD.none_(l:List UInt8):WD (fun _=>none) (fun _ _=>none) l:=fun s _=>rfl
theorem WD.skip:WD (fun s=>some s) (fun c _=>some c) []:=by
 intro s hs
 show some s=wput s [] (s.groups,s.names)
 unfold wput
 rw[if_pos (by simpa using hs)]
 simp[Wr.with_]
theorem WD.put{t:ByteArray}(h:t.size≠0):WD (fun s=>putO s t) (fun c _=>some c) t.data.toList:=by
 intro s hs
 show putO s t=wput s t.data.toList (s.groups,s.names)
 have hl:t.data.toList.length=t.size:=Array.length_toList
 unfold putO wput
 rw[if_neg h,hl]
 by_cases h2:(t.size:Int)≤s.room
 ·rw[if_pos (by omega),if_pos h2]
  simp[Wr.with_,Wr.add,Wr.less]
 ·rw[if_neg (by omega),if_neg h2]
theorem WD.ite{F:Wr→Option Wr}{D:Ck→Int→Option Ck}{l:List UInt8}{c:Prop}[Decidable c](h:c→WD F D l):WD (fun s=>if c then F s else none) (fun k d=>if c then D k d else none) l:=by
 intro s hs
 by_cases hc:c
 ·simp only[if_pos hc];exact h hc s hs
 ·simp only[if_neg hc];rfl
theorem leave_map(s:Wr)(c:ByteArray):leaveO s c=(putO s c).map (fun x=>x.deep (-1)):=by
 unfold leaveO putO
 by_cases h:c.size=0
 ·rw[if_pos h,if_pos h];rfl
 ·rw[if_neg h,if_neg h]
  show(if 0≤s.room-(c.size:Int)then _ else _)=_
  by_cases h2:0≤s.room-(c.size:Int)
  ·rw[if_pos h2,if_pos h2];rfl
  ·rw[if_neg h2,if_neg h2];rfl
theorem wput_deep(s:Wr)(l:List UInt8)(c:Ck):(wput (s.deep 1) l c).map (fun x=>x.deep (-1))=wput s l c:=by
 unfold wput
 show(if(l.length:Int)≤s.room then _ else _:Option Wr).map _=_
 by_cases h:(l.length:Int)≤s.room
 ·rw[if_pos h,if_pos h]
  simp[Wr.with_,Wr.deep,Int.add_assoc]
 ·rw[if_neg h,if_neg h];rfl
theorem WD.brack{F:Wr→Option Wr}{D:Ck→Int→Option Ck}{l:List UInt8}{o c:ByteArray}(h:WD F D l)(ho:o.size≠0)(hc:c.size≠0):WD (fun s=>(enterO s o).bind fun s1=>(F s1).bind fun s2=>leaveO s2 c) (fun k d=>if d+1≤50 then D k (d+1)else none) (o.data.toList++l++c.data.toList):=by
 intro s hs
 unfold enterO
 by_cases hd:s.depth+1≤50
 ·simp only[if_pos hd]
  have h1:=((WD.put ho).seq h).seq (WD.put hc) (s.deep 1) hs
  simp only[leave_map]
  have e:(putO (s.deep 1) o).bind (fun s1=>(F s1).bind fun s2=>(putO s2 c).map (fun x=>x.deep (-1)))=(((putO (s.deep 1) o).bind F).bind (fun s2=>putO s2 c)).map (fun x=>x.deep (-1)):=by
   cases putO (s.deep 1) o with
   |none=>rfl
   |some s1=>
    simp only[Option.bind_some]
    cases F s1<;>rfl
  simp only at h1
  rw[e,h1]
  show Option.map _ (((((some (s.groups,s.names):Option Ck).bind fun c'=>D c' (s.depth+1))).bind fun c'=>some c').bind _)=_
  simp only[Option.bind_some]
  cases D (s.groups,s.names) (s.depth+1)with
  |none=>rfl
  |some k=>exact wput_deep s _ k
 ·simp only[if_neg hd];rfl
def loopD(D:Nd→Ck→Int→Option Ck):List Nd→Ck→Int→Option Ck
 |[],c,_=>some c
 |t::ts,c,d=>(D t c d).bind fun c'=>loopD D ts c' d
theorem WD.loop{f:Wr→Nd→Option Wr}{D:Nd→Ck→Int→Option Ck}{l:Nd→List UInt8}:∀ts:List Nd,(∀t∈ts,WD (fun s=>f s t) (D t) (l t))→WD (loopO f ts) (loopD D ts) (ts.flatMap l)
 |[],_=>WD.skip
 |t::ts,h=>by
  have h1:=(h t (by simp)).seq (WD.loop ts (fun x hx=>h x (by simp[hx])))
  intro s hs
  rw[loopO,List.flatMap_cons]
  exact h1 s hs
end Go.Proofs.YtbbeciofgnkggaaGreatDoor.tre
namespace Go.Proofs.YtbbeciofgnkggaaGreatDoor.tre
open Go.RowKit nod tok
theorem WD.congr{F F':Wr→Option Wr}{D D':Ck→Int→Option Ck}{l l':List UInt8}(h:WD F D l)(hF:∀s,F' s=F s)(hD:∀c d,D' c d=D c d)(hl:l'=l):WD F' D' l':=by
 subst hl
 intro s hs
 rw[hF,hD]
 exact h s hs
def bD(b:Int→Bool):Ck→Int→Option Ck:=fun c d=>if b d=true then some c else none
theorem bD_seq(b b':Int→Bool)(c:Ck)(d:Int):(bD b c d).bind (fun c'=>bD b' c' d)=bD (fun d=>b d&&b' d) c d:=by
 unfold bD
 show((if b d=true then some c else none).bind fun c'=>if b' d=true then some c' else none)=if(b d&&b' d)=true then some c else none
 cases b d<;>cases b' d<;>rfl
theorem WD.both{F G:Wr→Option Wr}{b b':Int→Bool}{l r:List UInt8}(hF:WD F (bD b) l)(hG:WD G (bD b') r):WD (fun s=>(F s).bind G) (bD fun d=>b d&&b' d) (l++r):=
 (hF.seq hG).congr (fun _=>rfl) (fun c d=>(bD_seq b b' c d).symm) rfl
theorem WD.puts(t:ByteArray)(p:Bool)(h:p=true↔t.size≠0):WD (fun s=>putO s t) (bD fun _=>p) t.data.toList:=by
 cases p with
 |true=>exact(WD.put (h.1 rfl)).congr (fun _=>rfl) (fun c d=>rfl) rfl
 |false=>
  have h0:t.size=0:=by
   rcases Nat.eq_zero_or_pos t.size with e|e
   ·exact e
   ·exact absurd (h.2 (by omega)) (by decide)
  exact(WD.none_ _).congr (fun s=>by unfold putO;rw[if_pos h0]) (fun c d=>rfl) rfl
theorem tx_size(L:List Int):(TX L).size=L.length:=by
 show(Lib.bytesOf L).toArray.size=_
 simp[Lib.bytesOf]
theorem wd_char(r:Int)(k:Bool):WD (fun s=>putO s (TX (printL r k))) (bD fun _=>decide (utf.len r≠0)) (TX (printL r k)).data.toList:=by
 refine WD.puts _ _ ?_
 rw[tx_size,decide_eq_true_iff]
 constructor
 ·intro h;have:=(print_pos r k h).1;omega
 ·intro h e;rw[print_none r k e]at h;exact h rfl
def memD(ins:Nd→Int→Bool)(t:Nd)(d:Int):Bool:=
 othersZ t&&(if t.kind=1 then decide (utf.len t.a≠0)
 else if t.kind=4 then decide (t.a≤t.b)&&(decide (utf.len t.a≠0)&&decide (utf.len t.b≠0))
 else if t.kind=5 then propD t.name
 else if t.kind=3 then decide (d+1≤50)&&ins t (d+1)
 else false)
def insD:Nat→Nd→Int→Bool
 |0,_,_=>false
 |N+1,t,d=>
  if t.mode=0 then !t.kids.isEmpty&&t.kids.all (fun k=>memD (insD N) k d)
  else if t.mode=1∨t.mode=2∨t.mode=3 then
   (match t.kids with
   |[l,r]=>sideB l&&sideB r&&decide (r.mode=0)&&(insD N l d&&insD N r d)
   |_=>false)
  else false
def memT(ins:Nd→List UInt8)(t:Nd):List UInt8:=
 if t.kind=1 then(TX (printL t.a true)).data.toList
 else if t.kind=4 then(TX (printL t.a true)).data.toList++([45]++(TX (printL t.b true)).data.toList)
 else if t.kind=5 then(propT t.name t.neg).data.toList
 else(openC t.neg).data.toList++ins t++[93]
def insT:Nat→Nd→List UInt8
 |0,_=>[]
 |N+1,t=>
  if t.mode=0 then t.kids.flatMap (memT (insT N))
  else(match t.kids with
   |[l,r]=>insT N l++((textP t.mode opTexts).data.toList++insT N r)
   |_=>[])
theorem wd_prop(m:ByteArray)(g:Bool):WD (fun s=>propO s m g) (bD fun _=>propD m) (propT m g).data.toList:=by
 refine(WD.ite (c:=namedB (propT m g) m=true) (fun _=>WD.put (t:=propT m g) (by have:=propT_pos m g;omega))).congr (fun s=>rfl) (fun c d=>?_) rfl
 unfold bD
 rw[named_prop]
theorem wd_range(a b:Int):WD (fun s=>rangeO s a b) (bD fun _=>decide (a≤b)&&(decide (utf.len a≠0)&&decide (utf.len b≠0))) ((TX (printL a true)).data.toList++([45]++(TX (printL b true)).data.toList)):=by
 have h:=(wd_char a true).both ((WD.puts ⟨#[45]⟩ true (by decide)).both (wd_char b true))
 refine(WD.ite (c:=a≤b) (fun _=>h)).congr (fun s=>rfl) (fun c d=>?_) rfl
 unfold bD
 by_cases hab:a≤b
 ·simp[hab]
 ·simp[hab]
theorem wd_class{ins:Wr→Nd→Option Wr}{iD:Nd→Int→Bool}{iT:Nd→List UInt8}{t:Nd}(h:WD (fun s=>ins s t) (bD (iD t)) (iT t)):WD (fun s=>classO ins s t) (bD fun d=>decide (d+1≤50)&&iD t (d+1)) ((openC t.neg).data.toList++iT t++[93]):=by
 have h1:=WD.brack (o:=openC t.neg) (c:=⟨#[93]⟩) h (by unfold openC;split<;>decide) (by decide)
 refine h1.congr (fun s=>rfl) (fun c d=>?_) rfl
 unfold bD
 by_cases hd:d+1≤50
 ·simp[hd]
 ·simp[hd]
theorem wd_member{ins:Wr→Nd→Option Wr}{iD:Nd→Int→Bool}{iT:Nd→List UInt8}(h:∀t,WD (fun s=>ins s t) (bD (iD t)) (iT t))(t:Nd):WD (fun s=>memberO ins s t) (bD (memD iD t)) (memT iT t):=by
 unfold memberO memD memT
 cases ho:othersZ t with
 |false=>exact(WD.none_ _).congr (fun s=>by simp) (fun c d=>by unfold bD;simp) rfl
 |true=>
  by_cases h1:t.kind=1
  ·exact(wd_char t.a true).congr (fun s=>by simp[h1]) (fun c d=>by unfold bD;simp[h1]) (by simp[h1])
  by_cases h4:t.kind=4
  ·exact(wd_range t.a t.b).congr (fun s=>by simp[h4]) (fun c d=>by unfold bD;simp[h4]) (by simp[h4])
  by_cases h5:t.kind=5
  ·exact(wd_prop t.name t.neg).congr (fun s=>by simp[h5]) (fun c d=>by unfold bD;simp[h5]) (by simp[h5])
  by_cases h3:t.kind=3
  ·exact(wd_class (h t)).congr (fun s=>by simp[h3]) (fun c d=>by unfold bD;simp[h3]) (by simp[h3])
  ·exact(WD.none_ _).congr (fun s=>by simp[h1,h4,h5,h3]) (fun c d=>by unfold bD;simp[h1,h4,h5,h3]) (by rfl)
theorem loopD_all(b:Nd→Int→Bool):∀(ts:List Nd)(c:Ck)(d:Int),loopD (fun t=>bD (b t)) ts c d=bD (fun d=>ts.all (fun t=>b t d)) c d
 |[],c,d=>rfl
 |t::ts,c,d=>by
  rw[loopD]
  simp only[loopD_all b ts]
  rw[bD_seq]
  rfl
theorem wd_sides{ins:Wr→Nd→Option Wr}{iD:Nd→Int→Bool}{iT:Nd→List UInt8}(h:∀t,WD (fun s=>ins s t) (bD (iD t)) (iT t))(m:Int)(hm:m=1∨m=2∨m=3)(l r:Nd):WD (fun s=>sidesO ins s m [l,r]) (bD fun d=>sideB l&&sideB r&&decide (r.mode=0)&&(iD l d&&iD r d)) (iT l++((textP m opTexts).data.toList++iT r)):=by
 have hop:(textP m opTexts).data.toList.length=2:=by rw[←opSize hm];exact Array.length_toList
 intro s hs
 simp only[sidesO]
 generalize textP m opTexts=op at*
 by_cases hP:sideB l=true∧sideB r=true∧r.mode=0
 ·obtain⟨p1,p2,p3⟩:=hP
  have e1:bD (fun d=>sideB l&&sideB r&&decide (r.mode=0)&&(iD l d&&iD r d)) (s.groups,s.names) s.depth=bD (fun d=>iD l d&&iD r d) (s.groups,s.names) s.depth:=by unfold bD;simp[p1,p2,p3]
  rw[e1]
  have e2:bD (fun d=>iD l d&&iD r d) (s.groups,s.names) s.depth=if iD l s.depth=true∧iD r s.depth=true then some (s.groups,s.names)else none:=by unfold bD;simp only[Bool.and_eq_true]
  rw[e2]
  have f1:∀(x:Wr)(t:Nd),bD (iD t) (x.groups,x.names) x.depth=if iD t x.depth=true then some (x.groups,x.names)else none:=fun x t=>rfl
  by_cases hr:0≤s.room-2
  ·rw[if_pos ⟨p1,p2,p3,hr⟩]
   have h1:=h l (s.less 2) hr
   simp only at h1
   rw[f1]at h1
   have d1:(s.less 2).depth=s.depth:=rfl
   rw[d1]at h1
   rw[h1]
   by_cases hl:iD l s.depth=true
   ·rw[if_pos hl]
    simp only[Option.bind_some]
    unfold wput
    have er:(s.less 2).room=s.room-2:=rfl
    rw[er]
    by_cases hl2:((iT l).length:Int)≤s.room-2
    ·rw[if_pos hl2]
     simp only[Option.bind_some]
     have h2:=h r (((s.less 2).with_ (iT l) ((s.less 2).groups,(s.less 2).names)).add op) (by show 0≤s.room-2-(iT l).length;omega)
     simp only at h2
     rw[f1]at h2
     have d2:(((s.less 2).with_ (iT l) ((s.less 2).groups,(s.less 2).names)).add op).depth=s.depth:=rfl
     rw[d2]at h2
     rw[h2]
     by_cases hr2:iD r s.depth=true
     ·rw[if_pos hr2,if_pos ⟨hl,hr2⟩]
      simp only[Option.bind_some]
      unfold wput
      have er2:(((s.less 2).with_ (iT l) ((s.less 2).groups,(s.less 2).names)).add op).room=s.room-2-(iT l).length:=rfl
      rw[er2]
      by_cases h3:((iT r).length:Int)≤s.room-2-(iT l).length
      ·rw[if_pos h3,if_pos (by rw[List.length_append,List.length_append,hop];omega)]
       simp[Wr.with_,Wr.add,Wr.less,hop]
       omega
      ·rw[if_neg h3,if_neg (by rw[List.length_append,List.length_append,hop];omega)]
     ·rw[if_neg hr2,if_neg (fun q=>hr2 q.2)];rfl
    ·rw[if_neg hl2]
     simp only[Option.bind_none]
     by_cases hr2:iD r s.depth=true
     ·rw[if_pos ⟨hl,hr2⟩]
      simp only[Option.bind_some]
      rw[if_neg (by rw[List.length_append,List.length_append,hop];omega)]
     ·rw[if_neg (fun q=>hr2 q.2)];rfl
   ·rw[if_neg hl,if_neg (fun q=>hl q.1)];rfl
  ·rw[if_neg (fun q=>hr q.2.2.2)]
   by_cases hb:iD l s.depth=true∧iD r s.depth=true
   ·rw[if_pos hb]
    simp only[Option.bind_some]
    unfold wput
    rw[if_neg (by rw[List.length_append,List.length_append,hop];omega)]
   ·rw[if_neg hb];rfl
 ·rw[if_neg (fun q=>hP ⟨q.1,q.2.1,q.2.2.1⟩)]
  have e1:bD (fun d=>sideB l&&sideB r&&decide (r.mode=0)&&(iD l d&&iD r d)) (s.groups,s.names) s.depth=none:=by
   unfold bD
   rw[if_neg]
   intro q
   simp only[Bool.and_eq_true,decide_eq_true_eq]at q
   exact hP ⟨q.1.1.1,q.1.1.2,q.1.2⟩
  rw[e1]
  rfl
theorem wd_inside:∀(N:Nat)(t:Nd),WD (fun s=>insideO N s t) (bD (insD N t)) (insT N t)
 |0,t=>(WD.none_ _).congr (fun s=>rfl) (fun c d=>rfl) rfl
 |N+1,t=>by
  by_cases hm:t.mode=0
  ·have h:=WD.loop (f:=memberO (insideO N)) t.kids (fun x _=>wd_member (wd_inside N) x)
   cases hk:t.kids with
   |nil=>exact(WD.none_ _).congr (fun s=>by rw[insideO,if_pos hm,hk];rfl) (fun c d=>by unfold bD;simp[insD,hm,hk]) rfl
   |cons x xs=>
    rw[hk]at h
    refine h.congr (fun s=>?_) (fun c d=>?_) ?_
    ·rw[insideO,if_pos hm,hk,if_neg (by simp)]
    ·rw[loopD_all]
     unfold bD
     simp only[insD,if_pos hm,hk]
     rfl
    ·rw[insT,if_pos hm,hk]
  ·by_cases hm2:t.mode=1∨t.mode=2∨t.mode=3
   ·match hk:t.kids with
    |[l,r]=>
     refine(wd_sides (wd_inside N) t.mode hm2 l r).congr (fun s=>?_) (fun c d=>?_) ?_
     ·rw[insideO,if_neg hm,if_pos hm2,hk]
     ·unfold bD;simp only[insD,if_neg hm,if_pos hm2,hk]
     ·rw[insT,if_neg hm,hk]
    |[]=>exact(WD.none_ _).congr (fun s=>by rw[insideO,if_neg hm,if_pos hm2,hk];rfl) (fun c d=>by unfold bD;simp[insD,hm,hm2,hk]) rfl
    |[x]=>exact(WD.none_ _).congr (fun s=>by rw[insideO,if_neg hm,if_pos hm2,hk];rfl) (fun c d=>by unfold bD;simp[insD,hm,hm2,hk]) rfl
    |x::y::z::zs=>exact(WD.none_ _).congr (fun s=>by rw[insideO,if_neg hm,if_pos hm2,hk];rfl) (fun c d=>by unfold bD;simp[insD,hm,hm2,hk]) rfl
   ·exact(WD.none_ _).congr (fun s=>by rw[insideO,if_neg hm,if_neg hm2]) (fun c d=>by unfold bD;simp[insD,hm,hm2]) rfl
end Go.Proofs.YtbbeciofgnkggaaGreatDoor.tre
