import Derived.Test.YtbbeciofgnkggaaGreatDoorBqTre10
import Derived.Test.YtbbeciofgnkggaaGreatDoorBqTre9
import Derived.Test.YtbbeciofgnkggaaGreatDoorBqTok8
import Derived.Test.YtbbeciofgnkggaaGreatDoorBqNod1
set_option linter.unusedSimpArgs false
set_option linter.unusedVariables false
set_option maxHeartbeats 2000000
namespace Go.Proofs.YtbbeciofgnkggaaGreatDoor.tre
open Go.RowKit nod tok
abbrev DP:=Nd→Ck→Int→Option Ck
def seqD(P:DP)(t:Nd)(c:Ck)(d:Int):Option Ck:=if t.kind=6∧othersZ t=true then loopD P t.kids c d else none
def bodyD(P:DP)(t:Nd)(c:Ck)(d:Int):Option Ck:=
 if t.kind=6 then seqD P t c d
 else if t.kind=7 then(if othersZ t=true∧2≤t.kids.length then loopD (seqD P) t.kids c d else none)
 else none
def enclD(P:DP):List Nd→Ck→Int→Option Ck
 |[t],c,d=>if d+1≤50 then bodyD P t c (d+1)else none
 |_,_,_=>none
def grpD(t:Nd)(c:Ck):Option Ck:=
 if t.a=0∧t.name.size=0 then some c
 else if t.a≠c.1+1∨20<t.a then none
 else if t.name.size=0 then some (c.1+1,c.2)
 else if isN t.name=true∧Lib.containsS c.2 t.name=false then some (c.1+1,c.2++[t.name])
 else none
def timesB(a b:Int):Bool:=decide (0≤a)&&decide (a≤100)&&decide (-1≤b)&&decide (b≤100)&&(decide (b<0)||decide (a≤b))
def partD:Nat→Nd→Ck→Int→Option Ck
 |0,_,_,_=>none
 |N+1,t,c,d=>
  if othersZ t=false then none
  else if t.kind=1 then bD (fun _=>decide (utf.len t.a≠0)) c d
  else if t.kind=2 then some c
  else if t.kind=3 then bD (fun d=>decide (d+1≤50)&&insD N t (d+1)) c d
  else if t.kind=5 then bD (fun _=>propD t.name) c d
  else if t.kind=8 then(match t.kids with|[x]=>if repB x.kind=true∧0≤t.mode∧t.mode≤2∧timesB t.a t.b=true then partD N x c d else none|_=>none)
  else if t.kind=9 then(grpD t c).bind fun c'=>enclD (partD N) t.kids c' d
  else if t.kind=10 then(if 0≤t.mode∧t.mode≤3 then enclD (partD N) t.kids c d else none)
  else if t.kind=11 then enclD (partD N) t.kids c d
  else if t.kind=12 then bD (fun _=>decide (1≤t.mode)&&decide (t.mode≤10)) c d
  else if t.kind=13 then(if 0<t.a∧t.a≤c.1 then some c else none)
  else if t.kind=14 then some c
  else none
def seqT(p:Nd→List UInt8)(t:Nd):List UInt8:=t.kids.flatMap p
def bodyT(p:Nd→List UInt8)(t:Nd):List UInt8:=
 if t.kind=6 then seqT p t else(match t.kids with|x::xs=>seqT p x++xs.flatMap (fun y=>[124]++seqT p y)|[]=>[])
def enclT(p:Nd→List UInt8)(op:ByteArray):List Nd→List UInt8
 |[t]=>op.data.toList++bodyT p t++[41]
 |_=>[]
def openT(t:Nd):ByteArray:=if t.a=0∧t.name.size=0 then⟨#[40,63,58]⟩else if t.name.size=0 then⟨#[40]⟩else openN t.name
def partT:Nat→Nd→List UInt8
 |0,_=>[]
 |N+1,t=>
  if t.kind=1 then(TX (printL t.a false)).data.toList
  else if t.kind=2 then[46]
  else if t.kind=3 then(openC t.neg).data.toList++insT N t++[93]
  else if t.kind=5 then(propT t.name t.neg).data.toList
  else if t.kind=8 then(match t.kids with|[x]=>partT N x++(timesT t.a t.b++textP t.mode modeTexts).data.toList|_=>[])
  else if t.kind=9 then enclT (partT N) (openT t) t.kids
  else if t.kind=10 then enclT (partT N) (textP t.mode lookTexts) t.kids
  else if t.kind=11 then enclT (partT N) ⟨#[40,63,62]⟩ t.kids
  else if t.kind=12 then(textP t.mode asrtTexts).data.toList
  else if t.kind=13 then(backT t.a).data.toList
  else[92,88]
abbrev WP(P:Wr→Nd→Option Wr)(D:DP)(T:Nd→List UInt8):Prop:=∀t,WD (fun s=>P s t) (D t) (T t)
theorem wd_seq{P:Wr→Nd→Option Wr}{D:DP}{T:Nd→List UInt8}(h:WP P D T)(t:Nd):WD (fun s=>seqO P s t) (seqD D t) (seqT T t):=
 (WD.ite (c:=t.kind=6∧othersZ t=true) (fun _=>WD.loop (f:=P) (D:=D) (l:=T) t.kids (fun x _=>h x))).congr (fun s=>rfl) (fun c d=>rfl) rfl
theorem wd_bar{P:Wr→Nd→Option Wr}{D:DP}{T:Nd→List UInt8}(h:WP P D T)(t:Nd):WD (fun s=>barO P s t) (seqD D t) ([124]++seqT T t):=
 ((WD.put (t:=⟨#[124]⟩) (by decide)).seq (wd_seq h t)).congr (fun s=>rfl) (fun c d=>rfl) rfl
theorem wd_body{P:Wr→Nd→Option Wr}{D:DP}{T:Nd→List UInt8}(h:WP P D T)(t:Nd):WD (fun s=>bodyO P s t) (bodyD D t) (bodyT T t):=by
 unfold bodyO bodyD bodyT
 by_cases h6:t.kind=6
 ·exact(wd_seq h t).congr (fun s=>by simp[h6]) (fun c d=>by simp[h6]) (by simp[h6])
 by_cases h7:t.kind=7
 ·unfold altO
  by_cases hc:othersZ t=true∧2≤t.kids.length
  ·cases hk:t.kids with
   |nil=>rw[hk]at hc;simp at hc
   |cons x xs=>
    have h1:=(wd_seq h x).seq (WD.loop (f:=barO P) xs (fun y _=>wd_bar h y))
    rw[hk]at hc
    refine h1.congr (fun s=>by simp only[if_neg h6,if_pos h7,if_pos hc]) (fun c d=>?_) (by simp only[if_neg h6])
    simp only[if_neg h6,if_pos h7,if_pos hc]
    rfl
  ·exact(WD.none_ _).congr (fun s=>by simp only[if_neg h6,if_pos h7,if_neg hc]) (fun c d=>by simp only[if_neg h6,if_pos h7,if_neg hc]) rfl
 ·exact(WD.none_ _).congr (fun s=>by simp only[if_neg h6,if_neg h7]) (fun c d=>by simp only[if_neg h6,if_neg h7]) rfl
theorem wd_encl{P:Wr→Nd→Option Wr}{D:DP}{T:Nd→List UInt8}(h:WP P D T){op:ByteArray}(hop:op.size≠0):∀ks:List Nd,WD (fun s=>enclO P op s ks) (enclD D ks) (enclT T op ks)
 |[t]=>(WD.brack (o:=op) (c:=⟨#[41]⟩) (wd_body h t) hop (by decide)).congr (fun s=>rfl) (fun c d=>rfl) rfl
 |[]=>WD.none_ _
 |x::y::zs=>WD.none_ _
theorem look_size(m:Int):(textP m lookTexts).size≠0↔0≤m∧m≤3:=by
 unfold textP
 constructor
 ·intro h
  split at h
  ·exact absurd rfl h
  ·refine⟨by omega,?_⟩
   rcases Nat.lt_or_ge m.toNat 4 with h4|h4
   ·omega
   ·rw[List.getElem?_eq_none (by simpa[lookTexts]using h4)]at h;exact absurd rfl h
 ·rintro⟨h1,h2⟩
  rw[if_neg (by omega)]
  have:m=0∨m=1∨m=2∨m=3:=by omega
  rcases this with rfl|rfl|rfl|rfl<;>decide
theorem asrt_size(m:Int):(textP m asrtTexts).size≠0↔1≤m∧m≤10:=by
 unfold textP
 constructor
 ·intro h
  split at h
  ·exact absurd rfl h
  ·rcases Nat.lt_or_ge m.toNat 11 with h4|h4
   ·refine⟨?_,by omega⟩
    rcases Nat.eq_zero_or_pos m.toNat with h0|h0
    ·rw[h0]at h;exact absurd rfl h
    ·omega
   ·rw[List.getElem?_eq_none (by simpa[asrtTexts]using h4)]at h;exact absurd rfl h
 ·rintro⟨h1,h2⟩
  rw[if_neg (by omega)]
  have:m=1∨m=2∨m=3∨m=4∨m=5∨m=6∨m=7∨m=8∨m=9∨m=10:=by omega
  rcases this with rfl|rfl|rfl|rfl|rfl|rfl|rfl|rfl|rfl|rfl<;>decide
theorem times_iff(a b:Int):(timesT a b).size≠0↔timesB a b=true:=by
 unfold timesB
 simp only[Bool.and_eq_true,Bool.or_eq_true,decide_eq_true_eq]
 constructor
 ·intro h
  have:=times_facts h
  omega
 ·intro h
  unfold timesT
  rw[if_neg (by omega)]
  (repeat' split)<;>first|decide|(simp only[app_size];have h1:(⟨#[125]⟩:ByteArray).size=1:=rfl;have h2:(⟨#[44,125]⟩:ByteArray).size=2:=rfl;omega)
theorem wd_upd{F:Wr→Option Wr}{D:Ck→Int→Option Ck}{l:List UInt8}(h:WD F D l)(s:Wr)(c:Ck)(hs:0≤s.room):F {s with groups:=c.1,names:=c.2}=(D c s.depth).bind (wput s l):=by
 exact h {s with groups:=c.1,names:=c.2} hs
theorem wd_group{P:Wr→Nd→Option Wr}{D:DP}{T:Nd→List UInt8}(h:WP P D T)(t:Nd):WD (fun s=>groupO P s t) (fun c d=>(grpD t c).bind fun c'=>enclD D t.kids c' d) (enclT T (openT t) t.kids):=by
 intro s hs
 simp only[groupO,grpD,openT]
 by_cases h1:t.a=0∧t.name.size=0
 ·rw[if_pos h1,if_pos h1,if_pos h1]
  exact wd_encl h (by decide) t.kids s hs
 ·rw[if_neg h1,if_neg h1,if_neg h1]
  by_cases h2:t.a≠s.groups+1∨20<t.a
  ·rw[if_pos h2,if_pos h2];rfl
  ·rw[if_neg h2,if_neg h2]
   by_cases h3:t.name.size=0
   ·rw[if_pos h3,if_pos h3,if_pos h3]
    exact wd_upd (wd_encl h (op:=⟨#[40]⟩) (by decide) t.kids) s (s.groups+1,s.names) hs
   ·rw[if_neg h3,if_neg h3,if_neg h3,named_open t.name h3]
    by_cases h4:isN t.name=true∧Lib.containsS s.names t.name=false
    ·rw[if_pos h4,if_pos h4]
     exact wd_upd (wd_encl h (op:=openN t.name) (by rw[openN_size];omega) t.kids) s (s.groups+1,s.names++[t.name]) hs
    ·rw[if_neg h4,if_neg h4];rfl
theorem wd_repeat{P:Wr→Nd→Option Wr}{D:DP}{T:Nd→List UInt8}(h:WP P D T)(t:Nd):WD (fun s=>repeatO P s t) (fun c d=>match t.kids with|[x]=>if repB x.kind=true∧0≤t.mode∧t.mode≤2∧timesB t.a t.b=true then D x c d else none|_=>none) (match t.kids with|[x]=>T x++(timesT t.a t.b++textP t.mode modeTexts).data.toList|_=>[]):=by
 unfold repeatO
 match t.kids with
 |[]=>exact WD.none_ _
 |x::y::zs=>exact WD.none_ _
 |[x]=>
  by_cases hc:repB x.kind=true∧0≤t.mode∧t.mode≤2∧timesB t.a t.b=true
  ·have hz:=(times_iff t.a t.b).2 hc.2.2.2
   have h1:=(h x).seq (WD.put (t:=timesT t.a t.b++textP t.mode modeTexts) (by rw[app_size];omega))
   refine h1.congr (fun s=>?_) (fun c d=>?_) rfl
   ·simp only[if_pos (⟨hc.1,hc.2.1,hc.2.2.1,hz⟩:repB x.kind=true∧0≤t.mode∧t.mode≤2∧(timesT t.a t.b).size≠0)]
   ·simp only[if_pos hc]
    cases D x c d<;>rfl
  ·refine(WD.none_ _).congr (fun s=>?_) (fun c d=>?_) rfl
   ·simp only[if_neg (fun q:repB x.kind=true∧0≤t.mode∧t.mode≤2∧(timesT t.a t.b).size≠0=>hc ⟨q.1,q.2.1,q.2.2.1,(times_iff _ _).1 q.2.2.2⟩)]
   ·simp only[if_neg hc]
theorem wd_look{P:Wr→Nd→Option Wr}{D:DP}{T:Nd→List UInt8}(h:WP P D T)(t:Nd):WD (fun s=>enclO P (textP t.mode lookTexts) s t.kids) (fun c d=>if 0≤t.mode∧t.mode≤3 then enclD D t.kids c d else none) (enclT T (textP t.mode lookTexts) t.kids):=by
 by_cases hm:0≤t.mode∧t.mode≤3
 ·exact(wd_encl h ((look_size _).2 hm) t.kids).congr (fun s=>rfl) (fun c d=>by simp only[if_pos hm]) rfl
 ·have hz:(textP t.mode lookTexts).size=0:=by
   rcases Nat.eq_zero_or_pos (textP t.mode lookTexts).size with e|e
   ·exact e
   ·exact absurd ((look_size _).1 (by omega)) hm
  refine(WD.none_ _).congr (fun s=>?_) (fun c d=>by simp only[if_neg hm]) rfl
  match t.kids with
  |[]=>rfl
  |x::y::zs=>rfl
  |[x]=>
   show((enterO s (textP t.mode lookTexts)).bind _)=none
   unfold enterO putO
   simp[hz]
theorem wd_part:∀N:Nat,WP (partO N) (partD N) (partT N)
 |0=>fun t=>WD.none_ _
 |N+1=>fun t=>by
  show WD (fun s=>partO (N+1) s t) (fun c d=>partD (N+1) t c d) (partT (N+1) t)
  simp only[partO,partD,partT]
  cases ho:othersZ t with
  |false=>exact(WD.none_ _).congr (fun s=>by simp) (fun c d=>by simp) rfl
  |true=>
   by_cases h1:t.kind=1
   ·exact(wd_char t.a false).congr (fun s=>by simp[h1]) (fun c d=>by simp[h1]) (by simp[h1])
   by_cases h2:t.kind=2
   ·exact(WD.put (t:=⟨#[46]⟩) (by decide)).congr (fun s=>by simp[h2]) (fun c d=>by simp[h2]) (by simp[h2])
   by_cases h3:t.kind=3
   ·exact(wd_class (wd_inside N t)).congr (fun s=>by simp[h3]) (fun c d=>by simp[h3]) (by simp[h3])
   by_cases h5:t.kind=5
   ·exact(wd_prop t.name t.neg).congr (fun s=>by simp[h5]) (fun c d=>by simp[h5]) (by simp[h5])
   by_cases h8:t.kind=8
   ·exact(wd_repeat (wd_part N) t).congr (fun s=>by simp[h8]) (fun c d=>by simp[h8]) (by simp[h8])
   by_cases h9:t.kind=9
   ·exact(wd_group (wd_part N) t).congr (fun s=>by simp[h9]) (fun c d=>by simp[h9]) (by simp[h9])
   by_cases h10:t.kind=10
   ·exact(wd_look (wd_part N) t).congr (fun s=>by simp[h10]) (fun c d=>by simp[h10]) (by simp[h10])
   by_cases h11:t.kind=11
   ·exact(wd_encl (wd_part N) (op:=⟨#[40,63,62]⟩) (by decide) t.kids).congr (fun s=>by simp[h11]) (fun c d=>by simp[h11]) (by simp[h11])
   by_cases h12:t.kind=12
   ·exact(WD.puts (textP t.mode asrtTexts) (decide (1≤t.mode)&&decide (t.mode≤10)) (by rw[asrt_size];simp)).congr (fun s=>by simp[h12]) (fun c d=>by simp[h12]) (by simp[h12])
   by_cases h13:t.kind=13
   ·intro s hs
    simp only[h13]
    by_cases hg:0<t.a∧t.a≤s.groups
    ·have hb:(backT t.a).size≠0:=by unfold backT;rw[app_size,app_size];have:(⟨#[125]⟩:ByteArray).size=1:=rfl;omega
     have h9:=WD.put hb s hs
     simp[hg]
     exact h9
    ·simp[hg]
   by_cases h14:t.kind=14
   ·exact(WD.put (t:=⟨#[92,88]⟩) (by decide)).congr (fun s=>by simp[h14]) (fun c d=>by simp[h14]) (by simp[h14])
   ·exact(WD.none_ _).congr (fun s=>by simp[h1,h2,h3,h5,h8,h9,h10,h11,h12,h13,h14]) (fun c d=>by simp[h1,h2,h3,h5,h8,h9,h10,h11,h12,h13,h14]) rfl
/--What the writer says, by the document's checker and printer. -/
theorem pat_doc(N:Nat)(t:Nd):patO N t=if(bodyD (partD N) t (0,[]) 0).isSome=true∧(bodyT (partT N) t).length≤2000 then some (bodyT (partT N) t)else none:=by
 unfold patO
 have h1:=wd_body (wd_part N) t w00 (by decide)
 simp only at h1
 rw[h1]
 show Option.map _ ((bodyD (partD N) t (0,[]) 0).bind _)=_
 cases bodyD (partD N) t (0,[]) 0 with
 |none=>simp
 |some c=>
  simp only[Option.bind_some,Option.isSome_some,true_and]
  unfold wput
  show Option.map _ (if((bodyT (partT N) t).length:Int)≤2000 then _ else _)=_
  by_cases h:(bodyT (partT N) t).length≤2000
  ·rw[if_pos (by omega),if_pos h];simp[Wr.with_,w00]
  ·rw[if_neg (by omega),if_neg h];rfl
end Go.Proofs.YtbbeciofgnkggaaGreatDoor.tre
namespace Go.Proofs.YtbbeciofgnkggaaGreatDoor.tre
open Go.RowKit nod tok
theorem str_ne{X Y:ByteArray}(h:X≠Y):(X.toList==Y.toList)=false:=by
 rw[beq_eq_false_iff_ne]
 intro e
 exact h (by obtain⟨⟨x⟩⟩:=X;obtain⟨⟨y⟩⟩:=Y;simpa using e)
theorem prop_d(k m a b:Int)(g:Bool)(n:ByteArray)(sa:Option Addr)(sl sc:Nat)(ka:Option Addr)(kl kc:Nat)(w:World)(hn:n.size≤140737488355327):
  Calls Tryz.prog 35 #[.agg (n8 k m a b g n sa sl sc ka kl kc)] w fun e w'=>
   e=.returned (.bool (bareB m a b g n sl kl 0 0 0 g n 0&&propD n))∧Below w.heap.size w w':=by
 have A:=bare_any k m a b g n sa sl sc ka kl kc 0 0 0 0 g n none 0 0 none 0 0 (w.alloc (.cells (n8 k m a b g n sa sl sc ka kl kc) 25))
 have bk:=Bk.new w (n8 k m a b g n sa sl sc ka kl kc) 25
 have hb0:Below w.heap.size w (w.alloc (.cells (n8 k m a b g n sa sl sc ka kl kc) 25)):=(Below.refl _ w).alloc (Nat.le_refl _) _
 obtain⟨R,hR⟩:∃R,bareB m a b g n sl kl 0 0 0 g n 0=R:=⟨_,rfl⟩
 rw[hR]at A⊢
 clear hR
 have HBK:Hid (Bk (w.alloc (.cells (n8 k m a b g n sa sl sc ka kl kc) 25)) w.heap.size (n8 k m a b g n sa sl sc ka kl kc) 25):=bk
 have HB0:Hid (Below w.heap.size w (w.alloc (.cells (n8 k m a b g n sa sl sc ka kl kc) 25))):=hb0
 clear bk hb0
 obtain⟨PV,hPV⟩:∃P,(R&&propD n)=P:=⟨_,rfl⟩
 rw[hPV]
 have HPV:Hid ((R&&propD n)=PV):=hPV
 clear hPV
 go_enter Tryz.func35,Tryz.ntmps35
 go_wp2_with fail
 refine A.mono ?_
 rintro e w1⟨rfl,hb1⟩
 have b1:=HBK.out.on hb1
 have B1:Hid (Below w.heap.size w w1):=HB0.out.trans (below_less hb1 HB0.out.size)
 clear A hb1 HBK HB0
 cases R with
 |false=>
  have e9:Hid (PV=false):=HPV.out.symm
  clear HPV b1
  go_wp2
  go_ret
  exact⟨rt_bool e9.out.symm,B1.out⟩
 |true=>
  have HP2:Hid (propD n=PV):=by have h9:=HPV.out;rw[Bool.true_and]at h9;exact h9
  clear HPV
  have x5:=b1.cell 5 (u:=.string n) rfl
  have HB:Hid (Bk w1 w.heap.size (n8 k m a b g n sa sl sc ka kl kc) 25):=b1
  clear b1
  by_cases h1:n=⟨#[100]⟩
  ·subst h1
   have e9:Hid (PV=true):=HP2.out.symm.trans rfl
   clear HP2
   go_wp2
   go_ret
   exact⟨rt_bool e9.out.symm,B1.out⟩
  by_cases h2:n=⟨#[119]⟩
  ·subst h2
   have e9:Hid (PV=true):=HP2.out.symm.trans rfl
   clear HP2
   go_wp2
   go_ret
   exact⟨rt_bool e9.out.symm,B1.out⟩
  by_cases h3:n=⟨#[115]⟩
  ·subst h3
   have e9:Hid (PV=true):=HP2.out.symm.trans rfl
   clear HP2
   go_wp2
   go_ret
   exact⟨rt_bool e9.out.symm,B1.out⟩
  have q1:¬n.toList=[100]:=fun e=>h1 (by obtain⟨⟨x⟩⟩:=n;simpa using e)
  have q2:¬n.toList=[119]:=fun e=>h2 (by obtain⟨⟨x⟩⟩:=n;simpa using e)
  have q3:¬n.toList=[115]:=fun e=>h3 (by obtain⟨⟨x⟩⟩:=n;simpa using e)
  have r1:(n.toList==[100])=false:=by simpa using q1
  have r2:(n.toList==[119])=false:=by simpa using q2
  have r3:(n.toList==[115])=false:=by simpa using q3
  have HN:Hid (propD n=(decide ((nam.resolveV n).2.2=0)&&decide (canonL (nam.resolveV n)=n.data.toList))):=by show _=_;unfold propD;simp[h1,h2,h3]
  clear h1 h2 h3
  have C:=canonical_any n w1 hn
  unfold canV at C
  have HL:Hid (∀l:List UInt8,(lin.BA l).toList=l):=fun l=>by show(lin.BA l).toList=l;simp[lin.BA]
  by_cases hv:(nam.resolveV n).2.2=0
  ·rw[if_pos hv]at C
   have HN2:Hid (PV=decide (canonL (nam.resolveV n)=n.data.toList)):=by rw[←HP2.out,HN.out,decide_eq_true hv,Bool.true_and];exact rfl
   clear HN HP2 hv
   generalize canonL (nam.resolveV n)=cl at*
   simp only at C
   go_wp2_with fail
   refine C.mono ?_
   rintro e w2⟨rfl,hb2⟩
   have y5:=(HB.out.on hb2).cell 5 (u:=.string n) rfl
   have B2:Hid (Below w.heap.size w w2):=B1.out.trans (below_less hb2 B1.out.size)
   clear C hb2 B1 x5 HB
   have hY:=HL.out cl
   generalize lin.BA cl=Y at*
   by_cases hc:cl=n.data.toList
   ·have e9:Hid (PV=true):=by rw[HN2.out,decide_eq_true hc];exact rfl
    have f1:Y.toList=n.toList:=by rw[hY,hc];obtain⟨⟨x⟩⟩:=n;simp
    have f2:(Y.toList==n.toList)=true:=by simp[f1]
    clear HN2 hc hY f1
    go_wp2
    go_ret
    exact⟨rt_bool e9.out.symm,B2.out⟩
   ·have e9:Hid (PV=false):=by rw[HN2.out,decide_eq_false hc];exact rfl
    have f1:¬Y.toList=n.toList:=fun e=>hc (by rw[←hY,e];obtain⟨⟨x⟩⟩:=n;simp)
    have f2:(Y.toList==n.toList)=false:=by simpa using f1
    clear HN2 hc hY
    go_wp2
    go_ret
    exact⟨rt_bool e9.out.symm,B2.out⟩
  ·rw[if_neg hv]at C
   have e9:Hid (PV=false):=by rw[←HP2.out,HN.out,decide_eq_false hv,Bool.false_and];exact rfl
   clear HN HP2
   generalize(nam.resolveV n).2.2=ev at*
   have hvb:(ev==0)=false:=by simpa using hv
   simp only at C
   go_wp2_with fail
   refine C.mono ?_
   rintro e w2⟨rfl,hb2⟩
   have B2:Hid (Below w.heap.size w w2):=B1.out.trans (below_less hb2 B1.out.size)
   clear C hb2 B1 x5 HB
   go_wp2
   go_ret
   exact⟨rt_bool e9.out.symm,B2.out⟩
end Go.Proofs.YtbbeciofgnkggaaGreatDoor.tre
