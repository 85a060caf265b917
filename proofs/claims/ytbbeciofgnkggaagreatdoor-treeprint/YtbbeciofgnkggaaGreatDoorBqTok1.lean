import Derived.Test.YtbbeciofgnkggaaGreatDoorBqUtf1
import Derived.Test.YtbbeciofgnkggaaGreatDoorBqNam3
import Derived.Test.YtbbeciofgnkggaaGreatDoorBqLin1
import Derived.Deep.QuietTactic
import Derived.Deep.RegionHeld3
import Derived.WalkSmall
import Derived.Deep.LoopGhost
set_option linter.unusedSimpArgs false
set_option linter.unusedVariables false
set_option maxRecDepth 100000
set_option maxHeartbeats 1000000
section
namespace Go.Proofs.YtbbeciofgnkggaaGreatDoor.tok
open utf(it len)
open lin(BA)
inductive Out(α:Type)where
 |ok(v:α)(a:Nat)
 |no(c:Int)(p:Nat)
def Out.bind{α β:Type}(o:Out α)(g:α→Nat→Out β):Out β:=
 match o with
 |.ok v a=>g v a
 |.no c p=>.no c p
theorem bind_ok{α β:Type}(v:α)(a:Nat)(g:α→Nat→Out β):(Out.ok v a).bind g=g v a:=rfl
theorem bind_no{α β:Type}(c:Int)(p:Nat)(g:α→Nat→Out β):(Out.no c p:Out α).bind g=.no c p:=rfl
/--A token: kind, mode, two numbers, name, whether not, where it stands. -/
structure Tk where
 kind:Int
 mode:Int
 a:Int
 b:Int
 name:List UInt8
 neg:Bool
 s:Nat
 e:Nat
def Tk.val(t:Tk):Value:=.agg #[.int .i64 t.kind,.int .i64 t.mode,.int .i64 t.a,.int .i64 t.b,.string (BA t.name),.bool t.neg,.int .i64 t.s,.int .i64 t.e]
def Tk.cells(t:Tk):List Value:=[.int .i64 t.kind,.int .i64 t.mode,.int .i64 t.a,.int .i64 t.b,.string (BA t.name),.bool t.neg,.int .i64 t.s,.int .i64 t.e]
def char(r:Int):Tk:=⟨1,0,r,0,[],false,0,0⟩
def bare(k:Int):Tk:=⟨k,0,0,0,[],false,0,0⟩
def asrt(m:Int):Tk:=⟨7,m,0,0,[],false,0,0⟩
def opening(m:Int):Tk:=⟨3,m,0,0,[],false,0,0⟩
def prop(nm:List UInt8)(neg:Bool):Tk:=⟨8,0,0,0,nm,neg,0,0⟩
def setT(m:Int):Tk:=⟨14,m,0,0,[],false,0,0⟩
/--The bytes from b to below e. -/
def bytes(f:Nat→Int)(b e:Nat):List UInt8:=(List.range (e-b)).map fun i=>UInt8.ofNat (f (b+i)).toNat
theorem bytes_len(f:Nat→Int)(b e:Nat):(bytes f b e).length=e-b:=by simp[bytes]
/--A digit's worth, and whether it is one, of a base. -/
def dgV(c base:Int):Int:=if 48≤c∧c≤57 then c-48 else if 97≤c∧c≤102 then c-97+10 else if 65≤c∧c≤70 then c-65+10 else base
def letterB(c:Int):Bool:=(decide (97≤c)&&decide (c≤122))||(decide (65≤c)&&decide (c≤90))
def digitB(c:Int):Bool:=decide (48≤c)&&decide (c≤57)
/--What may stand in a name, at its beginning, or behind. -/
def nmC(c:Int)(first:Bool):Bool:=c==95||letterB c||(!first&&digitB c)
section
variable(f:Nat→Int)(n:Nat)
def point(a:Nat):Out Int:=if a<n then(if(it f n a).2.2=true then .ok (it f n a).1 (it f n a).2.1 else .no 131 a)else .no 130 n
def octet(a:Nat):Out Int:=if a<n then .ok (f a) (a+1)else .no 130 n
/--The fault of a token that is none. -/
def noneC(st:Nat):Int:=if f st=123 then 150 else if f st=40 then 133 else 132
def nope{α:Type}(st:Nat):Out α:=.no (noneC f st) st
/--Whether a byte stands there. -/
def at_(a:Nat)(c:Int):Bool:=decide (a<n)&&f a==c
def want(st:Nat)(c:Int)(a:Nat):Out Unit:=(octet f n a).bind fun x a=>if x=c then .ok () a else nope f st
/--A number of digits of a base: so many more may come; what it is so far; whether none has come. Its end: the number, and the byte behind it. -/
def numR(st:Nat)(base:Int):Nat→Int→Bool→Nat→Out (Int×Int)
 |left,acc,first,a=>(octet f n a).bind fun c a=>
  if dgV c base<base then
   match left with
   |0=>nope f st
   |left+1=>numR st base left (acc*base+dgV c base) false a
  else if first=true then nope f st else .ok (acc,c) a
def number(st:Nat)(base:Int)(most:Nat)(a:Nat):Out (Int×Int):=numR f n st base most 0 true a
/--A name that began at b. -/
def nmR(st b:Nat):Nat→Nat→Out (List UInt8)
 |left,a=>(octet f n a).bind fun c a'=>
  if c=62∧b<a then .ok (bytes f b a) a'
  else match left with
  |0=>nope f st
  |left+1=>if nmC c (decide (a=b))=true then nmR st b left a' else nope f st
def name(st a:Nat):Out (List UInt8):=nmR f n st a 20 a
/--Code points up to a closing brace. -/
def exprR:Nat→Nat→Out Unit
 |0,_=>.no 130 n
 |m+1,a=>(point f n a).bind fun r a=>if r=125 then .ok () a else exprR m a
/--A property's value as tokens have it. -/
def canonL(q:Int×List UInt8×Int):List UInt8:=if q.1=1 then[103,99,61]++q.2.1 else if q.1=2 then[115,99,61]++q.2.1 else q.2.1
/--What the bytes from b to below e name, as a property; or a fault at st. -/
def meant(st b e:Nat):Out (List UInt8):=if(nam.resolveV (BA (bytes f b (e-1)))).2.2=0 then .ok (canonL (nam.resolveV (BA (bytes f b (e-1))))) e else .no (nam.resolveV (BA (bytes f b (e-1)))).2.2 st
def expr(st a:Nat):Out (List UInt8):=(want f n st 123 a).bind fun _ b=>(exprR f n (n+1-b) b).bind fun _ e=>meant f st b e
def hex(st a:Nat):Out Tk:=(want f n st 123 a).bind fun _ a=>(number f n st 16 6 a).bind fun q a=>if len q.1≠0∧q.2=125 then .ok (char q.1) a else nope f st
def edge(st:Nat)(x y z:Int)(a:Nat):Out Tk:=
 if at_ f n a 123=true then(octet f n (a+1)).bind fun c a=>
  if c=103 then(want f n st 125 a).bind fun _ a=>.ok (asrt y) a
  else if c=119 then(want f n st 125 a).bind fun _ a=>.ok (asrt z) a
  else nope f st
 else .ok (asrt x) a
def back(st a:Nat):Out Tk:=(octet f n a).bind fun c a=>
 if c=60 then(name f n st a).bind fun s a=>.ok ⟨9,0,0,0,s,false,0,0⟩ a
 else if c=123 then(number f n st 10 2 a).bind fun q a=>if q.2=125∧0<q.1 then .ok ⟨9,0,q.1,0,[],false,0,0⟩ a else nope f st
 else nope f st
def rep(x y:Int)(a:Nat):Out Tk:=
 if at_ f n a 63=true then .ok ⟨6,1,x,y,[],false,0,0⟩ (a+1)
 else if at_ f n a 43=true then .ok ⟨6,2,x,y,[],false,0,0⟩ (a+1)
 else .ok ⟨6,0,x,y,[],false,0,0⟩ a
/--Whether numbers may be a repetition's. -/
def cntOk(x y m:Int):Prop:=m=125∧(y=-1∨x≤y)∧x≤100∧y≤100
instance (x y m:Int):Decidable (cntOk x y m):=by unfold cntOk;exact inferInstance
def counted(st a:Nat):Out Tk:=(number f n st 10 3 a).bind fun q a=>
 if q.2=44∧at_ f n a 125=true then(if cntOk q.1 (-1) 125 then rep f n q.1 (-1) (a+1)else nope f st)
 else if q.2=44 then(number f n st 10 3 a).bind fun p a=>if cntOk q.1 p.1 p.2 then rep f n q.1 p.1 a else nope f st
 else if cntOk q.1 q.1 q.2 then rep f n q.1 q.1 a else nope f st
def openLeft(st a:Nat):Out Tk:=
 if at_ f n a 61=true then .ok (opening 5) (a+1)
 else if at_ f n a 33=true then .ok (opening 6) (a+1)
 else(name f n st a).bind fun s a=>.ok ⟨3,2,0,0,s,false,0,0⟩ a
def open_(st a:Nat):Out Tk:=
 if at_ f n a 63=true then(octet f n (a+1)).bind fun c a=>
  if c=58 then .ok (opening 1) a else if c=61 then .ok (opening 3) a else if c=33 then .ok (opening 4) a else if c=62 then .ok (opening 7) a
  else if c=60 then openLeft f n st a else nope f st
 else .ok (opening 0) a
def classT(neg:Bool):Tk:=⟨11,0,0,0,[],neg,0,0⟩
def class_(a:Nat):Out Tk:=if at_ f n a 94=true then .ok (classT true) (a+1)else .ok (classT false) a
/--A token and how many classes are open behind it. -/
def Out.with_(o:Out Tk)(k:Nat):Out (Tk×Nat):=o.bind fun t a=>.ok (t,k) a
def within(r:Int)(a k:Nat):Out (Tk×Nat):=
 if r=91 then(class_ f n a).with_ (k+1)
 else if r=93 then .ok (bare 12,k-1) a
 else if r=38∧at_ f n a 38=true then .ok (setT 1,k) (a+1)
 else if r=45∧at_ f n a 45=true then .ok (setT 2,k) (a+1)
 else if r=126∧at_ f n a 126=true then .ok (setT 3,k) (a+1)
 else if r=45 then .ok (bare 13,k) a
 else .ok (char r,k) a
/--A mark outside of classes, or a code point; a class's beginning is told apart. -/
def mark(st:Nat)(r:Int)(a:Nat):Out Tk:=
 if r=46 then .ok (bare 2) a else if r=124 then .ok (bare 5) a else if r=40 then open_ f n st a else if r=41 then .ok (bare 4) a
 else if r=42 then rep f n 0 (-1) a else if r=43 then rep f n 1 (-1) a else if r=63 then rep f n 0 1 a
 else if r=123 then counted f n st a else if r=94 then .ok (asrt 1) a else if r=36 then .ok (asrt 2) a
 else .ok (char r) a
def outside(st:Nat)(r:Int)(a k:Nat):Out (Tk×Nat):=if r=91 then(class_ f n a).with_ (k+1)else(mark f n st r a).with_ k
def escOut(st:Nat)(r:Int)(a:Nat):Out Tk:=
 if r=65 then .ok (asrt 3) a else if r=122 then .ok (asrt 4) a
 else if r=98 then edge f n st 5 7 9 a else if r=66 then edge f n st 6 8 10 a
 else if r=88 then .ok (bare 10) a else if r=107 then back f n st a
 else if 49≤r∧r≤57 then .ok ⟨9,0,r-48,0,[],false,0,0⟩ a else nope f st
def escape(st a k:Nat):Out Tk:=(point f n a).bind fun r a=>
 if r=100 then .ok (prop [100] false) a else if r=119 then .ok (prop [119] false) a else if r=115 then .ok (prop [115] false) a
 else if r=68 then .ok (prop [100] true) a else if r=87 then .ok (prop [119] true) a else if r=83 then .ok (prop [115] true) a
 else if r=112 then(expr f n st a).bind fun s a=>.ok (prop s false) a
 else if r=80 then(expr f n st a).bind fun s a=>.ok (prop s true) a
 else if r=110 then .ok (char 10) a else if r=116 then .ok (char 9) a else if r=114 then .ok (char 13) a
 else if r=120 then hex f n st a
 else if letterB r=false∧digitB r=false then .ok (char r) a
 else if 0<k then nope f st
 else escOut f n st r a
/--The token at a place. -/
def token(st k:Nat):Out (Tk×Nat):=(point f n st).bind fun r a=>if r=92 then(escape f n st a k).with_ k else if 0<k then within f n r a k else outside f n st r a k
/--Tokens, up to the end or a fault. -/
def scanR:Nat→Nat→Nat→List Tk×Int×Nat
 |0,_,_=>([],0,0)
 |m+1,a,k=>
  if a<n then
   match token f n a k with
   |.ok t a'=>({t.1 with s:=a,e:=a'}::(scanR m a' t.2).1,(scanR m a' t.2).2)
   |.no c p=>([],c,p)
  else([],0,0)
/--What Scan tells of n bytes. -/
def scanL:List Tk×Int×Nat:=if n≤2000 then scanR f n n 0 0 else([],4,2000)
end
end Go.Proofs.YtbbeciofgnkggaaGreatDoor.tok
end
namespace Go.Proofs.YtbbeciofgnkggaaGreatDoor.tok
open Go.RowKit
open lin(BA Turns)
structure Sc(w:World)(sb:Nat)(ao:Option Addr)(n cap:Nat)(f:Nat→Int)(a st k:Nat)(tv:Value):Prop where
 blk:w.heap[sb]?=some (.cells #[.slice ao n cap,.int .i64 a,.int .i64 st,.int .i64 k,tv] 116 (0,0))
 byt:∃b off,ao=some ⟨b,off,none⟩∧b≠sb∧∀i,i<n→w.cell? ⟨b,off+i,none⟩=some (.int .u8 (f i))
 ff:∀i,0≤f i∧f i≤255
 nn:n≤2000
 cc:n≤cap
 cm:cap≤9223372036854775807
 aa:a≤n
 ss:st<n
 kk:k≤1000000
 mm:utf.Marks w
 mn:0≠sb
theorem Sc.cells{w:World}{sb:Nat}{ao:Option Addr}{n cap:Nat}{f:Nat→Int}{a st k:Nat}{tv:Value}(h:Sc w sb ao n cap f a st k tv):
  w.cell? ⟨sb,0,none⟩=some (.slice ao n cap)∧w.cell? ⟨sb,1,none⟩=some (.int .i64 a)∧w.cell? ⟨sb,2,none⟩=some (.int .i64 st)∧w.cell? ⟨sb,3,none⟩=some (.int .i64 k)∧w.cell? ⟨sb,4,none⟩=some tv∧
  w.frozen? ⟨sb,0,none⟩=false∧w.frozen? ⟨sb,1,none⟩=false∧w.frozen? ⟨sb,2,none⟩=false∧w.frozen? ⟨sb,3,none⟩=false∧w.frozen? ⟨sb,4,none⟩=false:=by
 simp[World.cell?,World.frozen?,h.blk]
theorem Sc.lt{w:World}{sb:Nat}{ao:Option Addr}{n cap:Nat}{f:Nat→Int}{a st k:Nat}{tv:Value}(h:Sc w sb ao n cap f a st k tv):sb<w.heap.size:=(Array.getElem?_eq_some_iff.1 h.blk).1
/--Another memory in which the scanner's block is the same, and nothing else of old has turned. -/
theorem Sc.below{w w':World}{sb:Nat}{ao:Option Addr}{n cap:Nat}{f:Nat→Int}{a st k:Nat}{tv:Value}(h:Sc w sb ao n cap f a st k tv)(hb:Below w.heap.size w w'):Sc w' sb ao n cap f a st k tv:=by
 obtain⟨b,off,e,hne,hc⟩:=h.byt
 exact⟨(hb.block sb h.lt).trans h.blk,⟨b,off,e,hne,fun i hi=>(hb.cell (World.block_lt_of_cell? w _ (hc i hi))).trans (hc i hi)⟩,h.ff,h.nn,h.cc,h.cm,h.aa,h.ss,h.kk,h.mm.below hb,h.mn⟩
theorem Sc.alloc{w:World}{sb:Nat}{ao:Option Addr}{n cap:Nat}{f:Nat→Int}{a st k:Nat}{tv:Value}(h:Sc w sb ao n cap f a st k tv)(o:Obj):Sc (w.alloc o) sb ao n cap f a st k tv:=h.below ((Below.refl _ _).alloc (Nat.le_refl _) o)
theorem Sc.drew{w:World}{sb:Nat}{ao:Option Addr}{n cap:Nat}{f:Nat→Int}{a st k:Nat}{tv:Value}(h:Sc w sb ao n cap f a st k tv):Sc w.drew sb ao n cap f a st k tv:=h.below ⟨rfl,rfl,rfl,Nat.le_refl _,fun _ _=>rfl⟩
theorem marks_set{w:World}(h:utf.Marks w){p:Addr}(hp:p.block≠0)(v:Value):utf.Marks (w.setCell p v):=
 ⟨(World.cell?_setCell_other _ _ _ _ (by intro hh;exact hp (by simpa using congrArg Addr.block hh))).trans h.c1,(World.cell?_setCell_other _ _ _ _ (by intro hh;exact hp (by simpa using congrArg Addr.block hh))).trans h.c2,(World.cell?_setCell_other _ _ _ _ (by intro hh;exact hp (by simpa using congrArg Addr.block hh))).trans h.c3,(World.cell?_setCell_other _ _ _ _ (by intro hh;exact hp (by simpa using congrArg Addr.block hh))).trans h.c4⟩
theorem Sc.put1{w:World}{sb:Nat}{ao:Option Addr}{n cap:Nat}{f:Nat→Int}{a st k:Nat}{tv:Value}(h:Sc w sb ao n cap f a st k tv){a':Nat}(ha:a'≤n):Sc (w.setCell ⟨sb,1,none⟩ (.int .i64 a')) sb ao n cap f a' st k tv:=by
 obtain⟨b,off,e,hne,hc⟩:=h.byt
 exact⟨heap_setCell_same w sb 1 _ _ _ h.blk,⟨b,off,e,hne,fun i hi=>(World.cell?_setCell_other _ _ _ _ (by intro hh;exact hne (by simpa using(congrArg Addr.block hh).symm))).trans (hc i hi)⟩,h.ff,h.nn,h.cc,h.cm,ha,h.ss,h.kk,marks_set h.mm (Ne.symm h.mn) _,h.mn⟩
theorem Sc.put3{w:World}{sb:Nat}{ao:Option Addr}{n cap:Nat}{f:Nat→Int}{a st k:Nat}{tv:Value}(h:Sc w sb ao n cap f a st k tv){k':Nat}(hk:k'≤1000000):Sc (w.setCell ⟨sb,3,none⟩ (.int .i64 k')) sb ao n cap f a st k' tv:=by
 obtain⟨b,off,e,hne,hc⟩:=h.byt
 exact⟨heap_setCell_same w sb 3 _ _ _ h.blk,⟨b,off,e,hne,fun i hi=>(World.cell?_setCell_other _ _ _ _ (by intro hh;exact hne (by simpa using(congrArg Addr.block hh).symm))).trans (hc i hi)⟩,h.ff,h.nn,h.cc,h.cm,h.aa,h.ss,hk,marks_set h.mm (Ne.symm h.mn) _,h.mn⟩
theorem Sc.put1i{w:World}{sb:Nat}{ao:Option Addr}{n cap:Nat}{f:Nat→Int}{a st k:Nat}{tv:Value}(h:Sc w sb ao n cap f a st k tv){x:Int}{a':Nat}(hx:x=a')(ha:a'≤n):Sc (w.setCell ⟨sb,1,none⟩ (.int .i64 x)) sb ao n cap f a' st k tv:=by
 subst hx;exact h.put1 ha
theorem turns_put{w w':World}{sb:Nat}(h:Turns (fun k=>k=sb) w w')(i:Nat)(v:Value):Turns (fun k=>k=sb) w (w'.setCell ⟨sb,i,none⟩ v):=h.trans ⟨rfl,rfl,rfl,by simp,fun k _ hk=>heap_setCell_other _ _ _ _ hk⟩
/--A fault as a panic's value. -/
def fv(c:Int)(p:Nat):Value:=.iface 93 (.agg #[.int .i64 c,.int .i64 p])
/--How a method ends. -/
def End{α:Type}(w:World)(sb:Nat)(ao:Option Addr)(n cap:Nat)(f:Nat→Int)(st k:Nat)(tv:Value)(val:α→Value):Out α→Ending→World→Prop
 |.ok v a,e,w'=>e=.returned (val v)∧Sc w' sb ao n cap f a st k tv∧Turns (fun k=>k=sb) w w'
 |.no c p,e,w'=>e=.panicked [{v:=fv c p,recovered:=false}]∧(∃a k,Sc w' sb ao n cap f a st k tv)∧Turns (fun k=>k=sb) w w'
def iv(k:IntKind)(x:Int):Value:=.int k x
def uv(_:Unit):Value:=.tuple #[]
theorem Sc.drewN{w:World}{sb:Nat}{ao:Option Addr}{n cap:Nat}{f:Nat→Int}{a st k:Nat}{tv:Value}(h:Sc w sb ao n cap f a st k tv)(q:Nat):Sc (w.drewN q) sb ao n cap f a st k tv:=h.below ⟨rfl,rfl,rfl,Nat.le_refl _,fun _ _=>rfl⟩
theorem Sc.new{w:World}{sb:Nat}{ao:Option Addr}{n cap:Nat}{f:Nat→Int}{a st k:Nat}{tv:Value}(h:Sc w sb ao n cap f a st k tv){p:Addr}(hp:p.block≠sb)(hq:∀b off,ao=some ⟨b,off,none⟩→p.block≠b)(hm:p.block≠0)(v:Value):Sc (w.setCell p v) sb ao n cap f a st k tv:=by
 obtain⟨b,off,e,hne,hc⟩:=h.byt
 exact⟨(heap_setCell_other _ _ _ _ (Ne.symm hp)).trans h.blk,⟨b,off,e,hne,fun i hi=>(World.cell?_setCell_other _ _ _ _ (by intro hh;exact hq b off e (by simpa using congrArg Addr.block hh))).trans (hc i hi)⟩,h.ff,h.nn,h.cc,h.cm,h.aa,h.ss,h.kk,marks_set h.mm hm v,h.mn⟩
theorem Sc.bytes_lt{w:World}{sb:Nat}{ao:Option Addr}{n cap:Nat}{f:Nat→Int}{a st k:Nat}{tv:Value}(h:Sc w sb ao n cap f a st k tv){b off:Nat}(e:ao=some ⟨b,off,none⟩):b<w.heap.size:=by
 obtain⟨b',off',e',hne,hc⟩:=h.byt
 rw[e]at e'
 cases e'
 exact World.block_lt_of_cell? w _ (hc st h.ss)
/--A store into a block that was not there in an earlier memory. -/
theorem Sc.later{w0:World}{sb:Nat}{ao:Option Addr}{n cap:Nat}{f:Nat→Int}{a0 st k0:Nat}{tv0:Value}(h0:Sc w0 sb ao n cap f a0 st k0 tv0){w:World}{a k:Nat}{tv:Value}(h:Sc w sb ao n cap f a st k tv){p:Addr}(hp:w0.heap.size≤p.block)(v:Value):Sc (w.setCell p v) sb ao n cap f a st k tv:=
 h.new (by have:=h0.lt;omega) (fun b off e=>by have:=h0.bytes_lt e;omega) (by have:=World.block_lt_of_cell? _ _ h0.mm.c1;simp at this;omega) v
abbrev Tn(sb:Nat)(w w':World):Prop:=Turns (fun k=>k=sb) w w'
theorem Tn.put{sb:Nat}{w w':World}(h:Tn sb w w')(i:Nat)(v:Value):Tn sb w (w'.setCell ⟨sb,i,none⟩ v):=turns_put h i v
theorem Tn.new{sb:Nat}{w w':World}(h:Tn sb w w'){p:Addr}(hp:w.heap.size≤p.block)(v:Value):Tn sb w (w'.setCell p v):=
 ⟨h.os,h.tape,h.output,Nat.le_trans h.size (by simp),fun k hk hd=>(heap_setCell_other _ _ _ _ (by omega)).trans (h.block k hk hd)⟩
theorem Tn.drewN{sb:Nat}{w w':World}(h:Tn sb w w')(q:Nat):Tn sb w (w'.drewN q):=⟨h.os,h.tape,h.output,h.size,h.block⟩
theorem Tn.more{sb:Nat}{w w':World}(h:Tn sb w w')(o:Obj):Tn sb w (w'.alloc o):=Turns.alloc h o
theorem Tn.beyond{sb:Nat}{w w' w'':World}(h:Tn sb w w')(hb:Below w'.heap.size w' w''):Tn sb w w'':=Turns.trans h (.of_below hb)
/--A block that was made ahead of a step is as it was. -/
theorem Tn.blk{sb:Nat}{w w':World}{g:Nat}{o:Obj}(h:Tn sb w w')(hg:w.heap[g]?=some o)(hne:g≠sb):w'.heap[g]?=some o:=(h.block g (Array.getElem?_eq_some_iff.1 hg).1 hne).trans hg
theorem blk8{w:World}{g:Nat}{x0 x1 x2 x3 x4 x5 x6 x7:Value}{t:TypeId}(h:w.heap[g]?=some (.cells #[x0,x1,x2,x3,x4,x5,x6,x7] t (0,0))):
  (w.cell? ⟨g,0,none⟩=some x0∧w.cell? ⟨g,1,none⟩=some x1∧w.cell? ⟨g,2,none⟩=some x2∧w.cell? ⟨g,3,none⟩=some x3∧w.cell? ⟨g,4,none⟩=some x4∧w.cell? ⟨g,5,none⟩=some x5∧w.cell? ⟨g,6,none⟩=some x6∧w.cell? ⟨g,7,none⟩=some x7)∧
  (w.frozen? ⟨g,0,none⟩=false∧w.frozen? ⟨g,1,none⟩=false∧w.frozen? ⟨g,2,none⟩=false∧w.frozen? ⟨g,3,none⟩=false∧w.frozen? ⟨g,4,none⟩=false∧w.frozen? ⟨g,5,none⟩=false∧w.frozen? ⟨g,6,none⟩=false∧w.frozen? ⟨g,7,none⟩=false):=by
 simp[World.cell?,World.frozen?,h]
theorem cut_any(sb:Nat)(ao:Option Addr)(n cap:Nat)(w:World)(h:w.cell? ⟨sb,0,none⟩=some (.slice ao n cap)):
  Calls Tryz.prog 133 #[.pointer (some ⟨sb,0,none⟩)] w fun e w'=>e=.returned (.agg #[.int .i64 130,.int .i64 n])∧Below w.heap.size w w':=by
 have hlt:=World.block_lt_of_cell? w _ h
 have hne:¬sb=w.heap.size:=by simp at hlt;omega
 go_enter Tryz.func133,Tryz.ntmps133
 go_wp2
 refine bodyPost_ret (v:=.agg #[.int .i64 130,.int .i64 n]) (by simp[results,Tryz.results133,go_sem]) rfl ⟨rfl,?_⟩
 (repeat' first|exact Below.refl _ _|refine below_drewN ?_ _|refine Below.setCell ?_ (by simp) _|refine Below.alloc ?_ (by simp) _)
theorem none_any(sb:Nat)(ao:Option Addr)(n cap:Nat)(f:Nat→Int)(a st k:Nat)(tv:Value)(w:World)(h:Sc w sb ao n cap f a st k tv):
  Calls Tryz.prog 141 #[.pointer (some ⟨sb,0,none⟩)] w fun e w'=>e=.returned (.agg #[.int .i64 (noneC f st),.int .i64 st])∧Below w.heap.size w w':=by
 have hlt:=h.lt
 have hne:¬sb=w.heap.size:=by omega
 obtain⟨c0,c1,c2,-⟩:=h.cells
 obtain⟨b,off,rfl,hb,hcc⟩:=h.byt
 have hc:=hcc st h.ss
 have hbl:=World.block_lt_of_cell? w _ hc
 have hbe:¬b=w.heap.size:=by simp at hbl;omega
 have hs:=h.ss
 have hn:=h.nn
 have hs0:(0:Int)≤(st:Int):=by omega
 have hs1:(st:Int)<(n:Int):=by omega
 unfold noneC
 clear h hcc
 generalize f st=x at*
 go_enter Tryz.func141,Tryz.ntmps141
 go_wp2
 go_quiet(fail)
 rcases(show x=123∨x=40∧¬x=123∨¬x=123∧¬x=40 from by omega)with e|⟨e,e'⟩|⟨e,e'⟩
 ·subst e
  go_wp2
  refine bodyPost_ret (v:=.agg #[.int .i64 150,.int .i64 st]) (by simp[results,Tryz.results141,go_sem]) rfl ⟨rfl,?_⟩
  (repeat' first|exact Below.refl _ _|refine below_drewN ?_ _|refine Below.setCell ?_ (by simp) _|refine Below.alloc ?_ (by simp) _)
 ·subst e
  go_wp2
  refine bodyPost_ret (v:=.agg #[.int .i64 133,.int .i64 st]) (by simp[results,Tryz.results141,go_sem]) rfl ⟨rfl,?_⟩
  (repeat' first|exact Below.refl _ _|refine below_drewN ?_ _|refine Below.setCell ?_ (by simp) _|refine Below.alloc ?_ (by simp) _)
 ·have x1:(x==123)=false:=by simpa using e
  have x2:(x==40)=false:=by simpa using e'
  go_wp2
  refine bodyPost_ret (v:=.agg #[.int .i64 132,.int .i64 st]) (by simp[results,Tryz.results141,go_sem]) rfl ⟨rfl,?_⟩
  (repeat' first|exact Below.refl _ _|refine below_drewN ?_ _|refine Below.setCell ?_ (by simp) _|refine Below.alloc ?_ (by simp) _)
theorem octet_any(sb:Nat)(ao:Option Addr)(n cap:Nat)(f:Nat→Int)(a st k:Nat)(tv:Value)(w:World)(h:Sc w sb ao n cap f a st k tv):
  Calls Tryz.prog 156 #[.pointer (some ⟨sb,0,none⟩)] w (End w sb ao n cap f st k tv (iv .u8) (octet f n a)):=by
 have hlt:=h.lt
 obtain⟨c0,c1,c2,c3,c4,z0,z1,z2,z3,z4⟩:=h.cells
 have hn:=h.nn
 have ha:=h.aa
 unfold octet
 by_cases hl:a<n
 ·rw[if_pos hl]
  have hS:=h.put1 (a':=a+1) hl
  have hT:Tn sb w (w.setCell ⟨sb,1,none⟩ (.int .i64 ((a+1:Nat):Int))):=turns_put (lin.Turns.refl (fun k=>k=sb) w) 1 (.int .i64 ((a+1:Nat):Int))
  obtain⟨b,off,rfl,hb,hcc⟩:=h.byt
  have hc:=hcc a hl
  have hx:¬((a:Int)=(n:Int)):=by omega
  have hb':¬sb=b:=fun e=>hb e.symm
  have e1:((a+1:Nat):Int)=(a:Int)+1:=by omega
  rw[e1]at hS hT
  have hs0:(0:Int)≤(a:Int):=by omega
  have hs1:(a:Int)<(n:Int):=by omega
  clear hcc
  generalize f a=x at*
  go_enter Tryz.func156,Tryz.ntmps156
  go_wp2
  go_quiet(fail)
  go_wp2
  go_quiet(fail)
  go_wp2
  go_ret
  exact⟨rfl,by(repeat' first|assumption|refine Sc.drewN ?_ _|refine Sc.drew ?_|refine Sc.alloc ?_ _|refine Sc.put1i (a:=a) ?_ (by omega) (by omega)|refine Sc.later h ?_ (by simp) _),by(repeat' first|exact lin.Turns.refl _ _|assumption|refine Tn.drewN ?_ _|refine lin.Turns.drew ?_|refine Tn.more ?_ _|refine Tn.put ?_ _ _|refine Tn.new ?_ (by simp) _)⟩
 ·rw[if_neg hl]
  obtain rfl:a=n:=by omega
  have C:=fun q=>cut_any sb ao a cap (w.drewN q) c0
  go_enter Tryz.func156,Tryz.ntmps156
  go_wp2
  go_quiet(fail)
  go_wp2_with fail
  refine(C _).mono ?_
  rintro e w1⟨rfl,hb⟩
  have S1:=(h.drewN _).below hb
  have T1:Tn sb w w1:=(Tn.drewN (lin.Turns.refl _ w) _).beyond hb
  go_wp2
  exact⟨rfl,rfl,⟨_,_,S1⟩,T1⟩
end Go.Proofs.YtbbeciofgnkggaaGreatDoor.tok
namespace Go.Proofs.YtbbeciofgnkggaaGreatDoor.tok
open Go.RowKit
open lin(BA Turns)
theorem accept_yes(sb:Nat)(ao:Option Addr)(n cap:Nat)(f:Nat→Int)(a st k:Nat)(tv:Value)(w:World)(h:Sc w sb ao n cap f a st k tv)(c:Int)(hl:a<n)(hc:f a=c):
  Calls Tryz.prog 144 #[.pointer (some ⟨sb,0,none⟩),.int .u8 c] w fun e w'=>e=.returned (.bool true)∧Sc w' sb ao n cap f (a+1) st k tv∧Tn sb w w':=by
 have hlt:=h.lt
 obtain⟨c0,c1,c2,c3,c4,z0,z1,z2,z3,z4⟩:=h.cells
 have hn:=h.nn
 have ha:=h.aa
 obtain⟨b,off,rfl,hb,hcc⟩:=h.byt
 have hcl:=hcc a hl
 rw[hc]at hcl
 have hx:¬((a:Int)=(n:Int)):=by omega
 have hb':¬sb=b:=fun e=>hb e.symm
 have hs0:(0:Int)≤(a:Int):=by omega
 have hs1:(a:Int)<(n:Int):=by omega
 clear hcc
 go_enter Tryz.func144,Tryz.ntmps144
 go_wp2
 go_quiet(fail)
 go_wp2
 go_ret
 exact⟨rfl,by(repeat' first|assumption|refine Sc.drewN ?_ _|refine Sc.drew ?_|refine Sc.alloc ?_ _|refine Sc.put1i (a:=a) ?_ (by omega) (by omega)|refine Sc.later h ?_ (by simp) _),by(repeat' first|exact Turns.refl _ _|assumption|refine Tn.drewN ?_ _|refine Turns.drew ?_|refine Tn.more ?_ _|refine Tn.put ?_ _ _|refine Tn.new ?_ (by simp) _)⟩
theorem accept_no(sb:Nat)(ao:Option Addr)(n cap:Nat)(f:Nat→Int)(a st k:Nat)(tv:Value)(w:World)(h:Sc w sb ao n cap f a st k tv)(c:Int)(hc:¬(a<n∧f a=c)):
  Calls Tryz.prog 144 #[.pointer (some ⟨sb,0,none⟩),.int .u8 c] w fun e w'=>e=.returned (.bool false)∧Sc w' sb ao n cap f a st k tv∧Tn sb w w':=by
 have hlt:=h.lt
 obtain⟨c0,c1,c2,c3,c4,z0,z1,z2,z3,z4⟩:=h.cells
 have hn:=h.nn
 have ha:=h.aa
 by_cases hl:a<n
 ·obtain⟨b,off,rfl,hb,hcc⟩:=h.byt
  have hcl:=hcc a hl
  have hne:¬f a=c:=fun e=>hc ⟨hl,e⟩
  have hx:¬((a:Int)=(n:Int)):=by omega
  have hb':¬sb=b:=fun e=>hb e.symm
  have hs0:(0:Int)≤(a:Int):=by omega
  have hs1:(a:Int)<(n:Int):=by omega
  clear hcc hc
  generalize f a=x at*
  have hq:(x !=c)=true:=by simp[hne]
  have hq2:(x==c)=false:=by simp[hne]
  go_enter Tryz.func144,Tryz.ntmps144
  go_wp2
  go_quiet(fail)
  go_wp2
  go_ret
  exact⟨rfl,by(repeat' first|assumption|refine Sc.drewN ?_ _|refine Sc.drew ?_|refine Sc.alloc ?_ _|refine Sc.put1i (a:=a) ?_ (by omega) (by omega)|refine Sc.later h ?_ (by simp) _),by(repeat' first|exact Turns.refl _ _|assumption|refine Tn.drewN ?_ _|refine Turns.drew ?_|refine Tn.more ?_ _|refine Tn.put ?_ _ _|refine Tn.new ?_ (by simp) _)⟩
 ·obtain rfl:a=n:=by omega
  clear hc
  go_enter Tryz.func144,Tryz.ntmps144
  go_wp2
  go_quiet(fail)
  go_wp2
  go_ret
  exact⟨rfl,by(repeat' first|assumption|refine Sc.drewN ?_ _|refine Sc.drew ?_|refine Sc.alloc ?_ _|refine Sc.put1i (a:=a) ?_ (by omega) (by omega)|refine Sc.later h ?_ (by simp) _),by(repeat' first|exact Turns.refl _ _|assumption|refine Tn.drewN ?_ _|refine Turns.drew ?_|refine Tn.more ?_ _|refine Tn.put ?_ _ _|refine Tn.new ?_ (by simp) _)⟩
theorem accept_any(sb:Nat)(ao:Option Addr)(n cap:Nat)(f:Nat→Int)(a st k:Nat)(tv:Value)(w:World)(h:Sc w sb ao n cap f a st k tv)(c:Int):
  Calls Tryz.prog 144 #[.pointer (some ⟨sb,0,none⟩),.int .u8 c] w fun e w'=>e=.returned (.bool (at_ f n a c))∧Sc w' sb ao n cap f (if at_ f n a c=true then a+1 else a) st k tv∧Tn sb w w':=by
 by_cases hc:a<n∧f a=c
 ·have e:at_ f n a c=true:=by unfold at_;simp[hc.1,hc.2]
  rw[e,if_pos rfl]
  exact accept_yes sb ao n cap f a st k tv w h c hc.1 hc.2
 ·have e:at_ f n a c=false:=by
   unfold at_
   by_cases hl:a<n
   ·have:¬f a=c:=fun q=>hc ⟨hl,q⟩
    simp[this]
   ·simp[hl]
  rw[e,if_neg (by decide)]
  exact accept_no sb ao n cap f a st k tv w h c hc
theorem want_any(sb:Nat)(ao:Option Addr)(n cap:Nat)(f:Nat→Int)(a st k:Nat)(tv:Value)(w:World)(h:Sc w sb ao n cap f a st k tv)(c:Int):
  Calls Tryz.prog 150 #[.pointer (some ⟨sb,0,none⟩),.int .u8 c] w (End w sb ao n cap f st k tv uv (want f n st c a)):=by
 have O:=octet_any sb ao n cap f a st k tv w h
 obtain⟨o,ho⟩:∃o,octet f n a=o:=⟨_,rfl⟩
 obtain⟨R,hR⟩:∃R,want f n st c a=R:=⟨_,rfl⟩
 rw[ho]at O
 rw[hR]
 have HR:Hid (R=o.bind fun x a=>if x=c then .ok () a else nope f st):=by unfold Hid;rw[←hR,←ho];rfl
 clear hR ho
 go_enter Tryz.func150,Tryz.ntmps150
 go_wp2_with fail
 refine O.mono ?_
 intro e w1 H
 clear O
 cases o with
 |no q p=>
  obtain⟨rfl,⟨a',k',S1⟩,T1⟩:=H
  obtain rfl:R=.no q p:=HR.out
  go_wp2
  exact⟨rfl,rfl,⟨_,_,S1⟩,T1⟩
 |ok x a1=>
  obtain⟨rfl,S1,T1⟩:=H
  unfold iv
  by_cases hx:x=c
  ·obtain rfl:R=.ok () a1:=HR.out.trans (if_pos hx)
   clear HR
   subst hx
   go_wp2
   go_end0
   exact⟨rfl,S1,T1⟩
  ·obtain rfl:R=nope f st:=HR.out.trans (if_neg hx)
   clear HR
   have N:=none_any sb ao n cap f a1 st k tv w1 S1
   go_wp2_with fail
   refine N.mono ?_
   rintro e w2⟨rfl,hb⟩
   have S2:=S1.below hb
   have T2:=Tn.beyond T1 hb
   go_wp2
   exact⟨rfl,rfl,⟨_,_,S2⟩,T2⟩
end Go.Proofs.YtbbeciofgnkggaaGreatDoor.tok
namespace Go.Proofs.YtbbeciofgnkggaaGreatDoor.tok
open Go.RowKit
open lin(BA Turns)
theorem isLetter_any(r:Int)(w:World):Calls Tryz.prog 139 #[.int .i64 r] w fun e w'=>e=.returned (.bool (letterB r))∧w'=w:=by
 unfold letterB
 by_cases h1:97≤r<;>by_cases h2:r≤122<;>by_cases h3:65≤r<;>by_cases h4:r≤90
 all_goals first|(exfalso;omega)|skip
 all_goals go_enter Tryz.func139,Tryz.ntmps139
 all_goals go_wp2
 all_goals go_ret
 all_goals exact⟨by simp[*],rfl⟩
theorem isDigit_any(r:Int)(w:World):Calls Tryz.prog 140 #[.int .i64 r] w fun e w'=>e=.returned (.bool (digitB r))∧w'=w:=by
 unfold digitB
 by_cases h1:48≤r<;>by_cases h2:r≤57
 all_goals first|(exfalso;omega)|skip
 all_goals go_enter Tryz.func140,Tryz.ntmps140
 all_goals go_wp2
 all_goals go_ret
 all_goals exact⟨by simp[*],rfl⟩
theorem digit_any(c base:Int)(w:World)(h0:0≤c)(h1:c≤255)(hb:0≤base)(hb2:base≤16):Calls Tryz.prog 165 #[.int .u8 c,.int .i64 base] w fun e w'=>e=.returned (.tuple #[.int .i64 (dgV c base),.bool (decide (dgV c base<base))])∧w'=w:=by
 rcases(show 48≤c∧c≤57∨97≤c∧c≤102∨65≤c∧c≤70∨c<48∨57<c∧c<65∨70<c∧c<97∨102<c from by omega)with⟨h,h'⟩|⟨h,h'⟩|⟨h,h'⟩|h|⟨h,h'⟩|⟨h,h'⟩|h
 ·have e:dgV c base=c-48:=by unfold dgV;rw[if_pos ⟨h,h'⟩]
  rw[e];clear e
  go_enter Tryz.func165,Tryz.ntmps165
  go_wp2
  go_ret2
  exact⟨rfl,rfl⟩
 ·have e:dgV c base=c-97+10:=by unfold dgV;rw[if_neg (by omega),if_pos ⟨h,h'⟩]
  rw[e];clear e
  go_enter Tryz.func165,Tryz.ntmps165
  go_wp2
  go_ret2
  exact⟨rfl,rfl⟩
 ·have e:dgV c base=c-65+10:=by unfold dgV;rw[if_neg (by omega),if_neg (by omega),if_pos ⟨h,h'⟩]
  rw[e];clear e
  go_enter Tryz.func165,Tryz.ntmps165
  go_wp2
  go_ret2
  exact⟨rfl,rfl⟩
 all_goals have e:dgV c base=base:=by unfold dgV;rw[if_neg (by omega),if_neg (by omega),if_neg (by omega)]
 all_goals rw[e]
 all_goals clear e
 all_goals go_enter Tryz.func165,Tryz.ntmps165
 all_goals go_wp2
 all_goals go_ret2
 all_goals first|exact⟨rfl,rfl⟩|exact⟨by simp,rfl⟩
theorem dg_small(c base:Int)(h0:0≤c)(h:dgV c base<base)(hb:base=10∨base=16):0≤dgV c base∧dgV c base<base:=by
 refine⟨?_,h⟩
 unfold dgV
 (repeat' split)<;>omega
theorem pow_small(l:Nat)(h:l≤6):(16:Int)^(6-l)≤16777216:=by
 rcases(show l=0∨l=1∨l=2∨l=3∨l=4∨l=5∨l=6 by omega)with rfl|rfl|rfl|rfl|rfl|rfl|rfl<;>decide
theorem pow_step(l:Nat)(h:l≤5):(16:Int)^(6-l)=16^(6-(l+1))*16:=by
 rw[show 6-l=(6-(l+1))+1 by omega,Int.pow_succ]
theorem numR_step(f:Nat→Int)(n st:Nat)(base:Int)(left:Nat)(acc:Int)(first:Bool)(a:Nat):numR f n st base left acc first a=(octet f n a).bind fun c a=>
  if dgV c base<base then(match left with|0=>nope f st|left+1=>numR f n st base left (acc*base+dgV c base) false a)
  else if first=true then nope f st else .ok (acc,c) a:=by
 cases left<;>rfl
def nv(q:Int×Int):Value:=.tuple #[.int .i64 q.1,.int .u8 q.2]
theorem number_any(sb:Nat)(ao:Option Addr)(n cap:Nat)(f:Nat→Int)(a st k:Nat)(tv:Value)(w:World)(h:Sc w sb ao n cap f a st k tv)(base:Int)(most:Nat)(hb:base=10∨base=16)(hm:most≤6):
  Calls Tryz.prog 152 #[.pointer (some ⟨sb,0,none⟩),.int .i64 base,.int .i64 most] w (End w sb ao n cap f st k tv nv (number f n st base most a)):=by
 obtain⟨R,hR⟩:∃R,number f n st base most a=R:=⟨_,rfl⟩
 rw[hR]
 have HR:Hid (R=numR f n st base most 0 true a):=by unfold Hid;rw[←hR];rfl
 have HS:Hid (Sc w sb ao n cap f a st k tv):=h
 have hb1:0≤base:=by omega
 have hb2:base≤16:=by omega
 have HB:Hid (base=10∨base=16):=hb
 have HF:Hid (∀i,0≤f i∧f i≤255):=h.ff
 clear hR h hb
 go_enter Tryz.func152,Tryz.ntmps152
 go_wp2
 go_loopw[6,8](fun v s wr=>∃(left size a1:Nat)(acc:Int),size+left=most∧s=.int .i64 size∧v=.int .i64 acc∧0≤acc∧Hid (acc+1≤16^(6-left))∧Hid (R=numR f n st base left acc (decide (size=0)) a1)∧Hid (Sc wr sb ao n cap f a1 st k tv)∧Hid (Tn sb w wr))
  (fun _ s _=>most-(intOf s).toNat)
 case atStart=>exact⟨most,0,a,0,by omega,rfl,rfl,by decide,by unfold Hid;simp;exact Int.le_trans (by decide) (pow_one most hm),HR,HS,lin.Turns.refl _ _⟩
 case round=>
  obtain⟨left,size,a1,acc,hsz,rfl,rfl,hac,HP,HQ,HW,HT⟩:=hrel
  have O:=octet_any sb ao n cap f a1 st k tv wr HW.out
  obtain⟨o,ho⟩:∃o,octet f n a1=o:=⟨_,rfl⟩
  rw[ho]at O
  have HQ2:Hid (R=o.bind fun c a=>if dgV c base<base then(match left with|0=>nope f st|left+1=>numR f n st base left (acc*base+dgV c base) false a)else if decide (size=0)=true then nope f st else .ok (acc,c) a):=by unfold Hid;rw[HQ.out,numR_step,ho]
  have HC:Hid (∀c a2,o=.ok c a2→0≤c∧c≤255):=fun c a2 e=>by rw[←ho]at e;unfold octet at e;split at e;cases e;exact HF.out a1;cases e
  have hpa:=pow_small left (by omega)
  have HP2:=HP.out
  have hac2:acc≤16777216:=by omega
  clear HQ ho hpa HP2
  go_wp2_with fail
  refine O.mono ?_
  intro e w1 H
  clear O
  cases o with
  |no q p=>
   obtain⟨rfl,⟨a',k',S1⟩,T1⟩:=H
   obtain rfl:R=.no q p:=HQ2.out
   go_wp2
   exact⟨rfl,rfl,⟨_,_,S1⟩,HT.out.trans T1⟩
  |ok c a2=>
   obtain⟨rfl,S1,T1⟩:=H
   have T2:=HT.out.trans T1
   obtain⟨hc0,hc1⟩:=HC.out c a2 rfl
   unfold iv
   clear HC HT HW T1
   have D:=digit_any c base w1 hc0 hc1 hb1 hb2
   go_wp2_with fail
   refine D.mono ?_
   rintro e w2⟨rfl,rfl⟩
   clear D
   by_cases hd:dgV c base<base
   ·obtain⟨hd0,hd1⟩:=dg_small c base hc0 hd HB.out
    have hdt:decide (dgV c base<base)=true:=by simp[hd]
    rw[hdt]
    cases left with
    |zero=>
     obtain rfl:R=nope f st:=HQ2.out.trans (if_pos hd)
     have hse:size=most:=by omega
     subst hse
     have N:=none_any sb ao n cap f a2 st k tv w2 S1
     clear HQ2 HP hdt
     go_wp2_with fail
     refine N.mono ?_
     rintro e w3⟨rfl,hbl⟩
     have S3:=S1.below hbl
     have T3:=Tn.beyond T2 hbl
     go_wp2
     exact⟨rfl,rfl,⟨_,_,S3⟩,T3⟩
    |succ l=>
     have HQ3:Hid (R=numR f n st base l (acc*base+dgV c base) (decide (size+1=0)) a2):=by unfold Hid;rw[HQ2.out,bind_ok,if_pos hd];simp
     have hsn:¬((size:Int)=(most:Int)):=by omega
     have HP3:Hid (acc*base+dgV c base+1≤16^(6-l)):=by
      unfold Hid
      have:=HP.out
      rw[pow_step l (by omega)]
      rcases HB.out with e|e<;>(rw[e]at hd1⊢;omega)
     have hmul:0≤acc*base∧acc*base≤268435456:=by rcases HB.out with e|e<;>(rw[e];omega)
     obtain⟨hm1,hm2⟩:=hmul
     generalize hM:acc*base=M at*
     generalize dgV c base=V at*
     clear HQ2 HP hdt hd
     go_wp2
     refine⟨⟨l,size+1,a2,M+V,by omega,rfl,rfl,by omega,HP3,HQ3,S1,T2⟩,?_⟩
     (first|simp[intOf]|simp[Go.RowKit.intOf]);omega
   ·have hdt:decide (dgV c base<base)=false:=by simp[hd]
    rw[hdt]
    by_cases hz:size=0
    ·obtain rfl:R=nope f st:=by rw[HQ2.out,bind_ok,if_neg hd,if_pos (by simp[hz])]
     subst hz
     have N:=none_any sb ao n cap f a2 st k tv w2 S1
     clear HQ2 HP hdt hd
     generalize dgV c base=V at*
     go_wp2_with fail
     refine N.mono ?_
     rintro e w3⟨rfl,hbl⟩
     have S3:=S1.below hbl
     have T3:=Tn.beyond T2 hbl
     go_wp2
     exact⟨rfl,rfl,⟨_,_,S3⟩,T3⟩
    ·obtain rfl:R=.ok (acc,c) a2:=by rw[HQ2.out,bind_ok,if_neg hd,if_neg (by simp[hz])]
     have hsp:(0:Int)<(size:Int):=by omega
     clear HQ2 HP hdt hd
     generalize dgV c base=V at*
     go_wp2
     go_ret2
     exact⟨rfl,S1,T2⟩
where
 pow_one(most:Nat)(hm:most≤6):(1:Int)≤16^(6-most):=by
  rcases(show most=0∨most=1∨most=2∨most=3∨most=4∨most=5∨most=6 by omega)with rfl|rfl|rfl|rfl|rfl|rfl|rfl<;>decide
end Go.Proofs.YtbbeciofgnkggaaGreatDoor.tok
