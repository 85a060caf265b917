import Derived.Deep.RegionHeld3
import Derived.RangeFuncNested
import Derived.RangeFuncBound
import Derived.RangeFuncLeaves
import Derived.Test.YtbbeciofgnkggaaGreatDoorProg
import Derived.WalkKit
import Derived.WalkSpells
import Derived.WalkLawsBesides
import Derived.Laws.RangeAny
import Derived.Laws.BitsLemmas
import Derived.Lib.IndexLaws
import Derived.Shelf.Strings.SlTrimAscii
import Derived.Shelf.Strings.Builder1
import Derived.Shelf.Strings.Builder2
import Derived.Shelf.Strings.OnBuilder
import Derived.Shelf.Strings.Trim
import Derived.Shelf.Small.Utf8
import Derived.Shelf.Small.Strs
import Derived.Shelf.Strings.BuilderF
import Derived.Shelf.Strings.BuilderK
import Derived.Shelf.Strings.BuilderRune
import Derived.Shelf.Strconv.Itoa0
import Derived.Shelf.Strconv.Itoa1
import Derived.Shelf.LaysM
import Derived.Shelf.Strconv.Itoa2
import Derived.Shelf.Strconv.Itoa3
import Derived.Shelf.Strconv.Itoa4
import Derived.Shelf.Strconv.Clone
import Derived.Shelf.Strings.Search1
import Derived.Shelf.Strings.Search2
import Derived.Shelf.Strings.Search3
import Derived.Shelf.Strings.Shaped
import Derived.Shelf.Strings.Prefix
import Derived.Shelf.Unicode.Latin
import Derived.Shelf.Unicode.Decode
import Derived.Shelf.Strings.Runes
import Derived.Shelf.Strings.IndexAny
import Derived.Shelf.Strings.AsciiSet
import Derived.Shelf.Strings.IndexAnyAll
import Derived.Shelf.Unicode.DecodeSlow
import Derived.Shelf.Unicode.DecodeAny
import Derived.Shelf.Unicode.DecodeLast
import Derived.Shelf.Unicode.CaseLookup
import Derived.Shelf.Unicode.CaseConvert
import Derived.Shelf.Unicode.CaseTo
import Derived.Shelf.Unicode.CaseLaid
import Derived.Shelf.Strings.MapAny
import Derived.Shelf.Strings.CaseAny
import Derived.Shelf.Slices.Turned
import Derived.Lib.SlTrimSet
set_option linter.unusedSimpArgs false
set_option linter.unusedVariables false
section
namespace Go.Proofs.YtbbeciofgnkggaaGreatDoor.lin
def Ul(n m:Nat):Array Bool:=(List.replicate n true++List.replicate m false).toArray
theorem Ul_set(n m:Nat):(Ul n (m+1)).setIfInBounds n true=Ul (n+1) m:=by
 unfold Ul
 rw[List.setIfInBounds_toArray,List.set_append_right _ _ (by simp),List.length_replicate,Nat.sub_self,List.replicate_succ,List.set_cons_zero,List.replicate_succ',List.append_assoc]
 rfl
theorem sm{α:Type}:(∀(l:List α)i x,l.toArray.setIfInBounds i x=(l.set i x).toArray)∧(∀(a b:α)l,(a::l).set 0 b=b::l)∧(∀(a b:α)l n,(a::l).set (n+1) b=a::l.set n b)∧
  (∀(l:List α)i(h:i<l.toArray.size),l.toArray[i]=l[i]'(by simpa using h))∧(∀(a:α)l(h:0<(a::l).length),(a::l)[0]=a)∧∀(a:α)l i(h:i+1<(a::l).length),(a::l)[i+1]=l[i]'(by simpa using h):=
 ⟨fun _ _ _=>List.setIfInBounds_toArray ..,fun _ _ _=>rfl,fun _ _ _ _=>rfl,fun _ _ _=>rfl,fun _ _ _=>rfl,fun _ _ _ _=>rfl⟩
section
variable{P:Program}{ops:Array Oper}{Q:Exit→Act→World→Prop}{md:Region.Mode}{S:World→Prop}{n:Nat}{a:Act}{w:World}
def UH(P:Program)(md:Region.Mode)(ops:Array Oper)(Q:Exit→Act→World→Prop)(S:World→Prop)(n:Nat)(a:Act)(w:World):Prop:=wpAnyH P md ops Q S (ops.size-n) (Ul n (ops.size-n)) a w
def okT(md:Region.Mode)(ops:Array Oper)(n:Nat):Bool:=Region.noSelect ops&&Region.free md ops (Ul n (ops.size-n)) n&&(Region.ready md ops (Ul n (ops.size-n))).contains n
theorem Ul_zero(m:Nat):Array.replicate m false=Ul 0 m:=by unfold Ul;simp
theorem sz_succ{o:Oper}(hi:ops[n]?=some o):ops.size-n=ops.size-(n+1)+1:=by have:=(Array.getElem?_eq_some_iff.1 hi).1;omega
theorem UH.begin(S:World→Prop){id:Nat}(hm:P.follows .mixedOrders=true)(hS:S w.drew)(h:S w.drew→UH P .any ops (NoPanic Q) S 0 a w.drew):(Code.region id ops true).wp P Q a w:=
 wp_region_noPanic (wp_region_held_drew hm hS fun hs=>by have:=h hs;unfold UH at this;rwa[←Ul_zero]at this)
theorem UH.take{o:Oper}{v:Value}(hi:ops[n]?=some o)(hc:okT md ops n=true)(hQ:∀c a w,Q (.panic c) (a.put o.dst v) w→Q (.panic c) a w)(hr:Region.wanted o (yielded ops a.tmps)=true)
  (hv:∀w,S w→(execOp a.eval o).run P w=.ok (.value v) w)(hS:S w)(h:UH P md ops Q S (n+1) (a.put o.dst v) w):UH P md ops Q S n a w:=by
 unfold UH okT at*
 have e:=sz_succ hi
 simp only[Bool.and_eq_true]at hc
 rw[e]at hc⊢
 exact wpAnyH_take hi hc.1.1 hc.1.2 hc.2 hQ (.inl ⟨hr,hv⟩) hS (by rw[Ul_set];exact h)
theorem UH.skip{o:Oper}(hi:ops[n]?=some o)(hc:okT md ops n=true)(hQ:∀c a w,Q (.panic c) (a.put o.dst undef) w→Q (.panic c) a w)(hr:Region.wanted o (yielded ops a.tmps)=false)
  (hS:S w)(h:UH P md ops Q S (n+1) (a.put o.dst undef) w):UH P md ops Q S n a w:=by
 unfold UH okT at*
 have e:=sz_succ hi
 simp only[Bool.and_eq_true]at hc
 rw[e]at hc⊢
 exact wpAnyH_take hi hc.1.1 hc.1.2 hc.2 hQ (.inr ⟨hr,rfl⟩) hS (by rw[Ul_set];exact h)
theorem UH.one{o:Oper}(hr:Region.ready md ops (Ul n (ops.size-n))=[n])(ho:ops[n]?=some o)
  (h:∀K':Act→World→Prop,Shut (∀a w,S w→(S w→UH P md ops Q S (n+1) a w)→K' a w)→if Region.wanted o (yielded ops a.tmps)=true then Oper.wp P o a w K' Q else K' (a.put o.dst undef) w):UH P md ops Q S n a w:=by
 unfold UH at*
 have e:=sz_succ ho
 rw[e]at hr⊢
 exact⟨fun h0=>(by rw[hr]at h0;cases h0),fun i hi=>by
  rw[hr]at hi
  obtain rfl:i=n:=by simpa using hi
  rw[Ul_set]
  exact wpOp_step ho fun K' hK=>h K' (fun a w hS hW=>hK a w ⟨hS,hW hS⟩)⟩
theorem UH.fin{X:Exit→Act→World→Prop}(hr:Region.ready md ops (Ul n (ops.size-n))=[])(h:X .normal a w):UH P md ops (NoPanic X) S n a w:=wpAnyH_done hr (NoPanic.normal h) _
def okG(md:Region.Mode)(ops:Array Oper)(l:Array Bool)(i:Nat):Bool:=Region.noSelect ops&&Region.free md ops l i&&(Region.ready md ops l).contains i
theorem tkH(i:Nat){o:Oper}{v:Value}{f:Nat}{l:Array Bool}(hi:ops[i]?=some o)(hc:okG md ops l i=true)(hQ:∀c a w,Q (.panic c) (a.put o.dst v) w→Q (.panic c) a w)(hr:Region.wanted o (yielded ops a.tmps)=true)
  (hv:∀w,S w→(execOp a.eval o).run P w=.ok (.value v) w)(hS:S w)(h:wpAnyH P md ops Q S f (l.setIfInBounds i true) (a.put o.dst v) w):wpAnyH P md ops Q S (f+1) l a w:=by
 simp only[okG,Bool.and_eq_true]at hc
 exact wpAnyH_take hi hc.1.1 hc.1.2 hc.2 hQ (.inl ⟨hr,hv⟩) hS h
end
end Go.Proofs.YtbbeciofgnkggaaGreatDoor.lin
end
namespace Go.Proofs.YtbbeciofgnkggaaGreatDoor.lin
open Go.RowKit
structure Turns(D:Nat→Prop)(A B:World):Prop where
 os:B.os=A.os
 tape:B.tape=A.tape
 output:B.output=A.output
 size:A.heap.size≤B.heap.size
 block:∀k,k<A.heap.size→¬D k→B.heap[k]?=A.heap[k]?
theorem Turns.refl(D:Nat→Prop)(A:World):Turns D A A:=⟨rfl,rfl,rfl,Nat.le_refl _,fun _ _ _=>rfl⟩
theorem Turns.trans{D:Nat→Prop}{A B C:World}(h:Turns D A B)(k:Turns D B C):Turns D A C:=
 ⟨k.os.trans h.os,k.tape.trans h.tape,k.output.trans h.output,Nat.le_trans h.size k.size,fun i hi hd=>(k.block i (Nat.lt_of_lt_of_le hi h.size) hd).trans (h.block i hi hd)⟩
theorem Turns.of_grown{D:Nat→Prop}{A B:World}{row:Option Nat}(h:A.grownBy B row)(hr:∀k,row=some k→D k):Turns D A B:=
 ⟨h.os,h.tape,h.output,h.size,fun k hk hd=>h.block k hk (fun e=>hd (hr k e.symm))⟩
theorem Turns.of_below{D:Nat→Prop}{A B:World}(h:Below A.heap.size A B):Turns D A B:=⟨h.os,h.tape,h.output,h.size,fun k hk _=>h.block k hk⟩
theorem Turns.alloc{D:Nat→Prop}{A B:World}(h:Turns D A B)(o:Obj):Turns D A (B.alloc o):=h.trans (.of_grown (World.grownBy_alloc B o none) (fun _ e=>by cases e))
theorem Turns.drew{D:Nat→Prop}{A B:World}(h:Turns D A B):Turns D A B.drew:=⟨h.os,h.tape,h.output,h.size,h.block⟩
theorem Turns.put{D:Nat→Prop}{A B:World}(h:Turns D A B)(k:Nat)(o:Obj)(hd:D k):Turns D A (B.putObj k o):=h.trans (.of_grown (grownBy_putObj' B k o) (fun _ e=>by cases e;exact hd))
theorem Turns.set{D:Nat→Prop}{A B:World}(h:Turns D A B)(k:Nat)(v:Value)(hd:D k):Turns D A (B.setCell ⟨k,0,none⟩ v):=h.trans (.of_grown (grownBy_setCell' B k v) (fun _ e=>by cases e;exact hd))
theorem Turns.boxed{D:Nat→Prop}{A B:World}(h:Turns D A B){k:Nat}{t:TypeId}{v:Value}(hb:Boxed A k t v)(hd:¬D k):Boxed B k t v:=(h.block k hb.lt hd).trans hb
theorem Turns.below{D:Nat→Prop}{A B:World}(h:Turns D A B){n:Nat}(hn:n≤A.heap.size)(hd:∀k,D k→n≤k):Below n A B:=⟨h.os,h.tape,h.output,h.size,fun k hk=>h.block k (by omega) (fun d=>by have:=hd k d;omega)⟩
theorem Turns.own{D:Nat→Prop}{A B:World}(h:Turns D A B){base e size n:Nat}{v:Value}{xs:List Value}(ho:A.ownsRow base e size v n xs)(hd:∀k,v.ownBlock=some k→¬D k):B.ownsRow base e size v n xs:=by
 refine⟨ho.1,?_⟩
 rcases ho.2 with hn|⟨g,cap,cur,rfl,hg,hgg,rest⟩
 ·exact .inl hn
 ·exact .inr ⟨g,cap,cur,rfl,hg,(h.block g (Array.getElem?_eq_some_iff.1 hgg).1 (hd g rfl)).trans hgg,rest⟩
/--The blocks from lo to hi lie as they lay. -/
def Keep(lo hi:Nat)(A B:World):Prop:=∀k,lo≤k→k<hi→B.heap[k]?=A.heap[k]?
theorem Turns.keep{D:Nat→Prop}{A B:World}(h:Turns D A B){lo hi:Nat}(hh:hi≤A.heap.size)(hd:∀k,D k→k<lo∨hi≤k):Keep lo hi A B:=
 fun k h1 h2=>h.block k (by omega) (fun d=>by have:=hd k d;omega)
/--The contract of an iterator whose elements are xs, and which stores into block c alone; it wants the blocks from lo to hi as they lay. -/
def Gives{α:Type}(n:Nat)(P:Program)(g:Nat)(lb:Array Value)(encs:α→Array Value)(xs:List α)(c lo hi:Nat)(w:World):Prop:=
 ∀(l:Nat)(J Jx:List α→World→Prop)(W:World),Below w.heap.size w W→(∀s A B,J s A→A.grownBy B (some c)→J s B)→
  (∀pre x rest W1,xs=pre++x::rest→J pre W1→YieldAt Fence.wide (n-1) P l (encs x) W1 fun e W'=>
   (e=.returned (.bool true)∧J (pre++[x]) W'∧Keep lo hi W1 W')∨(e=.returned (.bool false)∧Jx (pre++[x]) W'))→
  J [] W→
  CallsIn Fence.wide n P g (#[.func (.yield l) #[] #[]]++lb) W fun e W'=>(∃v,e=.returned v)∧(J xs W'∨∃pre,Jx pre W')
/--How a round's body may be left: it goes on, or it returns. -/
def roundEnd{α:Type}(lo hi:Nat)(I Ix:List α→World→Prop)(xs:List α)(W:World):Exit→Act→World→Prop
 |.normal,_,W'=>Keep lo hi W W'∧I xs W'
 |.ret,_,W'=>Keep lo hi W W'∧Ix xs W'
 |_,_,_=>False
theorem range_own{α:Type}{n:Nat}{P:Program}{g:Operand}{ps:Array Tmp}{assign body:Code}{Q:Exit→Act→World→Prop}{a:Act}{w:World}{gf:Nat}{lb:Array Value}
  (hg:a.eval g=.func (.func gf) #[] lb)(eg:∀args w,(callFunc gf args).run P w=.ok (.enter gf args) w)
  {encs:α→Array Value}{xs:List α}{c lo:Nat}(hc:c<w.heap.size)(hlo:lo≤w.heap.size)(hseq:Gives (n-1) P gf lb encs xs c lo w.heap.size w)(hps:∀x,(encs x).size=ps.size)
  (I Ix:List α→World→Prop)(hI:∀s A B,I s A→Turns (fun k=>k=c∨k=w.heap.size∨k=w.heap.size+1) A B→I s B)(hIx:∀s A B,Ix s A→Turns (fun k=>k=c∨k=w.heap.size∨k=w.heap.size+1) A B→Ix s B)
  (h0:I [] w)(a₁:α→Act)
  (hassign:∀(l:Nat)(x:α)(W:World)(K:Act→World→Prop),K (a₁ x) W→
   assign.wpIn (Fence.wide.inRound l) (n-1-1) P (Exit.then K (fun _ _ _=>False)) {tmps:=(ps.zip (encs x)).foldl (fun t(p,v)=>t.setIfInBounds p v) a.tmps,defers:=[]} W)
  (hbody:∀(l:Nat)(pre:List α)(x:α)(rest:List α)(W:World),xs=pre++x::rest→I pre W→w.heap.size+2≤W.heap.size→body.wpIn (Fence.wide.inRound l) (n-1-1) P (roundEnd lo (w.heap.size+2) I Ix (pre++[x]) W) (a₁ x) W)
  (hdone:∀(W:World),I xs W→W.heap[w.heap.size]?=some (.deferred (some []))→Q .normal {a with defers:={target:=.collected w.heap.size,args:=#[]}::a.defers} W)
  (hstop:∀(pre:List α)(W:World),Ix pre W→W.heap[w.heap.size]?=some (.deferred (some []))→Code.ret.wpIn Fence.wide n P Q {a with defers:={target:=.collected w.heap.size,args:=#[]}::a.defers} W):
  (Code.rangeFunc g ps assign body).wpIn Fence.wide n P Q a w:=by
 refine wpIn_rangeFunc fun fn hfn=>?_
 let rec_:LoopState→Option Code→Loop:=fun st pe=>{state:=st,pending:=pe,fn,tmps:=a.tmps,params:=ps,assign,body,defers:=w.heap.size}
 have hIr:∀s A(o:Obj),I s A→I s (A.putObj (w.heap.size+1) o):=fun s A o hs=>hI s A _ hs ((Turns.refl _ A).put _ o (.inr (.inr rfl)))
 have hIxr:∀s A(o:Obj),Ix s A→Ix s (A.putObj (w.heap.size+1) o):=fun s A o hs=>hIx s A _ hs ((Turns.refl _ A).put _ o (.inr (.inr rfl)))
 refine⟨w.heap.size+1,[{target:=.collected w.heap.size,args:=#[]}],(w.alloc (.deferred (some []))).alloc (.loop (rec_ .ready none)),{target:=.fn (.func gf) lb,args:=#[.func (.yield (w.heap.size+1)) #[] #[]]},(w.alloc (.deferred (some []))).alloc (.loop (rec_ .ready none)),gf,
  #[.func (.yield (w.heap.size+1)) #[] #[]]++lb,(w.alloc (.deferred (some []))).alloc (.loop (rec_ .ready none)),run_enterLoop_outer _ _ _ _ _,?_,fun _ _=>trivial,?_,fun h=>by simp[Fence.wide]at h,?_⟩
 ·simp only[resolve,hg]
  simp[go_sem]
 ·simp[invoke,go_sem,eg]
 have hK1:((w.alloc (.deferred (some []))).alloc (.loop (rec_ .ready none))).heap[w.heap.size]?=some (.deferred (some [])):=(Below.heap_alloc _ _ _ (by simp)).trans (World.alloc_heap_new w _)
 have hL1:((w.alloc (.deferred (some []))).alloc (.loop (rec_ .ready none))).heap[w.heap.size+1]?=some (.loop (rec_ .ready none)):=by
  have:=World.alloc_heap_new (w.alloc (.deferred (some []))) (.loop (rec_ .ready none));rwa[World.size_alloc]at this
 have hI1:I [] ((w.alloc (.deferred (some []))).alloc (.loop (rec_ .ready none))):=hI _ _ _ h0 (((Turns.refl _ w).alloc _).alloc _)
 have hb1:Below w.heap.size w ((w.alloc (.deferred (some []))).alloc (.loop (rec_ .ready none))):=((Below.refl _ w).alloc (Nat.le_refl _) _).alloc (by simp) _
 have kept:∀(A B:World)(k:Nat)(o:Obj),A.grownBy B (some c)→w.heap.size≤k→A.heap[k]?=some o→B.heap[k]?=some o:=fun A B k o hgr hk ho=>
  (hgr.block k (Array.getElem?_eq_some_iff.1 ho).1 (fun e=>by cases e;omega)).trans ho
 refine(hseq (w.heap.size+1)
  (fun pre W=>I pre W∧W.heap[w.heap.size+1]?=some (.loop (rec_ .ready none))∧W.heap[w.heap.size]?=some (.deferred (some [])))
  (fun pre W=>Ix pre W∧W.heap[w.heap.size+1]?=some (.loop (rec_ .done (some .ret)))∧W.heap[w.heap.size]?=some (.deferred (some [])))
  _ hb1 (fun s A B hs hgr=>⟨hI s A B hs.1 (.of_grown hgr (fun k e=>by cases e;exact .inl rfl)),kept A B _ _ hgr (by omega) hs.2.1,kept A B _ _ hgr (Nat.le_refl _) hs.2.2⟩) ?_ ⟨hI1,hL1,hK1⟩).mono ?_
 ·rintro pre x rest W hx⟨hi,hl,hk⟩
  have hlt:w.heap.size+1<W.heap.size:=(Array.getElem?_eq_some_iff.1 hl).1
  refine⟨fn,_,assign,body,run_yield (P:=P) (args:=encs x) hl (hps x),roundIn_of_wpIn hfn (hassign _ x W _ ?_)⟩
  refine⟨_,run_beginRound hl rfl,?_⟩
  have hl2:(W.putObj (w.heap.size+1) (.loop {rec_ .ready none with state:=.busy})).heap[w.heap.size+1]?=some (.loop {rec_ .ready none with state:=.busy}):=World.putObj_heap_same hlt
  have hk2:(W.putObj (w.heap.size+1) (.loop {rec_ .ready none with state:=.busy})).heap[w.heap.size]?=some (.deferred (some [])):=(World.putObj_heap_other (by omega)).trans hk
  refine wpIn_mono (hbody _ pre x rest _ hx (hIr _ _ _ hi) (by simp;omega)) ?_
  rintro e a3 W3 hp
  cases e with
  |normal=>
   obtain⟨hk3,hi3⟩:=hp
   have hl3:=(hk3 (w.heap.size+1) (by omega) (by omega)).trans hl2
   refine⟨_,_,run_endRound (P:=P) none hl3,.inl ⟨rfl,⟨hIr _ _ _ hi3,World.putObj_heap_same (Array.getElem?_eq_some_iff.1 hl3).1,(World.putObj_heap_other (by omega)).trans ((hk3 w.heap.size hlo (by omega)).trans hk2)⟩,?_⟩⟩
   intro k h1 h2
   rw[World.putObj_heap_other (by omega),hk3 k h1 (by omega),World.putObj_heap_other (by omega)]
  |ret=>
   obtain⟨hk3,hi3⟩:=hp
   have hl3:=(hk3 (w.heap.size+1) (by omega) (by omega)).trans hl2
   exact⟨_,_,run_endRound (P:=P) (some .ret) hl3,.inr ⟨rfl,hIxr _ _ _ hi3,World.putObj_heap_same (Array.getElem?_eq_some_iff.1 hl3).1,(World.putObj_heap_other (by omega)).trans ((hk3 w.heap.size hlo (by omega)).trans hk2)⟩⟩
  |exit id=>exact hp.elim
  |goto t=>exact hp.elim
  |panic ch=>exact hp.elim
  |outgrown=>exact hp.elim
 ·rintro e W2⟨⟨v,rfl⟩,(⟨hi,hl,hk⟩|⟨pre,hi,hl,hk⟩)⟩
  ·exact⟨none,_,run_endLoop (P:=P) hl (by simp[rec_]),hdone _ (hIr _ _ _ hi) ((World.putObj_heap_other (by omega)).trans hk)⟩
  ·exact⟨some .ret,_,run_endLoop (P:=P) hl (by simp[rec_]),hstop pre _ (hIxr _ _ _ hi) ((World.putObj_heap_other (by omega)).trans hk)⟩
end Go.Proofs.YtbbeciofgnkggaaGreatDoor.lin
namespace Go.Proofs.YtbbeciofgnkggaaGreatDoor.lin
open Go.RowKit
def dv(c:Int):Int:=if 48≤c∧c≤57 then c-48 else if 65≤c∧c≤70 then c-55 else if 97≤c∧c≤102 then c-87 else 0
def dok(c:Int):Bool:=decide (48≤c∧c≤57)||decide (65≤c∧c≤70)||decide (97≤c∧c≤102)
/--The byte at a place of a string. -/
def at8(s:ByteArray)(p:Nat):Int:=if h:p<s.size then((s[p]'h).toNat:Int)else 0
theorem at8_eq(s:ByteArray)(p:Nat)(h:p<s.size):at8 s p=((s[p]'h).toNat:Int):=by simp[at8,h]
/--The number of so many digits from a place on, behind a number. -/
def hx(s:ByteArray):Nat→Nat→Int→Option Int
 |0,_,v=>some v
 |k+1,p,v=>if dok (at8 s p)then hx s k (p+1) (v*16+dv (at8 s p))else none
/--The code point of a string of four to six digits. -/
def hexV(s:ByteArray):Option Int:=if s.size<4∨6<s.size then none else(hx s s.size 0 0).bind fun n=>if 1114111<n then none else some n
def hexN(s:ByteArray):Int:=(hexV s).getD 0
def hexB(s:ByteArray):Bool:=(hexV s).isSome
/--How great the number of so many digits may be. -/
def Lim(p:Nat)(v:Int):Prop:=0≤v∧(p=0→v≤0)∧(p=1→v≤15)∧(p=2→v≤255)∧(p=3→v≤4095)∧(p=4→v≤65535)∧(p=5→v≤1048575)∧(p=6→v≤16777215)
end Go.Proofs.YtbbeciofgnkggaaGreatDoor.lin
namespace Go.Proofs.YtbbeciofgnkggaaGreatDoor.lin
open Go.RowKit
def cuts(s:ByteArray)(b:Int):Nat→Nat→Nat→List ByteArray
 |0,_,a=>[s.extract a s.size]
 |k+1,p,a=>if at8 s p=b then s.extract a p::cuts s b k (p+1) (p+1)else cuts s b k (p+1) a
/--A string's parts between a byte. -/
def cutV(s:ByteArray)(b:Int):List ByteArray:=cuts s b s.size 0 0
theorem cuts_hit(s:ByteArray)(b:Int)(k p a:Nat)(hk:k≠0)(h:at8 s p=b):cuts s b k p a=s.extract a p::cuts s b (k-1) (p+1) (p+1):=by
 cases k with
 |zero=>omega
 |succ k=>rw[cuts,if_pos h];rfl
theorem cuts_not(s:ByteArray)(b:Int)(k p a:Nat)(hk:k≠0)(h:at8 s p≠b):cuts s b k p a=cuts s b (k-1) (p+1) a:=by
 cases k with
 |zero=>omega
 |succ k=>rw[cuts,if_neg h];rfl
theorem cuts_skip(s:ByteArray)(b:Int):∀q p a,p+q≤s.size→(∀j,p≤j→j<p+q→at8 s j≠b)→cuts s b (s.size-p) p a=cuts s b (s.size-(p+q)) (p+q) a:=by
 intro q
 induction q with
 |zero=>intro p a _ _;rfl
 |succ q ih=>
  intro p a hp h
  rw[cuts_not s b (s.size-p) p a (by omega) (h p (Nat.le_refl _) (by omega)),show s.size-p-1=s.size-(p+1)from by omega,ih (p+1) a (by omega) (fun j h1 h2=>h j (by omega) (by omega)),show p+1+q=p+(q+1)from by omega]
theorem ext_get(s:ByteArray)(a k:Nat):(s.extract a s.size).data.toList[k]?=if h:a+k<s.size then some (s[a+k]'h)else none:=by
 rw[ByteArray.data_extract,Array.getElem?_toList]
 show(s.data.extract a s.data.size)[k]?=_
 rw[Array.getElem?_extract]
 split
 ·rename_i h
  have hz:s.data.size=s.size:=rfl
  have h':a+k<s.size:=by simp at h;omega
  rw[dif_pos h']
  exact Array.getElem?_eq_getElem h'
 ·rename_i h
  rw[dif_neg]
  intro h'
  apply h
  have:a+k<s.data.size:=h'
  simp;omega
theorem rest_none(s:ByteArray)(a:Nat)(ha:a≤s.size)(h:Lib.indexByte (s.extract a s.size).data.toList 10=-1):cuts s 10 (s.size-a) a a=[s.extract a s.size]:=by
 have hn:=Lib.indexByte_none h
 rw[cuts_skip s 10 (s.size-a) a a (by omega) ?_,show s.size-(a+(s.size-a))=0 from by omega]
 ·rfl
 ·intro j h1 h2
  have hj:j<s.size:=by omega
  have:=hn (j-a)
  rw[ext_get,dif_pos (by omega:a+(j-a)<s.size)]at this
  rw[at8_eq s j hj]
  intro e
  apply this
  congr 1
  simp only[show a+(j-a)=j from by omega]
  apply UInt8.toNat_inj.1
  show _=10
  omega
theorem rest_some(s:ByteArray)(a o:Nat)(ha:a≤s.size)(h:Lib.indexByte (s.extract a s.size).data.toList 10=o):
  a+o<s.size∧cuts s 10 (s.size-a) a a=s.extract a (a+o)::cuts s 10 (s.size-(a+o+1)) (a+o+1) (a+o+1):=by
 obtain⟨h1,h2⟩:=Lib.indexByte_some h
 have hlt:a+o<s.size:=by
  rw[ext_get]at h1
  split at h1
  ·assumption
  ·cases h1
 refine⟨hlt,?_⟩
 rw[cuts_skip s 10 o a a (by omega) ?_,cuts_hit s 10 (s.size-(a+o)) (a+o) a (by omega) ?_,show s.size-(a+o)-1=s.size-(a+o+1)from by omega]
 ·rw[ext_get,dif_pos hlt]at h1
  rw[at8_eq s _ hlt,Option.some.inj h1];rfl
 ·intro j hj1 hj2
  have:=h2 (j-a) (by omega)
  have hj:j<s.size:=by omega
  rw[ext_get,dif_pos (by omega:a+(j-a)<s.size)]at this
  rw[at8_eq s j hj]
  intro e
  apply this
  congr 1
  simp only[show a+(j-a)=j from by omega]
  apply UInt8.toNat_inj.1
  show _=10
  omega
theorem ext_ext(s:ByteArray)(a i j:Nat)(ha:a≤s.size):(s.extract a s.size).extract i j=s.extract (a+i) (min (a+j) s.size):=by
 rw[ByteArray.extract_extract]
theorem ext_first(s:ByteArray)(a o:Nat)(h:a+o≤s.size):(s.extract a s.size).extract 0 o=s.extract a (a+o):=by
 rw[ext_ext s a 0 o (by omega),Nat.add_zero,Nat.min_eq_left h]
theorem ext_last(s:ByteArray)(a o:Nat)(ha:a≤s.size):(s.extract a s.size).extract o (s.extract a s.size).size=s.extract (a+o) s.size:=by
 rw[ext_ext s a o _ ha,ByteArray.size_extract]
 congr 1
 omega
end Go.Proofs.YtbbeciofgnkggaaGreatDoor.lin
namespace Go.Proofs
open Go.Shelf
def Tryz.lays170_ren:Go.Shelf.Ren:=⟨fun|170=>173|n=>n,fun|70=>46|3=>3|0=>0|72=>49|37=>47|5=>5|n=>n,fun|n=>n⟩
theorem Tryz.lays170:Go.Proofs.Lays.n170 Tryz.prog Tryz.lays170_ren:={
 mixed:=by kernel_rfl
 f170:=Tryz.func173.trans (congrArg some (by kernel_rfl))
 t0:=Tryz.underlying0
 a0:=Tryz.isAgg0
 z0:=Tryz.sizeOf0
 v0:=Tryz.zeroValue0
 t3:=Tryz.underlying3
 a3:=Tryz.isAgg3
 z3:=Tryz.sizeOf3
 v3:=Tryz.zeroValue3
 t37:=Tryz.underlying47
 a37:=Tryz.isAgg47
 z37:=Tryz.sizeOf47
 v37:=Tryz.zeroValue47
 t70:=Tryz.underlying46
 a70:=Tryz.isAgg46
 z70:=Tryz.sizeOf46
 v70:=Tryz.zeroValue46
 t72:=Tryz.underlying49
 a72:=Tryz.isAgg49
 z72:=Tryz.sizeOf49
 v72:=Tryz.zeroValue49}
def Tryz.lays169_ren:Go.Shelf.Ren:=⟨fun|169=>17|n=>n,fun|70=>46|9=>9|0=>0|72=>49|37=>47|127=>57|3=>3|5=>5|n=>n,fun|n=>n⟩
theorem Tryz.lays169:Go.Proofs.Lays.n169 Tryz.prog Tryz.lays169_ren:={
 mixed:=by kernel_rfl
 f169:=Tryz.func17.trans (congrArg some (by kernel_rfl))
 t0:=Tryz.underlying0
 a0:=Tryz.isAgg0
 z0:=Tryz.sizeOf0
 v0:=Tryz.zeroValue0
 t3:=Tryz.underlying3
 a3:=Tryz.isAgg3
 z3:=Tryz.sizeOf3
 v3:=Tryz.zeroValue3
 t9:=Tryz.underlying9
 a9:=Tryz.isAgg9
 z9:=Tryz.sizeOf9
 v9:=Tryz.zeroValue9
 t37:=Tryz.underlying47
 a37:=Tryz.isAgg47
 z37:=Tryz.sizeOf47
 v37:=Tryz.zeroValue47
 t70:=Tryz.underlying46
 a70:=Tryz.isAgg46
 z70:=Tryz.sizeOf46
 v70:=Tryz.zeroValue46
 t72:=Tryz.underlying49
 a72:=Tryz.isAgg49
 z72:=Tryz.sizeOf49
 v72:=Tryz.zeroValue49
 t127:=Tryz.underlying57
 a127:=Tryz.isAgg57
 z127:=Tryz.sizeOf57
 v127:=Tryz.zeroValue57}
theorem Tryz.Builder_Extra_169:Builder.Extra Tryz.prog Tryz.lays169_ren:={
 sizeBuilder:=by kernel_rfl
 liesBuilder:=by kernel_rfl
 t5:=Tryz.underlying5
 a5:=Tryz.isAgg5
 z5:=Tryz.sizeOf5
 v5:=Tryz.zeroValue5
 infoByte:=by kernel_rfl
 cellsByte:=by kernel_rfl
 sizeByte:=by kernel_rfl
 neB5:=by decide}
def Tryz.lays160_ren:Go.Shelf.Ren:=⟨fun|160=>186|232=>189|231=>188|227=>171|234=>191|233=>190|236=>193|235=>192|228=>172|271=>195|151=>194|197=>86|120=>196|152=>169|260=>104|137=>178|119=>179|224=>114|225=>113|217=>112|266=>125|n=>n,fun|9=>9|4=>4|3=>3|5=>5|117=>184|116=>183|0=>0|124=>192|21=>21|105=>103|46=>62|119=>135|139=>138|138=>137|n=>n,fun|3=>4|4=>5|n=>n⟩
theorem Tryz.lays160:Go.Proofs.Lays.n160 Tryz.prog Tryz.lays160_ren:={
 mixed:=by kernel_rfl
 f119:=Tryz.func179.trans (congrArg some (by kernel_rfl))
 f120:=Tryz.func196.trans (congrArg some (by kernel_rfl))
 f137:=Tryz.func178.trans (congrArg some (by kernel_rfl))
 f151:=Tryz.func194.trans (congrArg some (by kernel_rfl))
 f152:=Tryz.func169.trans (congrArg some (by kernel_rfl))
 f160:=Tryz.func186.trans (congrArg some (by kernel_rfl))
 f197:=Tryz.func86.trans (congrArg some (by kernel_rfl))
 f217:=Tryz.func112.trans (congrArg some (by kernel_rfl))
 f224:=Tryz.func114.trans (congrArg some (by kernel_rfl))
 f225:=Tryz.func113.trans (congrArg some (by kernel_rfl))
 f227:=Tryz.func171.trans (congrArg some (by kernel_rfl))
 f228:=Tryz.func172.trans (congrArg some (by kernel_rfl))
 f231:=Tryz.func188.trans (congrArg some (by kernel_rfl))
 f232:=Tryz.func189.trans (congrArg some (by kernel_rfl))
 f233:=Tryz.func190.trans (congrArg some (by kernel_rfl))
 f234:=Tryz.func191.trans (congrArg some (by kernel_rfl))
 f235:=Tryz.func192.trans (congrArg some (by kernel_rfl))
 f236:=Tryz.func193.trans (congrArg some (by kernel_rfl))
 f260:=Tryz.func104.trans (congrArg some (by kernel_rfl))
 f266:=Tryz.func125.trans (congrArg some (by kernel_rfl))
 f271:=Tryz.func195.trans (congrArg some (by kernel_rfl))
 t0:=Tryz.underlying0
 a0:=Tryz.isAgg0
 z0:=Tryz.sizeOf0
 v0:=Tryz.zeroValue0
 t3:=Tryz.underlying3
 a3:=Tryz.isAgg3
 z3:=Tryz.sizeOf3
 v3:=Tryz.zeroValue3
 t4:=Tryz.underlying4
 a4:=Tryz.isAgg4
 z4:=Tryz.sizeOf4
 v4:=Tryz.zeroValue4
 t5:=Tryz.underlying5
 a5:=Tryz.isAgg5
 z5:=Tryz.sizeOf5
 v5:=Tryz.zeroValue5
 t9:=Tryz.underlying9
 a9:=Tryz.isAgg9
 z9:=Tryz.sizeOf9
 v9:=Tryz.zeroValue9
 t21:=Tryz.underlying21
 a21:=Tryz.isAgg21
 z21:=Tryz.sizeOf21
 v21:=Tryz.zeroValue21
 t46:=Tryz.underlying62
 a46:=Tryz.isAgg62
 z46:=Tryz.sizeOf62
 v46:=Tryz.zeroValue62
 t105:=Tryz.underlying103
 a105:=Tryz.isAgg103
 z105:=Tryz.sizeOf103
 v105:=Tryz.zeroValue103
 t116:=Tryz.underlying183
 a116:=Tryz.isAgg183
 z116:=Tryz.sizeOf183
 t117:=Tryz.underlying184
 a117:=Tryz.isAgg184
 z117:=Tryz.sizeOf184
 v117:=Tryz.zeroValue184
 t119:=Tryz.underlying135
 a119:=Tryz.isAgg135
 z119:=Tryz.sizeOf135
 t124:=Tryz.underlying192
 a124:=Tryz.isAgg192
 z124:=Tryz.sizeOf192
 v124:=Tryz.zeroValue192
 t138:=Tryz.underlying137
 a138:=Tryz.isAgg137
 z138:=Tryz.sizeOf137
 v138:=Tryz.zeroValue137
 t139:=Tryz.underlying138
 a139:=Tryz.isAgg138
 z139:=Tryz.sizeOf138
 v139:=Tryz.zeroValue138
 g3:=by kernel_rfl
 g4:=by kernel_rfl}
open Go.RowKit in
theorem Tryz.strings_Trim_one(s:ByteArray)(c:UInt8)(hc:c.toNat<128)(w:World)(hs:s.size≤9223372036854775807):
 Calls Tryz.prog 186 #[.string s,.string ⟨#[c]⟩] w fun e w'=>e=.returned (.string ⟨(Lib.trimB s.data.toList c).toArray⟩)∧(w'=w∨w'=w.drew):=Any.strings_Trim_one Tryz.lays160 s c hc w hs
open Go.RowKit in
theorem Tryz.Builder_Len_f(B b:Nat)(bs:List Value)(w:World)(h:Lib.IsBuilderF 49 5 B b bs w):
 Calls Tryz.prog 173 #[.pointer (some ⟨b,0,none⟩)] w fun e w'=>e=.returned (.int .i64 bs.length)∧w'=w:=Any.Builder_Len_f Tryz.lays170 B b bs w h
open Go.RowKit in
theorem Tryz.Builder_String_any_k(B b:Nat)(l:List UInt8)(w:World)(h:Lib.IsBuilderF 49 5 B b (Lib.byteCells l) w)(hBw:B≤w.heap.size):
 Calls Tryz.prog 17 #[.pointer (some ⟨b,0,none⟩)] w fun e w'=>e=.returned (.string ⟨l.toArray⟩)∧(Lib.IsBuilderF 49 5 B b (Lib.byteCells l) w'∧Below B w w'∧Lib.OthersKept 5 (some b) w w'):=Any.Builder_String_any_k Tryz.lays169 Tryz.Builder_Extra_169 B b l w h hBw
def Tryz.laysM316_ren:Go.Shelf.Ren:=⟨fun|316=>187|n=>n,fun|9=>9|3=>3|4=>4|37=>47|0=>0|127=>57|5=>5|n=>n,fun|n=>n⟩
theorem Tryz.laysM316:Go.Proofs.LaysM.n316 Tryz.prog Tryz.laysM316_ren:={
 mixed:=by kernel_rfl
 f316:=Tryz.func187.trans (congrArg some (by kernel_rfl))
 t0:=Tryz.underlying0
 a0:=Tryz.isAgg0
 z0:=Tryz.sizeOf0
 v0:=Tryz.zeroValue0
 t3:=Tryz.underlying3
 a3:=Tryz.isAgg3
 z3:=Tryz.sizeOf3
 v3:=Tryz.zeroValue3
 t4:=Tryz.underlying4
 a4:=Tryz.isAgg4
 z4:=Tryz.sizeOf4
 v4:=Tryz.zeroValue4
 t9:=Tryz.underlying9
 a9:=Tryz.isAgg9
 z9:=Tryz.sizeOf9
 v9:=Tryz.zeroValue9
 t37:=Tryz.underlying47
 a37:=Tryz.isAgg47
 z37:=Tryz.sizeOf47
 v37:=Tryz.zeroValue47
 t127:=Tryz.underlying57
 a127:=Tryz.isAgg57
 z127:=Tryz.sizeOf57
 v127:=Tryz.zeroValue57
 t5:=Tryz.underlying5
 a5:=Tryz.isAgg5
 z5:=Tryz.sizeOf5
 v5:=Tryz.zeroValue5
 i0:=by kernel_rfl
 i3:=by kernel_rfl
 i4:=by kernel_rfl
 i5:=by kernel_rfl
 i9:=by kernel_rfl
 i37:=by kernel_rfl
 i127:=by kernel_rfl}
open Go.RowKit in
theorem Tryz.stringslite_Clone(s:ByteArray)(w:World)(hlim:s.size≤281474976710656):
 Calls Tryz.prog 187 #[.string s] w fun e w'=>e=.returned (.string s)∧Below w.heap.size w w':=Any.stringslite_Clone Tryz.laysM316 s w hlim
def Tryz.lays143_ren:Go.Shelf.Ren:=⟨fun|143=>77|219=>95|217=>112|225=>113|224=>114|267=>115|266=>125|314=>126|n=>n,fun|9=>9|3=>3|4=>4|5=>5|46=>62|146=>143|51=>127|n=>n,fun|1=>3|n=>n⟩
theorem Tryz.lays143:Go.Proofs.Lays.n143 Tryz.prog Tryz.lays143_ren:={
 mixed:=by kernel_rfl
 f143:=Tryz.func77.trans (congrArg some (by kernel_rfl))
 f217:=Tryz.func112.trans (congrArg some (by kernel_rfl))
 f219:=Tryz.func95.trans (congrArg some (by kernel_rfl))
 f224:=Tryz.func114.trans (congrArg some (by kernel_rfl))
 f225:=Tryz.func113.trans (congrArg some (by kernel_rfl))
 f266:=Tryz.func125.trans (congrArg some (by kernel_rfl))
 f267:=Tryz.func115.trans (congrArg some (by kernel_rfl))
 f314:=Tryz.func126.trans (congrArg some (by kernel_rfl))
 t3:=Tryz.underlying3
 a3:=Tryz.isAgg3
 z3:=Tryz.sizeOf3
 v3:=Tryz.zeroValue3
 t4:=Tryz.underlying4
 a4:=Tryz.isAgg4
 z4:=Tryz.sizeOf4
 v4:=Tryz.zeroValue4
 t5:=Tryz.underlying5
 a5:=Tryz.isAgg5
 z5:=Tryz.sizeOf5
 v5:=Tryz.zeroValue5
 t9:=Tryz.underlying9
 a9:=Tryz.isAgg9
 z9:=Tryz.sizeOf9
 v9:=Tryz.zeroValue9
 t46:=Tryz.underlying62
 a46:=Tryz.isAgg62
 z46:=Tryz.sizeOf62
 v46:=Tryz.zeroValue62
 t51:=Tryz.underlying127
 a51:=Tryz.isAgg127
 z51:=Tryz.sizeOf127
 v51:=Tryz.zeroValue127
 t146:=Tryz.underlying143
 a146:=Tryz.isAgg143
 z146:=Tryz.sizeOf143
 v146:=Tryz.zeroValue143
 g1:=by kernel_rfl}
open Go.RowKit Go.Lib in
theorem Tryz.strings_Index_one(s:ByteArray)(c:UInt8)(w:World):
 Calls Tryz.prog 77 #[.string s,.string ⟨#[c]⟩] w fun e w'=>e=.returned (.int .i64 (Lib.indexByte s.data.toList c))∧w'=w:=Any.strings_Index_one Tryz.lays143 s c w
def Tryz.lays144_ren:Go.Shelf.Ren:=⟨fun|144=>56|143=>77|219=>95|217=>112|225=>113|224=>114|267=>115|266=>125|314=>126|n=>n,fun|9=>9|4=>4|3=>3|5=>5|46=>62|146=>143|51=>127|n=>n,fun|1=>3|n=>n⟩
theorem Tryz.lays144:Go.Proofs.Lays.n144 Tryz.prog Tryz.lays144_ren:={
 mixed:=by kernel_rfl
 f143:=Tryz.func77.trans (congrArg some (by kernel_rfl))
 f144:=Tryz.func56.trans (congrArg some (by kernel_rfl))
 f217:=Tryz.func112.trans (congrArg some (by kernel_rfl))
 f219:=Tryz.func95.trans (congrArg some (by kernel_rfl))
 f224:=Tryz.func114.trans (congrArg some (by kernel_rfl))
 f225:=Tryz.func113.trans (congrArg some (by kernel_rfl))
 f266:=Tryz.func125.trans (congrArg some (by kernel_rfl))
 f267:=Tryz.func115.trans (congrArg some (by kernel_rfl))
 f314:=Tryz.func126.trans (congrArg some (by kernel_rfl))
 t3:=Tryz.underlying3
 a3:=Tryz.isAgg3
 z3:=Tryz.sizeOf3
 v3:=Tryz.zeroValue3
 t4:=Tryz.underlying4
 a4:=Tryz.isAgg4
 z4:=Tryz.sizeOf4
 v4:=Tryz.zeroValue4
 t5:=Tryz.underlying5
 a5:=Tryz.isAgg5
 z5:=Tryz.sizeOf5
 v5:=Tryz.zeroValue5
 t9:=Tryz.underlying9
 a9:=Tryz.isAgg9
 z9:=Tryz.sizeOf9
 v9:=Tryz.zeroValue9
 t46:=Tryz.underlying62
 a46:=Tryz.isAgg62
 z46:=Tryz.sizeOf62
 v46:=Tryz.zeroValue62
 t51:=Tryz.underlying127
 a51:=Tryz.isAgg127
 z51:=Tryz.sizeOf127
 v51:=Tryz.zeroValue127
 t146:=Tryz.underlying143
 a146:=Tryz.isAgg143
 z146:=Tryz.sizeOf143
 v146:=Tryz.zeroValue143
 g1:=by kernel_rfl}
open Go.RowKit Go.Lib in
theorem Tryz.strings_Contains(s sub:ByteArray)(m:Int)(w:World)(hs:s.size<4294967281)(hm:w.cell? ⟨3,0,none⟩=some (.int .i64 m)):
 Calls Tryz.prog 56 #[.string s,.string sub] w fun e w'=>e=.returned (.bool (Lib.contains s.data.toList sub.data.toList))∧w'=w:=Any.strings_Contains Tryz.lays144 s sub m w hs hm
def Tryz.lays101_ren:Go.Shelf.Ren:=⟨fun|101=>174|208=>180|206=>183|n=>n,fun|9=>9|4=>4|3=>3|n=>n,fun|n=>n⟩
theorem Tryz.lays101:Go.Proofs.Lays.n101 Tryz.prog Tryz.lays101_ren:={
 mixed:=by kernel_rfl
 f101:=Tryz.func174.trans (congrArg some (by kernel_rfl))
 f206:=Tryz.func183.trans (congrArg some (by kernel_rfl))
 f208:=Tryz.func180.trans (congrArg some (by kernel_rfl))
 t3:=Tryz.underlying3
 a3:=Tryz.isAgg3
 z3:=Tryz.sizeOf3
 v3:=Tryz.zeroValue3
 t4:=Tryz.underlying4
 a4:=Tryz.isAgg4
 z4:=Tryz.sizeOf4
 v4:=Tryz.zeroValue4
 t9:=Tryz.underlying9
 a9:=Tryz.isAgg9
 z9:=Tryz.sizeOf9
 v9:=Tryz.zeroValue9}
open Go.RowKit Go.Lib in
theorem Tryz.strings_TrimPrefix(s p:ByteArray)(w:World):
 Calls Tryz.prog 174 #[.string s,.string p] w fun e w'=>e=.returned (.string ⟨(Lib.trimPrefix s.data.toList p.data.toList).toArray⟩)∧w'=w:=Any.strings_TrimPrefix Tryz.lays101 s p w
def Tryz.lays226_ren:Go.Shelf.Ren:=⟨fun|226=>170|n=>n,fun|3=>3|4=>4|n=>n,fun|n=>n⟩
theorem Tryz.lays226:Go.Proofs.Lays.n226 Tryz.prog Tryz.lays226_ren:={
 mixed:=by kernel_rfl
 f226:=Tryz.func170.trans (congrArg some (by kernel_rfl))
 t3:=Tryz.underlying3
 a3:=Tryz.isAgg3
 z3:=Tryz.sizeOf3
 v3:=Tryz.zeroValue3
 t4:=Tryz.underlying4
 a4:=Tryz.isAgg4
 z4:=Tryz.sizeOf4
 v4:=Tryz.zeroValue4}
open Go.RowKit Go.Lib in
theorem Tryz.strings_shouldUseASCIISet(n:Int)(w:World):
 Calls Tryz.prog 170 #[.int .i64 n] w fun e w'=>e=.returned (.bool (decide (8<n)))∧w'=w:=Any.strings_shouldUseASCIISet Tryz.lays226 n w
def Tryz.lays153_ren:Go.Shelf.Ren:=⟨fun|153=>161|152=>169|226=>170|227=>171|228=>172|137=>178|119=>179|224=>114|225=>113|217=>112|266=>125|n=>n,fun|9=>9|3=>3|4=>4|5=>5|21=>21|117=>184|116=>183|0=>0|46=>62|124=>192|n=>n,fun|n=>n⟩
theorem Tryz.lays153:Go.Proofs.Lays.n153 Tryz.prog Tryz.lays153_ren:={
 mixed:=by kernel_rfl
 f119:=Tryz.func179.trans (congrArg some (by kernel_rfl))
 f137:=Tryz.func178.trans (congrArg some (by kernel_rfl))
 f152:=Tryz.func169.trans (congrArg some (by kernel_rfl))
 f153:=Tryz.func161.trans (congrArg some (by kernel_rfl))
 f217:=Tryz.func112.trans (congrArg some (by kernel_rfl))
 f224:=Tryz.func114.trans (congrArg some (by kernel_rfl))
 f225:=Tryz.func113.trans (congrArg some (by kernel_rfl))
 f226:=Tryz.func170.trans (congrArg some (by kernel_rfl))
 f227:=Tryz.func171.trans (congrArg some (by kernel_rfl))
 f228:=Tryz.func172.trans (congrArg some (by kernel_rfl))
 f266:=Tryz.func125.trans (congrArg some (by kernel_rfl))
 t0:=Tryz.underlying0
 a0:=Tryz.isAgg0
 z0:=Tryz.sizeOf0
 v0:=Tryz.zeroValue0
 t3:=Tryz.underlying3
 a3:=Tryz.isAgg3
 z3:=Tryz.sizeOf3
 v3:=Tryz.zeroValue3
 t4:=Tryz.underlying4
 a4:=Tryz.isAgg4
 z4:=Tryz.sizeOf4
 v4:=Tryz.zeroValue4
 t5:=Tryz.underlying5
 a5:=Tryz.isAgg5
 z5:=Tryz.sizeOf5
 v5:=Tryz.zeroValue5
 t9:=Tryz.underlying9
 a9:=Tryz.isAgg9
 z9:=Tryz.sizeOf9
 v9:=Tryz.zeroValue9
 t21:=Tryz.underlying21
 a21:=Tryz.isAgg21
 z21:=Tryz.sizeOf21
 v21:=Tryz.zeroValue21
 t46:=Tryz.underlying62
 a46:=Tryz.isAgg62
 z46:=Tryz.sizeOf62
 v46:=Tryz.zeroValue62
 t116:=Tryz.underlying183
 a116:=Tryz.isAgg183
 z116:=Tryz.sizeOf183
 t117:=Tryz.underlying184
 a117:=Tryz.isAgg184
 z117:=Tryz.sizeOf184
 v117:=Tryz.zeroValue184
 t124:=Tryz.underlying192
 a124:=Tryz.isAgg192
 z124:=Tryz.sizeOf192
 v124:=Tryz.zeroValue192}
def Tryz.lays227_ren:Go.Shelf.Ren:=⟨fun|227=>171|n=>n,fun|9=>9|116=>183|4=>4|0=>0|3=>3|5=>5|n=>n,fun|n=>n⟩
theorem Tryz.lays227:Go.Proofs.Lays.n227 Tryz.prog Tryz.lays227_ren:={
 mixed:=by kernel_rfl
 f227:=Tryz.func171.trans (congrArg some (by kernel_rfl))
 t0:=Tryz.underlying0
 a0:=Tryz.isAgg0
 z0:=Tryz.sizeOf0
 v0:=Tryz.zeroValue0
 t3:=Tryz.underlying3
 a3:=Tryz.isAgg3
 z3:=Tryz.sizeOf3
 v3:=Tryz.zeroValue3
 t4:=Tryz.underlying4
 a4:=Tryz.isAgg4
 z4:=Tryz.sizeOf4
 v4:=Tryz.zeroValue4
 t5:=Tryz.underlying5
 a5:=Tryz.isAgg5
 z5:=Tryz.sizeOf5
 v5:=Tryz.zeroValue5
 t9:=Tryz.underlying9
 a9:=Tryz.isAgg9
 z9:=Tryz.sizeOf9
 v9:=Tryz.zeroValue9
 t116:=Tryz.underlying183
 a116:=Tryz.isAgg183
 z116:=Tryz.sizeOf183}
open Go.RowKit Go.Lib in
theorem Tryz.strings_makeASCIISet(hv116:∀w,(zeroValue 183).run Tryz.prog w=.ok (.agg (Array.replicate 256 (.bool false))) w)(chars:ByteArray)(w:World)(hs:chars.size<4294967281)(hascii:∀(j:Nat)b,chars.data.toList[j]?=some b→b.toNat<128):
 Calls Tryz.prog 171 #[.string chars] w fun e w'=>e=.returned (.tuple #[.agg (Lib.setCells chars.data.toList),.bool true])∧w'=w.alloc (.cells (Lib.setCells chars.data.toList) 183):=Any.strings_makeASCIISet Tryz.lays227 hv116 (by kernel_rfl) chars w hs hascii
def Tryz.lays228_ren:Go.Shelf.Ren:=⟨fun|228=>172|n=>n,fun|124=>192|5=>5|4=>4|0=>0|116=>183|n=>n,fun|n=>n⟩
theorem Tryz.lays228:Go.Proofs.Lays.n228 Tryz.prog Tryz.lays228_ren:={
 mixed:=by kernel_rfl
 f228:=Tryz.func172.trans (congrArg some (by kernel_rfl))
 t0:=Tryz.underlying0
 a0:=Tryz.isAgg0
 z0:=Tryz.sizeOf0
 v0:=Tryz.zeroValue0
 t4:=Tryz.underlying4
 a4:=Tryz.isAgg4
 z4:=Tryz.sizeOf4
 v4:=Tryz.zeroValue4
 t5:=Tryz.underlying5
 a5:=Tryz.isAgg5
 z5:=Tryz.sizeOf5
 v5:=Tryz.zeroValue5
 t116:=Tryz.underlying183
 a116:=Tryz.isAgg183
 z116:=Tryz.sizeOf183
 t124:=Tryz.underlying192
 a124:=Tryz.isAgg192
 z124:=Tryz.sizeOf192
 v124:=Tryz.zeroValue192}
open Go.RowKit Go.Lib in
theorem Tryz.asciiSet_contains(b:Nat)(x:UInt8)(v:Bool)(w:World)(hc:w.cell? ⟨b,x.toNat,none⟩=some (.bool v)):
 Calls Tryz.prog 172 #[.pointer (some ⟨b,0,none⟩),.int .u8 x.toNat] w fun e w'=>e=.returned (.bool v)∧w'=w:=Any.asciiSet_contains Tryz.lays228 b x v w hc
open Go.RowKit Go.Lib in
theorem Tryz.strings_IndexAny_long(hv116:∀w,(zeroValue 183).run Tryz.prog w=.ok (.agg (Array.replicate 256 (.bool false))) w)(s chars:ByteArray)(w:World)(h2:2≤chars.size)(h8:8<s.size)(hs:s.size<4294967281)(hcs:chars.size<4294967281)(hascii:∀(j:Nat)b,chars.data.toList[j]?=some b→b.toNat<128):
 Calls Tryz.prog 161 #[.string s,.string chars] w fun e w'=>e=.returned (.int .i64 (Lib.indexAny s.data.toList chars.data.toList))∧w'=((w.alloc (.cells (Lib.setCells chars.data.toList) 183)).alloc (.cells (Lib.setCells chars.data.toList) 183)):=Any.strings_IndexAny_long Tryz.lays153 hv116 (by kernel_rfl) s chars w h2 h8 hs hcs hascii
def Tryz.lays167_ren:Go.Shelf.Ren:=⟨fun|167=>73|240=>66|276=>82|n=>n,fun|0=>0|4=>4|5=>5|9=>9|20=>20|37=>47|70=>46|72=>49|75=>69|80=>52|164=>99|n=>n,fun|n=>n⟩
theorem Tryz.lays167:Go.Proofs.Lays.n167 Tryz.prog Tryz.lays167_ren:={
 mixed:=by kernel_rfl
 f167:=Tryz.func73.trans (congrArg some (by kernel_rfl))
 f240:=Tryz.func66.trans (congrArg some (by kernel_rfl))
 f276:=Tryz.func82.trans (congrArg some (by kernel_rfl))
 t0:=Tryz.underlying0
 a0:=Tryz.isAgg0
 z0:=Tryz.sizeOf0
 v0:=Tryz.zeroValue0
 t4:=Tryz.underlying4
 a4:=Tryz.isAgg4
 z4:=Tryz.sizeOf4
 v4:=Tryz.zeroValue4
 t5:=Tryz.underlying5
 a5:=Tryz.isAgg5
 z5:=Tryz.sizeOf5
 v5:=Tryz.zeroValue5
 t9:=Tryz.underlying9
 a9:=Tryz.isAgg9
 z9:=Tryz.sizeOf9
 v9:=Tryz.zeroValue9
 t20:=Tryz.underlying20
 a20:=Tryz.isAgg20
 z20:=Tryz.sizeOf20
 v20:=Tryz.zeroValue20
 t37:=Tryz.underlying47
 a37:=Tryz.isAgg47
 z37:=Tryz.sizeOf47
 v37:=Tryz.zeroValue47
 t70:=Tryz.underlying46
 a70:=Tryz.isAgg46
 z70:=Tryz.sizeOf46
 v70:=Tryz.zeroValue46
 t72:=Tryz.underlying49
 a72:=Tryz.isAgg49
 z72:=Tryz.sizeOf49
 v72:=Tryz.zeroValue49
 t75:=Tryz.underlying69
 a75:=Tryz.isAgg69
 z75:=Tryz.sizeOf69
 v75:=Tryz.zeroValue69
 t164:=Tryz.underlying99
 a164:=Tryz.isAgg99
 z164:=Tryz.sizeOf99
 v164:=Tryz.zeroValue99}
theorem Tryz.Builder_Extra_167:Builder.Extra Tryz.prog Tryz.lays167_ren:={
 sizeBuilder:=by kernel_rfl
 liesBuilder:=by kernel_rfl
 t5:=Tryz.underlying5
 a5:=Tryz.isAgg5
 z5:=Tryz.sizeOf5
 v5:=Tryz.zeroValue5
 infoByte:=by kernel_rfl
 cellsByte:=by kernel_rfl
 sizeByte:=by kernel_rfl
 neB5:=by decide}
open Go.RowKit Go.Lib in
theorem Tryz.strings_Trim_laid(s cutset:ByteArray)(w:World)(hs:s.size≤9223372036854775807)(hcs:cutset.size<4294967281)(hascii:∀(j:Nat)b,cutset.data.toList[j]?=some b→b.toNat<128):
 Calls Tryz.prog 186 #[.string s,.string cutset] w fun e w'=>e=.returned (.string ⟨(Lib.trimS s.data.toList cutset.data.toList).toArray⟩)∧Below w.heap.size w w':=Any.strings_Trim_laid Tryz.lays160 (by kernel_rfl) s cutset w hs hcs hascii
end Go.Proofs
namespace Go.Proofs.YtbbeciofgnkggaaGreatDoor.lin
open Go.RowKit
def trim(s:ByteArray):ByteArray:=⟨(Lib.trimS s.data.toList [32,9]).toArray⟩
theorem dropWhile_len{α:Type}(p:α→Bool)(l:List α):(l.dropWhile p).length≤l.length:=(List.dropWhile_suffix p).length_le
theorem trim_size(s:ByteArray):(trim s).size≤s.size:=by
 unfold trim
 show(Lib.trimS s.data.toList [32,9]).toArray.size≤s.data.size
 have h:(Lib.trimS s.data.toList [32,9]).length≤s.data.toList.length:=by
  unfold Lib.trimS Lib.trimRightS Lib.trimLeftS
  refine Nat.le_trans (dropWhile_len _ _) ?_
  rw[List.length_reverse]
  refine Nat.le_trans (dropWhile_len _ _) ?_
  rw[List.length_reverse]
  exact Nat.le_refl _
 simpa using h
theorem clone_any(s:ByteArray)(w:World)(hs:s.size≤281474976710656):
  Calls Tryz.prog 185 #[.string s] w fun e w'=>e=.returned (.string s)∧Below w.heap.size w w':=by
 have CL:=Tryz.stringslite_Clone s w hs
 go_enter Tryz.func185,Tryz.ntmps185
 go_wp2_with(go_at_call 187;refine CL.mono ?_;rintro e w'⟨rfl,hb⟩)
 go_ret
 exact⟨rfl,by assumption⟩
theorem trimmed_any(s:ByteArray)(w:World)(hs:s.size≤281474976710656):
  Calls Tryz.prog 182 #[.string s] w fun e w'=>e=.returned (.string (trim s))∧Below w.heap.size w w':=by
 have TR:=Tryz.strings_Trim_laid s ⟨#[32,9]⟩ w (by omega) (by decide) (ascii_of_all (by decide))
 have TR2:Calls Tryz.prog 186 #[.string s,.string ⟨#[32,9]⟩] w fun e w'=>e=.returned (.string (trim s))∧Below w.heap.size w w':=TR
 have hts:=trim_size s
 clear TR
 generalize trim s=t at*
 go_enter Tryz.func182,Tryz.ntmps182
 go_wp2_with fail
 refine TR2.mono ?_
 rintro e w1⟨rfl,hb1⟩
 go_wp2_with fail
 refine(clone_any t w1 (by omega)).mono ?_
 rintro e w2⟨rfl,hb2⟩
 have hb:=hb1.trans (hb2.mono hb1.size)
 clear TR2 hb1 hb2
 go_wp2
 go_ret
 exact⟨rfl,hb⟩
end Go.Proofs.YtbbeciofgnkggaaGreatDoor.lin
