import Derived.Test.YtbbeciofgnkggaaGreatDoorBqTre18
import Derived.Test.YtbbeciofgnkggaaGreatDoorBqNod1
set_option linter.unusedSimpArgs false
set_option linter.unusedVariables false
set_option maxRecDepth 100000
set_option maxHeartbeats 4000000
namespace Go.Proofs.YtbbeciofgnkggaaGreatDoor.tre
open Go.RowKit nod tok
open rng(R RV ret_int ret_bool info_parts own_below')
abbrev PrtC(M:Nat)(D:DP)(T:Nd→List UInt8):Prop:=∀(t:Nd)(v:Value)(B:Nat)(w:World)(d:Int),t.sz≤M→t.sz≤60000→shortN t→NV B w t v→B≤w.heap.size→OkD D t d→Calls Tryz.prog 14 #[v] w fun e w'=>e=.returned (.string (S8 (T t)))∧Below w.heap.size w w'
theorem cap_max{x:Nat}(h:x≤nodeB*60000):x≤8888888888888888888:=by
 have h4:nodeB*60000=8444249301320820000:=rfl
 rw[h4]at h
 exact Nat.le_trans h (by decide)
theorem seq_t{N:Nat}(hp:PrtC N (partD N) (partT N)):PrtC (N+1) (seqD (partD N)) (seqT (partT N)):=by
 intro t v B w d hz hz2 hs hv hB⟨c,c',hc,e⟩
 obtain⟨_,hk6,hall⟩:=seq_ok (g_part N) e hc
 obtain⟨k,m,a,b,g,n,s,ks,ta,tc,ka,kc,rfl,rfl,_,_,_,hk1,hk2,hk3,hkv⟩:=hv.open
 rw[shortN]at hs
 rw[Nd.sz]at hz hz2
 have hk2':kc≤9223372036854775807:=hk2
 obtain rfl:k=6:=hk6
 have hl:=flat_le (F:=partT N) ks (fun x hx=>part_le N x d (hall x hx) (short_mem hs.2 hx))
 have hl2:=cap_max (Nat.le_trans hl (Nat.mul_le_mul_left _ (by omega)))
 exact pt_6 m a b g n ta s.length tc ka ks.length kc ks B w (partT N) rfl (by omega) hk1 hkv hB (by omega) (fun t v W hm hv hB=>hp t v B W d (by have:=szL_mem hm;omega) (by have:=szL_mem hm;omega) (short_mem hs.2 hm) hv hB (hall t hm))
theorem body_t{N:Nat}(hp:PrtC N (partD N) (partT N)):PrtC (N+1) (bodyD (partD N)) (bodyT (partT N)):=by
 intro t v B w d hz hz2 hs hv hB hok
 have hlen:=body_le (part_le N) t d hok hs
 have hmx:nodeB*t.sz≤nodeB*60000:=Nat.mul_le_mul_left _ hz2
 have hseq:=seq_t hp
 obtain⟨c,c',hc,e⟩:=hok
 rcases(body_ok (g_part N) e hc).2 with⟨k6,hall⟩|⟨k7,hall⟩
 ·have e6:bodyT (partT N) t=seqT (partT N) t:=by unfold bodyT;rw[if_pos k6]
  rw[e6]
  have e:seqD (partD N) t c d=some c':=by unfold bodyD at e;rw[if_pos k6]at e;exact e
  exact hseq t v B w d hz hz2 hs hv hB ⟨c,c',hc,e⟩
 ·have e7:bodyT (partT N) t=barT (seqT (partT N)) t.kids:=by rw[body_bar,if_neg (by rw[k7];decide)]
  rw[e7]at hlen⊢
  obtain⟨k,m,a,b,g,n,s,ks,ta,tc,ka,kc,rfl,rfl,_,_,_,hk1,hk2,hk3,hkv⟩:=hv.open
  rw[shortN]at hs
  rw[Nd.sz]at hz hz2
  have hk2':kc≤9223372036854775807:=hk2
  obtain rfl:k=7:=k7
  have hl2:=cap_max (x:=(barT (seqT (partT N)) ks).length) (Nat.le_trans (Nat.le_trans (Nat.le_add_right _ _) hlen) hmx)
  exact pt_7 m a b g n ta s.length tc ka ks.length kc ks B w (seqT (partT N)) rfl (by omega) hk1 hkv hB (by omega) (fun t v W hm hv hB=>hseq t v B W d (by have:=szL_mem hm;omega) (by have:=szL_mem hm;omega) (short_mem hs.2 hm) hv hB (hall t hm))
theorem encl_s8(op:ByteArray)(L:List UInt8):S8 (op.data.toList++L++[41])=(op++S8 L)++⟨#[41]⟩:=by
 rw[←s8_app,←s8_app,s8_of];rfl
theorem insT_fuel:∀(N:Nat)(t:Nd),t.sz≤N+1→insT N t=insT (N+1) t
 |0,.mk k m a b g n s ks,h=>by
  rw[Nd.sz]at h
  obtain rfl:=szL_nil (ks:=ks) (by omega)
  show[]=(if m=0 then _ else _)
  by_cases h1:m=0
  ·rw[if_pos h1];rfl
  ·rw[if_neg h1];rfl
 |N+1,.mk k m a b g n s ks,h=>by
  rw[Nd.sz]at h
  have each:∀x,x∈ks→insT N x=insT (N+1) x:=fun x hx=>insT_fuel N x (by have:=szL_mem hx;omega)
  show(if m=0 then ks.flatMap (memT (insT N))else _)=(if m=0 then ks.flatMap (memT (insT (N+1)))else _)
  by_cases h1:m=0
  ·rw[if_pos h1,if_pos h1]
   have e:∀l:List Nd,(∀x∈l,insT N x=insT (N+1) x)→l.flatMap (memT (insT N))=l.flatMap (memT (insT (N+1))):=fun l=>by
    induction l with
    |nil=>intro _;rfl
    |cons x xs ih=>
     intro hl
     have ex:memT (insT N) x=memT (insT (N+1)) x:=by unfold memT;rw[hl x (by simp)]
     rw[List.flatMap_cons,List.flatMap_cons,ex,ih (fun y hy=>hl y (by simp[hy]))]
   exact e ks each
  ·rw[if_neg h1,if_neg h1]
   match ks,each with
   |[],_=>rfl
   |[x],_=>rfl
   |[l,r],each=>
    show insT N l++(_++insT N r)=insT (N+1) l++(_++insT (N+1) r)
    rw[each l (by simp),each r (by simp)]
   |_::_::_::_,_=>rfl
theorem mode_at(mn:Nat)(h:mn≤2):(#[.string ⟨#[]⟩,.string ⟨#[63]⟩,.string ⟨#[43]⟩]:Array Value)[mn]?=some (.string (textP (mn:Int) modeTexts)):=by
 have:mn=0∨mn=1∨mn=2:=by omega
 rcases this with rfl|rfl|rfl<;>rfl
theorem asrt_at(mn:Nat)(h:mn≤10):(#[.string ⟨#[]⟩,.string ⟨#[94]⟩,.string ⟨#[36]⟩,.string ⟨#[92,65]⟩,.string ⟨#[92,122]⟩,.string ⟨#[92,98]⟩,.string ⟨#[92,66]⟩,.string ⟨#[92,98,123,103,125]⟩,.string ⟨#[92,66,123,103,125]⟩,.string ⟨#[92,98,123,119,125]⟩,.string ⟨#[92,66,123,119,125]⟩]:Array Value)[mn]?=some (.string (textP (mn:Int) asrtTexts)):=by
 have:mn=0∨mn=1∨mn=2∨mn=3∨mn=4∨mn=5∨mn=6∨mn=7∨mn=8∨mn=9∨mn=10:=by omega
 rcases this with rfl|rfl|rfl|rfl|rfl|rfl|rfl|rfl|rfl|rfl|rfl<;>rfl
theorem print_t:∀N:Nat,PrtC N (partD N) (partT N)
 |0=>by intro t v B w d hz;cases t;rw[Nd.sz]at hz;omega
 |N+1=>by
  have ih:=print_t N
  have hbt:=body_t ih
  intro t v B w d hz hz2 hs hv hB⟨c,c',hc,e⟩
  obtain⟨_,h⟩:=part_ok (g_part N) e hc
  obtain⟨k,m,a,b,g,n,s,ks,ta,tc,ka,kc,rfl,rfl,_,_,_,hk1,hk2,hk3,hkv⟩:=hv.open
  have hs':=hs
  have hz':=hz
  have hz2':=hz2
  rw[shortN]at hs
  rw[Nd.sz]at hz hz2
  have hk2':kc≤9223372036854775807:=hk2
  have kid:∀x,ks=[x]→OkD (bodyD (partD N)) x (d+1)→∃kb ko c0 c1 c2 c3 c4 c5 c6 c7,ka=some ⟨kb,ko,none⟩∧At8 w kb ko (.agg #[c0,c1,c2,c3,c4,c5,c6,c7])∧kb<w.heap.size∧(bodyT (partT N) x).length≤8888888888888888888∧∀W,Below w.heap.size w W→Calls Tryz.prog 14 #[.agg #[c0,c1,c2,c3,c4,c5,c6,c7]] W fun e w'=>e=.returned (.string (S8 (bodyT (partT N) x)))∧Below W.heap.size W w':=by
   rintro x rfl ho
   obtain⟨kb,ko,rfl,hka⟩:=hkv.some (by simp)
   obtain⟨vx,ax,nx⟩:=hka.2 0 x rfl
   rw[Nat.zero_mul,Nat.add_zero]at ax
   have ex:szL [x]=x.sz:=by rw[szL,szL];omega
   rw[ex]at hz hz2
   have sx:shortN x:=short_mem hs.2 (by simp)
   have hl:=body_le (part_le N) x (d+1) ho sx
   have hmx:nodeB*x.sz≤nodeB*60000:=Nat.mul_le_mul_left _ (by omega)
   have hkb:kb<w.heap.size:=Nat.lt_of_lt_of_le hka.1 hB
   have CX:∀W,Below w.heap.size w W→Calls Tryz.prog 14 #[vx] W fun e w'=>e=.returned (.string (S8 (bodyT (partT N) x)))∧Below W.heap.size W w':=fun W h=>hbt x vx B W (d+1) (by omega) (by omega) sx (nx.keep (below_less h hB)) (Nat.le_trans hB h.size) ho
   obtain⟨c0,c1,c2,c3,c4,c5,c6,c7,rfl,hcs⟩:=ax
   exact⟨kb,ko,c0,c1,c2,c3,c4,c5,c6,c7,rfl,⟨c0,c1,c2,c3,c4,c5,c6,c7,rfl,hcs⟩,hkb,cap_max (Nat.le_trans (Nat.le_trans (Nat.le_add_right _ _) hl) hmx),CX⟩
  have ba:∀k m,Below w.heap.size w (w.alloc (.cells (n8 k m a b g n ta s.length tc ka ks.length kc) 25)):=fun k m=>(Below.refl _ w).alloc (Nat.le_refl _) _
  rcases h with k1|k2|⟨k3,hi⟩|⟨k5,hp⟩|⟨k8,x,hx,h0,h2,ht,ho⟩|⟨k9,ha,x,hx,ho⟩|⟨k10,h0,h3,x,hx,ho⟩|⟨k11,x,hx,ho⟩|⟨k12,m1,m2⟩|⟨k13,a1,a2⟩|k14
  ·obtain rfl:k=1:=k1
   have e:S8 (partT (N+1) (.mk 1 m a b g n s ks))=TX (printL a false):=s8_of _
   rw[e]
   exact pt_1 m a b g n ta s.length tc ka ks.length kc w
  ·obtain rfl:k=2:=k2
   exact pt_2 m a b g n ta s.length tc ka ks.length kc w
  ·obtain rfl:k=3:=k3
   refine pt_3 m a b g n ta s.length tc ka ks.length kc w _ ?_
   have hi2:insD (N+1) (.mk 3 m a b g n s ks) (d+1)=true:=by rw[←ins_fuel N _ _ hz'];exact hi
   have C:=class_t (N+1) _ _ B _ (d+1) false hz' hz2' hs' (hv.keep (below_less (ba 3 m) hB)) (Nat.le_trans hB (ba 3 m).size) hi2
   have ep:S8 (partT (N+1) (.mk 3 m a b g n s ks))=S8 ((openC g).data.toList++insT (N+1) (.mk 3 m a b g n s ks)++[93]):=by
    rw[←insT_fuel N _ hz'];rfl
   rw[ep]
   exact C
  ·obtain rfl:k=5:=k5
   have e:S8 (partT (N+1) (.mk 5 m a b g n s ks))=propT n g:=s8_of _
   rw[e]
   exact pt_5 m a b g n ta s.length tc ka ks.length kc w hp hs.1
  ·obtain rfl:k=8:=k8
   obtain rfl:ks=[x]:=hx
   have h0':0≤m:=h0
   have h2':m≤2:=h2
   have ht':timesB a b=true:=ht
   obtain⟨mn,rfl⟩:∃mn:Nat,m=mn:=⟨m.toNat,by omega⟩
   refine pt_8 _ a b g n ta s.length tc ka 1 kc w _ ?_
   obtain⟨kb,ko,rfl,hka⟩:=hkv.some (by simp)
   obtain⟨vx,ax,nx⟩:=hka.2 0 x rfl
   rw[Nat.zero_mul,Nat.add_zero]at ax
   have ex:szL [x]=x.sz:=by rw[szL,szL];omega
   rw[ex]at hz hz2
   have sx:shortN x:=short_mem hs.2 (by simp)
   have hl:=part_le N x d ho sx
   have hmx:nodeB*x.sz≤nodeB*60000:=Nat.mul_le_mul_left _ (by omega)
   have hl2:=cap_max (Nat.le_trans hl hmx)
   have hkb:kb<w.heap.size:=Nat.lt_of_lt_of_le hka.1 hB
   have b8:=ba 8 mn
   have CX:∀W,Below w.heap.size w W→Calls Tryz.prog 14 #[vx] W fun e w'=>e=.returned (.string (S8 (partT N x)))∧Below W.heap.size W w':=fun W h=>ih x vx B W d (by omega) (by omega) sx (nx.keep (below_less h hB)) (Nat.le_trans hB h.size) ho
   obtain⟨c0,c1,c2,c3,c4,c5,c6,c7,rfl,hcs⟩:=ax
   have ax:At8 w kb ko (.agg #[c0,c1,c2,c3,c4,c5,c6,c7]):=⟨c0,c1,c2,c3,c4,c5,c6,c7,rfl,hcs⟩
   exact rp_t a b mn g n ta s.length tc kb ko kc c0 c1 c2 c3 c4 c5 c6 c7 _ (partT N x) (textP (mn:Int) modeTexts) (by omega) hk1 (mode_at mn (by omega)) (by have:=text_le (m:=(mn:Int)) (l:=modeTexts) (n:=1) (by decide);rw[ba_len]at this;exact this) ht' (ax.below b8 hkb) (Nat.lt_of_lt_of_le hkb b8.size) (by omega) (fun W h=>CX W (b8.trans (below_less h b8.size)))
  ·obtain rfl:k=9:=k9
   obtain rfl:ks=[x]:=hx
   obtain⟨kb,ko,c0,c1,c2,c3,c4,c5,c6,c7,rfl,hA,hkb,hlen,CX⟩:=kid x rfl ho
   have e:S8 (partT (N+1) (.mk 9 m a b g n s [x]))=(openT (.mk 9 m a b g n s [x])++S8 (bodyT (partT N) x))++⟨#[41]⟩:=encl_s8 _ _
   rw[e]
   by_cases ha0:a=0
   ·subst ha0
    have hn0:n.size=0:=ha rfl
    have eo:openT (.mk 9 m 0 b g n s [x])=⟨#[40,63,58]⟩:=if_pos ⟨rfl,hn0⟩
    rw[eo]
    exact pt_9a m 0 b g n ta s.length tc kb ko kc c0 c1 c2 c3 c4 c5 c6 c7 w _ hk1 hA hkb hlen CX
   ·by_cases hn0:n.size=0
    ·obtain rfl:n=⟨#[]⟩:=sz_nil hn0
     have eo:openT (.mk 9 m a b g ⟨#[]⟩ s [x])=⟨#[40]⟩:=(if_neg (fun q=>ha0 q.1)).trans (if_pos rfl)
     rw[eo]
     exact pt_9b m a b g ⟨#[]⟩ ta s.length tc kb ko kc c0 c1 c2 c3 c4 c5 c6 c7 w _ hk1 ha0 hA hkb hlen CX
    ·have eo:openT (.mk 9 m a b g n s [x])=openN n:=(if_neg (fun q=>ha0 q.1)).trans (if_neg hn0)
     rw[eo]
     exact pt_9c m a b g n ta s.length tc kb ko kc c0 c1 c2 c3 c4 c5 c6 c7 w _ hk1 ha0 hn0 hs.1 hA hkb hlen CX
  ·obtain rfl:k=10:=k10
   obtain rfl:ks=[x]:=hx
   obtain⟨kb,ko,c0,c1,c2,c3,c4,c5,c6,c7,rfl,hA,hkb,hlen,CX⟩:=kid x rfl ho
   have h0':0≤m:=h0
   have h3':m≤3:=h3
   have e:S8 (partT (N+1) (.mk 10 m a b g n s [x]))=(textP m lookTexts++S8 (bodyT (partT N) x))++⟨#[41]⟩:=encl_s8 _ _
   rw[e]
   have hm:m=0∨m=1∨m=2∨m=3:=by omega
   rcases hm with rfl|rfl|rfl|rfl
   ·exact pt_10 a b 0 g n ta s.length tc kb ko kc c0 c1 c2 c3 c4 c5 c6 c7 w _ hk1 ⟨#[40,63,61]⟩ (by omega) rfl (by decide) hA hkb hlen CX
   ·exact pt_10 a b 1 g n ta s.length tc kb ko kc c0 c1 c2 c3 c4 c5 c6 c7 w _ hk1 ⟨#[40,63,33]⟩ (by omega) rfl (by decide) hA hkb hlen CX
   ·exact pt_10 a b 2 g n ta s.length tc kb ko kc c0 c1 c2 c3 c4 c5 c6 c7 w _ hk1 ⟨#[40,63,60,61]⟩ (by omega) rfl (by decide) hA hkb hlen CX
   ·exact pt_10 a b 3 g n ta s.length tc kb ko kc c0 c1 c2 c3 c4 c5 c6 c7 w _ hk1 ⟨#[40,63,60,33]⟩ (by omega) rfl (by decide) hA hkb hlen CX
  ·obtain rfl:k=11:=k11
   obtain rfl:ks=[x]:=hx
   obtain⟨kb,ko,c0,c1,c2,c3,c4,c5,c6,c7,rfl,hA,hkb,hlen,CX⟩:=kid x rfl ho
   have e:S8 (partT (N+1) (.mk 11 m a b g n s [x]))=(⟨#[40,63,62]⟩++S8 (bodyT (partT N) x))++⟨#[41]⟩:=encl_s8 _ _
   rw[e]
   exact pt_11 m a b g n ta s.length tc kb ko kc c0 c1 c2 c3 c4 c5 c6 c7 w _ hk1 hA hkb hlen CX
  ·obtain rfl:k=12:=k12
   have m1':1≤m:=m1
   have m2':m≤10:=m2
   obtain⟨mn,rfl⟩:∃mn:Nat,m=mn:=⟨m.toNat,by omega⟩
   have e:S8 (partT (N+1) (.mk 12 (mn:Int) a b g n s ks))=textP (mn:Int) asrtTexts:=s8_of _
   rw[e]
   exact pt_12 a b mn g n ta s.length tc ka ks.length kc w _ (by omega) (asrt_at mn (by omega))
  ·obtain rfl:k=13:=k13
   have e:S8 (partT (N+1) (.mk 13 m a b g n s ks))=backT a:=s8_of _
   rw[e]
   exact pt_13 m a b g n ta s.length tc ka ks.length kc w (by have:1≤a:=a1;omega) (by have:a≤20:=a2;omega)
  ·obtain rfl:k=14:=k14
   exact pt_14 m a b g n ta s.length tc ka ks.length kc w
end Go.Proofs.YtbbeciofgnkggaaGreatDoor.tre
namespace Go.Proofs.YtbbeciofgnkggaaGreatDoor.tre
open Go.RowKit nod tok
open rng(R RV ret_int ret_bool info_parts own_below')
def canD(N:Nat)(t:Nd):Bool:=(bodyD (partD N) t (0,[]) 0).isSome&&decide ((bodyT (partT N) t).length≤2000)
theorem rcan_d(N:Nat)(t:Nd)(v:Value)(B:Nat)(w:World)(hz:t.sz≤N+1)(hz2:t.sz≤60000)(hs:shortN t)(hv:NV B w t v)(hB:B≤w.heap.size):Calls Tryz.prog 10 #[v] w fun e w'=>e=.returned (.bool (canD N t))∧Below w.heap.size w w':=by
 have hvv:=hv
 obtain⟨k,m,a,b,g,n,s,ks,ta,tc,ka,kc,e1,rfl,_⟩:=hv.open
 obtain⟨tl,htl⟩:∃tl,s.length=tl:=⟨_,rfl⟩
 obtain⟨kl,hkl⟩:∃kl,ks.length=kl:=⟨_,rfl⟩
 rw[htl,hkl]at hvv⊢
 obtain⟨W0,hW0,HW0,b0,hX0⟩:=st0 w (n8 k m a b g n ta tl tc ka kl kc) 25
 have hz0:W0.heap.size=w.heap.size+1:=by rw[←hW0];exact Array.size_push ..
 obtain⟨W1,hW1⟩:∃W1,W0.alloc (.cells #[.int .i64 0,.slice none 0 0] 42)=W1:=⟨_,rfl⟩
 have HW1:Hid (W0.alloc (.cells #[.int .i64 0,.slice none 0 0] 42)=W1):=hW1
 have b1:Below W0.heap.size W0 W1:=by rw[←hW1];exact(Below.refl _ W0).alloc (Nat.le_refl _) _
 have k1:Bk W1 W0.heap.size #[.int .i64 0,.slice none 0 0] 42:=by rw[←hW1];exact Bk.new W0 _ _
 have HX1:Hid (Bk W1 w.heap.size (n8 k m a b g n ta tl tc ka kl kc) 25):=hX0.on b1
 have HB1:Hid (Below w.heap.size w W1):=b0.trans (below_less b1 b0.size)
 obtain⟨base,hbase⟩:∃x,W0.heap.size=x:=⟨_,rfl⟩
 have hbb:B≤base:=by omega
 have hb1:base≤W1.heap.size:=by rw[←hbase];exact b1.size
 have hv1:NV base W1 t (.agg (n8 k m a b g n ta tl tc ka kl kc)):=(hvv.keep (below_less HB1.out hB)).wide hbb
 rw[hbase]at k1
 have hck:CkAt base W1 base (0,[]):=⟨⟨.slice none 0 0,k1,⟨rfl,.inl ⟨rfl,rfl⟩⟩⟩,Int.le_refl _,by decide,by decide,Nat.le_refl _⟩
 have CB:=can_d base N t _ W1 base (0,[]) 0 hz hs hv1 hb1 (by omega) (by omega) hck
 have hpr:∀c' W,bodyD (partD N) t (0,[]) 0=some c'→Below base W1 W→Calls Tryz.prog 14 #[.agg (n8 k m a b g n ta tl tc ka kl kc)] W fun e w'=>e=.returned (.string (S8 (bodyT (partT N) t)))∧Below W.heap.size W w':=
  fun c' W e h=>body_t (print_t N) t _ base W 0 hz hz2 hs (hv1.keep h) (Nat.le_trans hb1 h.size) ⟨(0,[]),c',⟨by decide,by decide⟩,e⟩
 have HLT:Hid (w.heap.size<base):=by unfold Hid;omega
 have HBW:Hid (w.heap.size≤base):=by unfold Hid;omega
 have HSZ:Hid (W0.heap.size=base):=hbase
 obtain⟨RR,hRR⟩:∃RR,canD N t=RR:=⟨_,rfl⟩
 rw[hRR]
 have HRR:Hid (((bodyD (partD N) t (0,[]) 0).isSome&&decide ((bodyT (partT N) t).length≤2000))=RR):=hRR
 obtain⟨P,hP⟩:∃P,bodyD (partD N) t (0,[]) 0=P:=⟨_,rfl⟩
 rw[hP]at CB HRR hpr
 obtain⟨L,hL⟩:∃L,bodyT (partT N) t=L:=⟨_,rfl⟩
 rw[hL]at HRR hpr
 have HPR:Hid (∀c' W,P=some c'→Below base W1 W→Calls Tryz.prog 14 #[.agg (n8 k m a b g n ta tl tc ka kl kc)] W fun e w'=>e=.returned (.string (S8 L))∧Below W.heap.size W w'):=hpr
 have HK:Hid (Bk W1 base #[.int .i64 0,.slice none 0 0] 42):=k1
 clear hRR hP hL hpr hW0 hW1 b0 b1 k1 hX0 hz0 hv1 hvv hck hbb hb1 hbase hv hs htl hkl
 go_enter Tryz.func10,Tryz.ntmps10
 go_upto_region 1 with fail
 rw[HW0.out]
 go_upto_region 2 with fail
 rw[HW1.out]
 rw[HSZ.out]
 clear HW0 HW1 HSZ HK
 obtain⟨z0,z1,z2,z3,z4,z5,z6,z7⟩:=at8c HX1.out
 cases P with
 |none=>
  have HE:Hid (RR=false):=HRR.out.symm
  go_wp2_with fail
  refine CB.mono ?_
  rintro e w2⟨rfl,dd,_⟩
  have HB2:Hid (Below w.heap.size w w2):=HB1.out.trans (below_less dd HBW.out)
  clear CB dd z0 z1 z2 z3 z4 z5 z6 z7
  go_wp2
  go_ret
  exact⟨rt_bool HE.out.symm,HB2.out⟩
 |some c'=>
  have HE:Hid (RR=decide (L.length≤2000)):=HRR.out.symm.trans (Bool.true_and _)
  go_wp2_with fail
  refine CB.mono ?_
  rintro e w2⟨rfl,dd,_⟩
  have HB2:Hid (Below w.heap.size w w2):=HB1.out.trans (below_less dd HBW.out)
  have CC:=HPR.out c' w2 rfl dd
  obtain⟨z0,z1,z2,z3,z4,z5,z6,z7⟩:=at8c (HX1.out.keep dd HLT.out)
  clear CB dd
  go_wp2_with fail
  refine CC.mono ?_
  rintro e w3⟨rfl,dd⟩
  have HB3:Hid (Below w.heap.size w w3):=HB2.out.trans (below_less dd HB2.out.size)
  clear CC dd z0 z1 z2 z3 z4 z5 z6 z7
  go_wp2
  go_ret
  exact⟨rt_bool (by rw[HE.out,s8_sz];first|rfl|(rw[Bool.eq_iff_iff];simp;omega)),HB3.out⟩
theorem rprint_d(N:Nat)(t:Nd)(v:Value)(B:Nat)(w:World)(hz:t.sz≤N+1)(hz2:t.sz≤60000)(hs:shortN t)(hv:NV B w t v)(hB:B≤w.heap.size):Calls Tryz.prog 8 #[v] w fun e w'=>(e=if canD N t=true then .returned (.tuple #[.string (S8 (bodyT (partT N) t)),.int .i64 0])else .returned (.tuple #[.string ⟨#[]⟩,.int .i64 1]))∧Below w.heap.size w w':=by
 have hvv:=hv
 obtain⟨k,m,a,b,g,n,s,ks,ta,tc,ka,kc,e1,rfl,_⟩:=hv.open
 obtain⟨tl,htl⟩:∃tl,s.length=tl:=⟨_,rfl⟩
 obtain⟨kl,hkl⟩:∃kl,ks.length=kl:=⟨_,rfl⟩
 rw[htl,hkl]at hvv⊢
 obtain⟨W0,hW0,HW0,b0,HX0⟩:=st0 w (n8 k m a b g n ta tl tc ka kl kc) 25
 have HB0:Hid (Below w.heap.size w W0):=b0
 have hv0:NV B W0 t (.agg (n8 k m a b g n ta tl tc ka kl kc)):=hvv.keep (below_less b0 hB)
 have hB0:B≤W0.heap.size:=Nat.le_trans hB b0.size
 have CC:=rcan_d N t _ B W0 hz hz2 hs hv0 hB0
 have hpr:∀W,canD N t=true→Below W0.heap.size W0 W→Calls Tryz.prog 14 #[.agg (n8 k m a b g n ta tl tc ka kl kc)] W fun e w'=>e=.returned (.string (S8 (bodyT (partT N) t)))∧Below W.heap.size W w':=fun W hc h=>by
  unfold canD at hc
  rw[Bool.and_eq_true,Option.isSome_iff_exists]at hc
  obtain⟨⟨c',e⟩,_⟩:=hc
  exact body_t (print_t N) t _ B W 0 hz hz2 hs (hv0.keep (below_less h hB0)) (Nat.le_trans hB0 h.size) ⟨(0,[]),c',⟨by decide,by decide⟩,e⟩
 obtain⟨L,hL⟩:∃L,bodyT (partT N) t=L:=⟨_,rfl⟩
 obtain⟨R,hR⟩:∃R,canD N t=R:=⟨_,rfl⟩
 rw[hL]at hpr⊢
 rw[hR]at hpr CC⊢
 have HPR:Hid (∀W,R=true→Below W0.heap.size W0 W→Calls Tryz.prog 14 #[.agg (n8 k m a b g n ta tl tc ka kl kc)] W fun e w'=>e=.returned (.string (S8 L))∧Below W.heap.size W w'):=hpr
 clear hpr hL hR hW0 b0 hv0 hvv hB0 hv hs htl hkl
 cases R with
 |false=>
  rw[if_neg (by decide)]
  go_enter Tryz.func8,Tryz.ntmps8
  go_upto_region 1 with fail
  rw[HW0.out]
  clear HW0
  obtain⟨z0,z1,z2,z3,z4,z5,z6,z7⟩:=at8c HX0.out
  go_wp2_with fail
  refine CC.mono ?_
  rintro e w2⟨rfl,dd⟩
  have HB2:Hid (Below w.heap.size w w2):=HB0.out.trans (below_less dd HB0.out.size)
  clear CC dd z0 z1 z2 z3 z4 z5 z6 z7
  go_wp2
  go_ret2
  exact⟨rfl,HB2.out⟩
 |true=>
  rw[if_pos rfl]
  go_enter Tryz.func8,Tryz.ntmps8
  go_upto_region 1 with fail
  rw[HW0.out]
  clear HW0
  obtain⟨z0,z1,z2,z3,z4,z5,z6,z7⟩:=at8c HX0.out
  go_wp2_with fail
  refine CC.mono ?_
  rintro e w2⟨rfl,dd⟩
  have HB2:Hid (Below w.heap.size w w2):=HB0.out.trans (below_less dd HB0.out.size)
  have CP:=HPR.out w2 trivial dd
  have HX2:=HX0.out.on dd
  clear CC dd z0 z1 z2 z3 z4 z5 z6 z7
  obtain⟨z0,z1,z2,z3,z4,z5,z6,z7⟩:=at8c HX2
  clear HX2
  go_wp2_with fail
  refine CP.mono ?_
  rintro e w3⟨rfl,dd⟩
  have HB3:Hid (Below w.heap.size w w3):=HB2.out.trans (below_less dd HB2.out.size)
  clear CP dd z0 z1 z2 z3 z4 z5 z6 z7
  go_wp2
  go_ret2
  exact⟨rfl,HB3.out⟩
end Go.Proofs.YtbbeciofgnkggaaGreatDoor.tre
