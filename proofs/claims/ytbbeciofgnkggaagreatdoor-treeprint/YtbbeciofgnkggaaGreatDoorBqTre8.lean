import Derived.Test.YtbbeciofgnkggaaGreatDoorBqTre7
import Derived.Test.YtbbeciofgnkggaaGreatDoorBqNod1
import Derived.Deep.AppendLies
import Derived.Test.YtbbeciofgnkggaaGreatDoorBqTre5
import Derived.Test.YtbbeciofgnkggaaGreatDoorBqTre6
set_option linter.unusedSimpArgs false
set_option linter.unusedVariables false
set_option maxRecDepth 10000
set_option maxHeartbeats 2000000
namespace Go.Proofs.YtbbeciofgnkggaaGreatDoor.tre
open Go.RowKit nod
open rng(R RV ret_int ret_bool below_drewN info_parts own_below')
open tok(PEnv TX printL)
theorem group_n0{w0 W:World}{base g:Nat}{s:Wr}(c:Cx w0 W base g s)(k m b G:Int)(ng:Bool)(n:ByteArray)(sa:Option Addr)(sl sc:Nat)(ao:Option Addr)(nk cap:Nat)(hG:s.groups=G)(h20:G+1≤20)(hn:n.toList.isEmpty=false)(hns:n.size≤140737488355327)(hq:namedB (openN n) n=false):Met 44 #[.pointer (some ⟨g,0,none⟩),.agg (n8 k m (G+1) b ng n sa sl sc ao nk cap)] w0 W base g (none):=by
  have HS:=Sn.st c (n8 k m (G+1) b ng n sa sl sc ao nk cap)
  have gc:=HS.out.cx.c.wr.grpCell
  have hg0:=c.gd.g.g0
  have hg1:=c.gd.g.g1
  have hgs:=c.c.wr.lt
  have gf:=(show((W.alloc (.cells (n8 k m (G+1) b ng n sa sl sc ao nk cap) 25))).frozen? ⟨g,4,none⟩=false from by obtain⟨_,p,bv,nv,h1,_⟩:=HS.out.cx.c.wr;exact Lib.frozen_of_heap h1 4)
  rw[hG]at gc hg0 hg1
  have hw:IntKind.i64.wrap (G+1)=G+1:=by rw[IntKind.wrap_i64];omega
  have f0:((G+1)==0)=false:=by simp;omega
  have f0':¬G+1=0:=by omega
  have f2:decide (20<G+1)=false:=decide_eq_false (by omega)
  have HSG:Hid (∀nq,Sn w0 W base g W.heap.size (n8 k m (G+1) b ng n sa sl sc ao nk cap) s.grp (((W.alloc (.cells (n8 k m (G+1) b ng n sa sl sc ao nk cap) 25)).drewN nq).setCell ⟨g,4,none⟩ (.int .i64 (G+1)))):=fun nq=>Sn.grp HS.out G hG h20 nq
  have hOs:=openNW_size n hns
  have HN:Hid (∀V,Sn w0 W base g W.heap.size (n8 k m (G+1) b ng n sa sl sc ao nk cap) s.grp V→∀W',Below V.heap.size V W'→Calls Tryz.prog 61 #[.string (openN n),.string n] W' fun e w'=>e=.returned (.bool (namedB (openN n) n))∧Below V.heap.size V w'):=fun V S W' h=>(named_any _ n (by omega) W' (S.quiet h).cx.c.penv.mks).mono fun e w'⟨h1,h2⟩=>⟨h1,h.trans (below_less h2 h.size)⟩
  rw[hq]at HN
  have s1:ByteArray.size ⟨#[40,63,60]⟩=3:=rfl
  have s2:ByteArray.size ⟨#[62]⟩=1:=rfl
  unfold Met openN at*
  obtain⟨Y,hY⟩:∃Y,(⟨#[40,63,60]⟩:ByteArray)++n=Y:=⟨_,rfl⟩
  have d1:Y.size=n.size+3:=by rw[←hY,ByteArray.size_append,s1];omega
  rw[hY]at*
  obtain⟨OT,hOT⟩:∃OT,Y++(⟨#[62]⟩:ByteArray)=OT:=⟨_,rfl⟩
  rw[hOT]at*
  clear c hG hq
  go_enter Tryz.func44,Tryz.ntmps44
  go_wp2
  go_quiet(fail)
  go_wp2
  obtain⟨V,HV⟩:∃V,(((W.alloc (.cells (n8 k m (G+1) b ng n sa sl sc ao nk cap) 25)).drewN nq).setCell ⟨g,4,none⟩ (.int .i64 (G+1)))=V:=⟨_,rfl⟩
  have SV:Sn w0 W base g W.heap.size (n8 k m (G+1) b ng n sa sl sc ao nk cap) s.grp V:=HV▸HSG.out nq
  rw[HV]
  have K1:=HN.out V SV
  have HK2:Hid True:=trivial
  have x5:∀p:Abv V.heap.size V,p.w.cell? ⟨W.heap.size,5,none⟩=some (.string n):=fun p=>(SV.quiet p.h).bk.cell 5 rfl
  have HSV:Hid (Sn w0 W base g W.heap.size (n8 k m (G+1) b ng n sa sl sc ao nk cap) s.grp V):=SV
  have HK1:Hid _:=K1
  clear HN HSG SV K1 gc gf HS HV
  refine region_above V.heap.size V mixedG (by kernel_rfl) (Below.drew (Below.refl _ V)) ?_
  repeat (refine wpQuiet_step (fun K hK=>?_)
          go_simp
          first
            |(refine hK _ ?_;clear hK K)
            | (apply Exists.intro
               refine⟨fun _=>?_,hK _ ?_⟩
               (first
                 |(go_at_call 61;refine calls_above HK1.out _)
                 |(go_at_call 64;refine calls_above HK2.out _))
               clear hK K))
  refine wpQuiet_nil ?_
  rintro _⟨p,rfl⟩
  have HSP:Hid (Sn w0 W base g W.heap.size (n8 k m (G+1) b ng n sa sl sc ao nk cap) s.grp p.w):=HSV.out.quiet p.h
  go_wp2
  go_ret
  exact met_no rfl HSP.out.kt
theorem group_n1{w0 W:World}{base g:Nat}{s:Wr}(c:Cx w0 W base g s)(k m b G:Int)(ng:Bool)(n:ByteArray)(sa:Option Addr)(sl sc:Nat)(ao:Option Addr)(nk cap:Nat)(hG:s.groups=G)(h20:G+1≤20)(hn:n.toList.isEmpty=false)(hns:n.size≤140737488355327)(hq:namedB (openN n) n=true)(hc:Lib.containsS s.names n=true):Met 44 #[.pointer (some ⟨g,0,none⟩),.agg (n8 k m (G+1) b ng n sa sl sc ao nk cap)] w0 W base g (none):=by
  have HS:=Sn.st c (n8 k m (G+1) b ng n sa sl sc ao nk cap)
  have gc:=HS.out.cx.c.wr.grpCell
  have hg0:=c.gd.g.g0
  have hg1:=c.gd.g.g1
  have hgs:=c.c.wr.lt
  have gf:=(show((W.alloc (.cells (n8 k m (G+1) b ng n sa sl sc ao nk cap) 25))).frozen? ⟨g,4,none⟩=false from by obtain⟨_,p,bv,nv,h1,_⟩:=HS.out.cx.c.wr;exact Lib.frozen_of_heap h1 4)
  rw[hG]at gc hg0 hg1
  have hw:IntKind.i64.wrap (G+1)=G+1:=by rw[IntKind.wrap_i64];omega
  have f0:((G+1)==0)=false:=by simp;omega
  have f0':¬G+1=0:=by omega
  have f2:decide (20<G+1)=false:=decide_eq_false (by omega)
  have HSG:Hid (∀nq,Sn w0 W base g W.heap.size (n8 k m (G+1) b ng n sa sl sc ao nk cap) s.grp (((W.alloc (.cells (n8 k m (G+1) b ng n sa sl sc ao nk cap) 25)).drewN nq).setCell ⟨g,4,none⟩ (.int .i64 (G+1)))):=fun nq=>Sn.grp HS.out G hG h20 nq
  have hOs:=openNW_size n hns
  have HN:Hid (∀V,Sn w0 W base g W.heap.size (n8 k m (G+1) b ng n sa sl sc ao nk cap) s.grp V→∀W',Below V.heap.size V W'→Calls Tryz.prog 61 #[.string (openN n),.string n] W' fun e w'=>e=.returned (.bool (namedB (openN n) n))∧Below V.heap.size V w'):=fun V S W' h=>(named_any _ n (by omega) W' (S.quiet h).cx.c.penv.mks).mono fun e w'⟨h1,h2⟩=>⟨h1,h.trans (below_less h2 h.size)⟩
  rw[hq]at HN
  have HQC:Hid (Lib.containsS s.grp.names n=true):=hc
  have s1:ByteArray.size ⟨#[40,63,60]⟩=3:=rfl
  have s2:ByteArray.size ⟨#[62]⟩=1:=rfl
  unfold Met openN at*
  obtain⟨Y,hY⟩:∃Y,(⟨#[40,63,60]⟩:ByteArray)++n=Y:=⟨_,rfl⟩
  have d1:Y.size=n.size+3:=by rw[←hY,ByteArray.size_append,s1];omega
  rw[hY]at*
  obtain⟨OT,hOT⟩:∃OT,Y++(⟨#[62]⟩:ByteArray)=OT:=⟨_,rfl⟩
  rw[hOT]at*
  clear c hG hq hc
  go_enter Tryz.func44,Tryz.ntmps44
  go_wp2
  go_quiet(fail)
  go_wp2
  obtain⟨V,HV⟩:∃V,(((W.alloc (.cells (n8 k m (G+1) b ng n sa sl sc ao nk cap) 25)).drewN nq).setCell ⟨g,4,none⟩ (.int .i64 (G+1)))=V:=⟨_,rfl⟩
  have SV:Sn w0 W base g W.heap.size (n8 k m (G+1) b ng n sa sl sc ao nk cap) s.grp V:=HV▸HSG.out nq
  rw[HV]
  have K1:=HN.out V SV
  obtain⟨na,nc,hnc,hrow,KC⟩:=names_row SV.cx n
  rw[show Lib.containsS s.grp.names n=true from HQC.out]at KC
  have y5:∀p:Abv V.heap.size V,p.w.cell? ⟨g,5,none⟩=some (.slice na s.grp.names.length nc):=fun p=>(p.h.cell (p:=⟨g,5,none⟩) SV.cx.c.wr.lt).trans hnc
  have HK2:Hid _:=KC
  have HNC:Hid (V.cell? ⟨g,5,none⟩=some (.slice na s.grp.names.length nc)):=hnc
  have HRW:Hid (V.ownsRow base 9 1 (.slice na s.grp.names.length nc) s.grp.names.length (s.grp.names.map Value.string)):=hrow
  clear hnc hrow KC
  have x5:∀p:Abv V.heap.size V,p.w.cell? ⟨W.heap.size,5,none⟩=some (.string n):=fun p=>(SV.quiet p.h).bk.cell 5 rfl
  have HSV:Hid (Sn w0 W base g W.heap.size (n8 k m (G+1) b ng n sa sl sc ao nk cap) s.grp V):=SV
  have HK1:Hid _:=K1
  clear HN HSG SV K1 gc gf HS HV
  refine region_above V.heap.size V mixedG (by kernel_rfl) (Below.drew (Below.refl _ V)) ?_
  repeat (refine wpQuiet_step (fun K hK=>?_)
          go_simp
          first
            |(refine hK _ ?_;clear hK K)
            | (apply Exists.intro
               refine⟨fun _=>?_,hK _ ?_⟩
               (first
                 |(go_at_call 61;refine calls_above HK1.out _)
                 |(go_at_call 64;refine calls_above HK2.out _))
               clear hK K))
  refine wpQuiet_nil ?_
  rintro _⟨p,rfl⟩
  have HSP:Hid (Sn w0 W base g W.heap.size (n8 k m (G+1) b ng n sa sl sc ao nk cap) s.grp p.w):=HSV.out.quiet p.h
  go_wp2
  go_ret
  exact met_no rfl HSP.out.kt
end Go.Proofs.YtbbeciofgnkggaaGreatDoor.tre
namespace Go.Proofs.YtbbeciofgnkggaaGreatDoor.tre
open Go.RowKit nod
open rng(R RV ret_int ret_bool below_drewN info_parts own_below')
open tok(PEnv TX printL)
theorem group_2{w0 W:World}{base g:Nat}{s:Wr}(c:Cx w0 W base g s)(k m b G:Int)(ng:Bool)(n:ByteArray)(sa:Option Addr)(sl sc:Nat)(ao:Option Addr)(nk cap:Nat)(hG:s.groups=G)(h20:G+1≤20)(hn:n.toList.isEmpty=false)(hns:n.size≤140737488355327)(hq:namedB (openN n) n=true)(hc:Lib.containsS s.names n=false)(Pc:Option Wr)(HC:∀W',Cx w0 W' base g (s.grp.nam n)→Met 45 #[.pointer (some ⟨g,0,none⟩),.string (openN n),.agg (n8 k m (G+1) b ng n sa sl sc ao nk cap)] w0 W' base g (Pc)):Met 44 #[.pointer (some ⟨g,0,none⟩),.agg (n8 k m (G+1) b ng n sa sl sc ao nk cap)] w0 W base g (Pc):=by
  have HS:=Sn.st c (n8 k m (G+1) b ng n sa sl sc ao nk cap)
  have gc:=HS.out.cx.c.wr.grpCell
  have hg0:=c.gd.g.g0
  have hg1:=c.gd.g.g1
  have hgs:=c.c.wr.lt
  have gf:=(show((W.alloc (.cells (n8 k m (G+1) b ng n sa sl sc ao nk cap) 25))).frozen? ⟨g,4,none⟩=false from by obtain⟨_,p,bv,nv,h1,_⟩:=HS.out.cx.c.wr;exact Lib.frozen_of_heap h1 4)
  rw[hG]at gc hg0 hg1
  have hw:IntKind.i64.wrap (G+1)=G+1:=by rw[IntKind.wrap_i64];omega
  have f0:((G+1)==0)=false:=by simp;omega
  have f0':¬G+1=0:=by omega
  have f2:decide (20<G+1)=false:=decide_eq_false (by omega)
  have HSG:Hid (∀nq,Sn w0 W base g W.heap.size (n8 k m (G+1) b ng n sa sl sc ao nk cap) s.grp (((W.alloc (.cells (n8 k m (G+1) b ng n sa sl sc ao nk cap) 25)).drewN nq).setCell ⟨g,4,none⟩ (.int .i64 (G+1)))):=fun nq=>Sn.grp HS.out G hG h20 nq
  have hOs:=openNW_size n hns
  have HN:Hid (∀V,Sn w0 W base g W.heap.size (n8 k m (G+1) b ng n sa sl sc ao nk cap) s.grp V→∀W',Below V.heap.size V W'→Calls Tryz.prog 61 #[.string (openN n),.string n] W' fun e w'=>e=.returned (.bool (namedB (openN n) n))∧Below V.heap.size V w'):=fun V S W' h=>(named_any _ n (by omega) W' (S.quiet h).cx.c.penv.mks).mono fun e w'⟨h1,h2⟩=>⟨h1,h.trans (below_less h2 h.size)⟩
  rw[hq]at HN
  have HQC:Hid (Lib.containsS s.grp.names n=false):=hc
  have HGG:Hid (Gd (s.grp.nam n)):=nam_gd c.gd (by omega) n
  have hnl:=c.gd.g.n1
  have HP:Hid (Cp w0 W base g (n8 k m (G+1) b ng n sa sl sc ao nk cap) (s.grp.nam n) 45 #[.pointer (some ⟨g,0,none⟩),.string (openN n),.agg (n8 k m (G+1) b ng n sa sl sc ao nk cap)] Pc):=fun W' S=>Met.sn (HC W' S.cx) S
  have s1:ByteArray.size ⟨#[40,63,60]⟩=3:=rfl
  have s2:ByteArray.size ⟨#[62]⟩=1:=rfl
  unfold Met openN at*
  obtain⟨Y,hY⟩:∃Y,(⟨#[40,63,60]⟩:ByteArray)++n=Y:=⟨_,rfl⟩
  have d1:Y.size=n.size+3:=by rw[←hY,ByteArray.size_append,s1];omega
  rw[hY]at*
  obtain⟨OT,hOT⟩:∃OT,Y++(⟨#[62]⟩:ByteArray)=OT:=⟨_,rfl⟩
  rw[hOT]at*
  clear c hG hq hc HC
  generalize Pc=P at*
  obtain⟨i0,hi,hz0,hz1,hz2⟩:=info_parts infoStrW
  go_enter Tryz.func44,Tryz.ntmps44
  go_wp2
  go_quiet(fail)
  go_wp2
  obtain⟨V,HV⟩:∃V,(((W.alloc (.cells (n8 k m (G+1) b ng n sa sl sc ao nk cap) 25)).drewN nq).setCell ⟨g,4,none⟩ (.int .i64 (G+1)))=V:=⟨_,rfl⟩
  have SV:Sn w0 W base g W.heap.size (n8 k m (G+1) b ng n sa sl sc ao nk cap) s.grp V:=HV▸HSG.out nq
  rw[HV]
  have K1:=HN.out V SV
  obtain⟨na,nc,hnc,hrow,KC⟩:=names_row SV.cx n
  rw[show Lib.containsS s.grp.names n=false from HQC.out]at KC
  have y5:∀p:Abv V.heap.size V,p.w.cell? ⟨g,5,none⟩=some (.slice na s.grp.names.length nc):=fun p=>(p.h.cell (p:=⟨g,5,none⟩) SV.cx.c.wr.lt).trans hnc
  have HK2:Hid _:=KC
  have HNC:Hid (V.cell? ⟨g,5,none⟩=some (.slice na s.grp.names.length nc)):=hnc
  have HRW:Hid (V.ownsRow base 9 1 (.slice na s.grp.names.length nc) s.grp.names.length (s.grp.names.map Value.string)):=hrow
  clear hnc hrow KC
  have x5:∀p:Abv V.heap.size V,p.w.cell? ⟨W.heap.size,5,none⟩=some (.string n):=fun p=>(SV.quiet p.h).bk.cell 5 rfl
  have HSV:Hid (Sn w0 W base g W.heap.size (n8 k m (G+1) b ng n sa sl sc ao nk cap) s.grp V):=SV
  have HK1:Hid _:=K1
  clear HN HSG SV K1 gc gf HS HV
  refine region_above V.heap.size V mixedG (by kernel_rfl) (Below.drew (Below.refl _ V)) ?_
  repeat (refine wpQuiet_step (fun K hK=>?_)
          go_simp
          first
            |(refine hK _ ?_;clear hK K)
            | (apply Exists.intro
               refine⟨fun _=>?_,hK _ ?_⟩
               (first
                 |(go_at_call 61;refine calls_above HK1.out _)
                 |(go_at_call 64;refine calls_above HK2.out _))
               clear hK K))
  refine wpQuiet_nil ?_
  rintro _⟨p,rfl⟩
  have HSP:Hid (Sn w0 W base g W.heap.size (n8 k m (G+1) b ng n sa sl sc ao nk cap) s.grp p.w):=HSV.out.quiet p.h
  obtain⟨U,HU⟩:∃U,p.w=U:=⟨_,rfl⟩
  have z5:=y5 p
  have HRU:Hid (U.ownsRow base 9 1 (.slice na s.grp.names.length nc) s.grp.names.length (s.grp.names.map Value.string)):=HU▸own_below' HRW.out p.h
  have HSU:Hid (Sn w0 W base g W.heap.size (n8 k m (G+1) b ng n sa sl sc ao nk cap) s.grp U):=HU▸HSP.out
  rw[HU]at z5⊢
  clear x5 y5 HSP HSV HRW HNC HK1 HK2 HU
  have HZ5:Hid (U.cell? ⟨g,5,none⟩=some (.slice na s.grp.names.length nc)):=z5
  have e5:=HSU.out.bk.cell 5 (u:=.string n) rfl
  have hls:=HSU.out.bk.lt
  have hgu:=HSU.out.cx.c.wr.lt
  have hbu:=HSU.out.cx.c.size
  have hnl':s.grp.names.length≤20:=hnl
  obtain⟨NL,hNL⟩:∃NL,s.grp.names.length=NL:=⟨_,rfl⟩
  rw[hNL]at z5 HZ5 HRU hnl'
  have HNL:Hid (s.grp.names.length=NL):=hNL
  clear hNL
  go_wp2
  refine wp_region_any (by kernel_rfl) ?_
  try(change wpAny _ _ _ _ _ _ _ (World.drew _))
  refine wpAny_take (i:=0) (v:=?_) rfl (by kernel_rfl) (by kernel_rfl) (by kernel_rfl) (fun _ _ _ h=>h) (Or.inl ⟨by rfl,?_⟩) ?_
  rotate_left
  · (intro w';go_simp;try with_reducible rfl)
  try simp only[Act.put,List.setIfInBounds_toArray,List.set_cons_zero,List.set_cons_succ,List.getElem_toArray,List.getElem_cons_zero,List.getElem_cons_succ]
  refine wpAny_take (i:=1) (v:=?_) rfl (by kernel_rfl) (by kernel_rfl) (by kernel_rfl) (fun _ _ _ h=>h) (Or.inl ⟨by rfl,?_⟩) ?_
  rotate_left
  · (intro w';go_simp;try with_reducible rfl)
  try simp only[Act.put,List.setIfInBounds_toArray,List.set_cons_zero,List.set_cons_succ,List.getElem_toArray,List.getElem_cons_zero,List.getElem_cons_succ]
  refine wpAny_take (i:=2) (v:=?_) rfl (by kernel_rfl) (by kernel_rfl) (by kernel_rfl) (fun _ _ _ h=>h) (Or.inl ⟨by rfl,?_⟩) ?_
  rotate_left
  · (intro w';go_simp;try with_reducible rfl)
  try simp only[Act.put,List.setIfInBounds_toArray,List.set_cons_zero,List.set_cons_succ,List.getElem_toArray,List.getElem_cons_zero,List.getElem_cons_succ]
  refine wpAny_take (i:=3) (v:=?_) rfl (by kernel_rfl) (by kernel_rfl) (by kernel_rfl) (fun _ _ _ h=>h) (Or.inl ⟨by rfl,?_⟩) ?_
  rotate_left
  · (intro w';go_simp;try with_reducible rfl)
  try simp only[Act.put,List.setIfInBounds_toArray,List.set_cons_zero,List.set_cons_succ,List.getElem_toArray,List.getElem_cons_zero,List.getElem_cons_succ]
  refine wpAny_take (i:=5) (v:=?_) rfl (by kernel_rfl) (by kernel_rfl) (by kernel_rfl) (fun _ _ _ h=>h) (Or.inl ⟨by rfl,?_⟩) ?_
  rotate_left
  · (intro w';go_simp;try with_reducible rfl)
  try simp only[Act.put,List.setIfInBounds_toArray,List.set_cons_zero,List.set_cons_succ,List.getElem_toArray,List.getElem_cons_zero,List.getElem_cons_succ]
  refine wpAny_ready (rs:=[4,6]) (by kernel_rfl) (by simp) ?_
  refine AllReady.cons rfl (fun K hK=>?_) (AllReady.cons rfl (fun K hK=>?_) AllReady.nil)
  · go_simp
    refine hK _ _ ?_
    clear hK K
    try simp only[Act.put,List.setIfInBounds_toArray,List.set_cons_zero,List.set_cons_succ,List.getElem_toArray,List.getElem_cons_zero,List.getElem_cons_succ]
    refine wpAny_ready (rs:=[6]) (by kernel_rfl) (by simp) ?_
    refine AllReady.cons rfl (fun K hK=>?_) AllReady.nil
    go_simp
    refine hK _ _ ?_
    clear hK K
    try simp only[Act.put,List.setIfInBounds_toArray,List.set_cons_zero,List.set_cons_succ,List.getElem_toArray,List.getElem_cons_zero,List.getElem_cons_succ]
    refine wpAny_ready (rs:=[7]) (by kernel_rfl) (by simp) ?_
    refine AllReady.cons rfl (fun K hK=>?_) AllReady.nil
    go_simp
    refine hK _ _ ?_
    clear hK K
    try simp only[Act.put,List.setIfInBounds_toArray,List.set_cons_zero,List.set_cons_succ,List.getElem_toArray,List.getElem_cons_zero,List.getElem_cons_succ]
    refine wpAny_ready (rs:=[8]) (by kernel_rfl) (by simp) ?_
    refine AllReady.cons rfl (fun K hK=>?_) AllReady.nil
    have BW:Below U.heap.size U (U.alloc (.cells #[.string n] 9)).drew:=Below.drew ((Below.refl _ U).alloc (Nat.le_refl _) _)
    have NW:Bk (U.alloc (.cells #[.string n] 9)).drew U.heap.size #[.string n] 9:=Bk.new U _ _
    refine step_append_lies _ rfl _ _ 40 rfl base 9 i0 (.string ⟨#[]⟩) 1 16 Tryz.underlying40 hi hz0 hz1 hz2 rfl (by decide) (.slice na NL nc) NL (s.grp.names.map Value.string) (by simp[Act.eval,Act.put]) (own_below' HRU.out BW) ⟨U.heap.size,0,none⟩ 1 1 [.string n] (by simp[Act.eval,Act.put]) rfl (fun j u hj=>by
      match j,hj with
      |0,hj=>simp at hj;subst hj;exact NW.cell 0 rfl
      |j+1,hj=>simp at hj) (fun u hu=>by simp at hu;subst hu;rfl) (by decide) (by unfold maxLen;omega) (by omega) (by have:=BW.size;omega) _ rfl ?_
    intro gb cp w4 hown4 hgrow4 _ _
    obtain⟨m1,m2,m3⟩:=nam_more (s:=s.grp) HSU.out BW n (by rw[HNL.out];exact HZ5.out) HGG.out (by rw[HNL.out];exact hown4) (by rw[HNL.out];exact hgrow4)
    rw[HNL.out]at m1 m3
    have HM3:Hid (Sn w0 W base g W.heap.size (n8 k m (G+1) b ng n sa sl sc ao nk cap) (s.grp.nam n) (w4.setCell ⟨g,5,none⟩ (.slice (some ⟨gb,0,none⟩) (NL+1) cp))):=m3
    clear hown4 hgrow4 BW NW m3
    refine hK _ _ ?_
    clear hK K
    try simp only[Act.put,List.setIfInBounds_toArray,List.set_cons_zero,List.set_cons_succ,List.getElem_toArray,List.getElem_cons_zero,List.getElem_cons_succ]
    refine wpAny_take (i:=9) (v:=?_) rfl (by kernel_rfl) (by kernel_rfl) (by kernel_rfl) (fun _ _ _ h=>h) (Or.inl ⟨by rfl,?_⟩) ?_
    rotate_left
    · (intro w';go_simp;try with_reducible rfl)
    try simp only[Act.put,List.setIfInBounds_toArray,List.set_cons_zero,List.set_cons_succ,List.getElem_toArray,List.getElem_cons_zero,List.getElem_cons_succ]
    refine wpAny_take (i:=10) (v:=?_) rfl (by kernel_rfl) (by kernel_rfl) (by kernel_rfl) (fun _ _ _ h=>h) (Or.inl ⟨by rfl,?_⟩) ?_
    rotate_left
    · (intro w';go_simp;try with_reducible rfl)
    try simp only[Act.put,List.setIfInBounds_toArray,List.set_cons_zero,List.set_cons_succ,List.getElem_toArray,List.getElem_cons_zero,List.getElem_cons_succ]
    refine wpAny_ready (rs:=[11]) (by kernel_rfl) (by simp) ?_
    refine AllReady.cons rfl (fun K hK=>?_) AllReady.nil
    go_simp
    refine hK _ _ ?_
    clear hK K
    try simp only[Act.put,List.setIfInBounds_toArray,List.set_cons_zero,List.set_cons_succ,List.getElem_toArray,List.getElem_cons_zero,List.getElem_cons_succ]
    refine wpAny_done (by kernel_rfl) ?_ _
    have q0:=HM3.out.bk
    obtain⟨V4,HV4⟩:∃V4,w4.setCell ⟨g,5,none⟩ (.slice (some ⟨gb,0,none⟩) (NL+1) cp)=V4:=⟨_,rfl⟩
    rw[HV4]at HM3⊢
    obtain⟨x0,x1,x2,x3,x4,x5,x6,x7⟩:=Bk.c8 HM3.out.bk
    clear q0 HV4 m1 m2
    go_wp2_with(first
      |(go_at_call 45;refine(HP.out _ HM3.out).mono ?_;rintro e w9⟨rfl,d1,d2⟩;have HT1:Hid (∀s',_=some s'→Cx w0 w9 base g s'):=d1;have HT2:Hid (Kt base W w9):=d2;clear d1 d2))
    go_ret
    exact⟨ret_bool (by first|rfl|simp),HT1.out,HT2.out⟩
  · go_simp
    refine hK _ _ ?_
    clear hK K
    try simp only[Act.put,List.setIfInBounds_toArray,List.set_cons_zero,List.set_cons_succ,List.getElem_toArray,List.getElem_cons_zero,List.getElem_cons_succ]
    refine wpAny_ready (rs:=[4,7]) (by kernel_rfl) (by simp) ?_
    refine AllReady.cons rfl (fun K hK=>?_) (AllReady.cons rfl (fun K hK=>?_) AllReady.nil)
    · go_simp
      refine hK _ _ ?_
      clear hK K
      try simp only[Act.put,List.setIfInBounds_toArray,List.set_cons_zero,List.set_cons_succ,List.getElem_toArray,List.getElem_cons_zero,List.getElem_cons_succ]
      refine wpAny_ready (rs:=[7]) (by kernel_rfl) (by simp) ?_
      refine AllReady.cons rfl (fun K hK=>?_) AllReady.nil
      go_simp
      refine hK _ _ ?_
      clear hK K
      try simp only[Act.put,List.setIfInBounds_toArray,List.set_cons_zero,List.set_cons_succ,List.getElem_toArray,List.getElem_cons_zero,List.getElem_cons_succ]
      refine wpAny_ready (rs:=[8]) (by kernel_rfl) (by simp) ?_
      refine AllReady.cons rfl (fun K hK=>?_) AllReady.nil
      have BW:Below U.heap.size U (U.alloc (.cells #[.string n] 9)).drew:=Below.drew ((Below.refl _ U).alloc (Nat.le_refl _) _)
      have NW:Bk (U.alloc (.cells #[.string n] 9)).drew U.heap.size #[.string n] 9:=Bk.new U _ _
      refine step_append_lies _ rfl _ _ 40 rfl base 9 i0 (.string ⟨#[]⟩) 1 16 Tryz.underlying40 hi hz0 hz1 hz2 rfl (by decide) (.slice na NL nc) NL (s.grp.names.map Value.string) (by simp[Act.eval,Act.put]) (own_below' HRU.out BW) ⟨U.heap.size,0,none⟩ 1 1 [.string n] (by simp[Act.eval,Act.put]) rfl (fun j u hj=>by
        match j,hj with
        |0,hj=>simp at hj;subst hj;exact NW.cell 0 rfl
        |j+1,hj=>simp at hj) (fun u hu=>by simp at hu;subst hu;rfl) (by decide) (by unfold maxLen;omega) (by omega) (by have:=BW.size;omega) _ rfl ?_
      intro gb cp w4 hown4 hgrow4 _ _
      obtain⟨m1,m2,m3⟩:=nam_more (s:=s.grp) HSU.out BW n (by rw[HNL.out];exact HZ5.out) HGG.out (by rw[HNL.out];exact hown4) (by rw[HNL.out];exact hgrow4)
      rw[HNL.out]at m1 m3
      have HM3:Hid (Sn w0 W base g W.heap.size (n8 k m (G+1) b ng n sa sl sc ao nk cap) (s.grp.nam n) (w4.setCell ⟨g,5,none⟩ (.slice (some ⟨gb,0,none⟩) (NL+1) cp))):=m3
      clear hown4 hgrow4 BW NW m3
      refine hK _ _ ?_
      clear hK K
      try simp only[Act.put,List.setIfInBounds_toArray,List.set_cons_zero,List.set_cons_succ,List.getElem_toArray,List.getElem_cons_zero,List.getElem_cons_succ]
      refine wpAny_take (i:=9) (v:=?_) rfl (by kernel_rfl) (by kernel_rfl) (by kernel_rfl) (fun _ _ _ h=>h) (Or.inl ⟨by rfl,?_⟩) ?_
      rotate_left
      · (intro w';go_simp;try with_reducible rfl)
      try simp only[Act.put,List.setIfInBounds_toArray,List.set_cons_zero,List.set_cons_succ,List.getElem_toArray,List.getElem_cons_zero,List.getElem_cons_succ]
      refine wpAny_take (i:=10) (v:=?_) rfl (by kernel_rfl) (by kernel_rfl) (by kernel_rfl) (fun _ _ _ h=>h) (Or.inl ⟨by rfl,?_⟩) ?_
      rotate_left
      · (intro w';go_simp;try with_reducible rfl)
      try simp only[Act.put,List.setIfInBounds_toArray,List.set_cons_zero,List.set_cons_succ,List.getElem_toArray,List.getElem_cons_zero,List.getElem_cons_succ]
      refine wpAny_ready (rs:=[11]) (by kernel_rfl) (by simp) ?_
      refine AllReady.cons rfl (fun K hK=>?_) AllReady.nil
      go_simp
      refine hK _ _ ?_
      clear hK K
      try simp only[Act.put,List.setIfInBounds_toArray,List.set_cons_zero,List.set_cons_succ,List.getElem_toArray,List.getElem_cons_zero,List.getElem_cons_succ]
      refine wpAny_done (by kernel_rfl) ?_ _
      have q0:=HM3.out.bk
      obtain⟨V4,HV4⟩:∃V4,w4.setCell ⟨g,5,none⟩ (.slice (some ⟨gb,0,none⟩) (NL+1) cp)=V4:=⟨_,rfl⟩
      rw[HV4]at HM3⊢
      obtain⟨x0,x1,x2,x3,x4,x5,x6,x7⟩:=Bk.c8 HM3.out.bk
      clear q0 HV4 m1 m2
      go_wp2_with(first
        |(go_at_call 45;refine(HP.out _ HM3.out).mono ?_;rintro e w9⟨rfl,d1,d2⟩;have HT1:Hid (∀s',_=some s'→Cx w0 w9 base g s'):=d1;have HT2:Hid (Kt base W w9):=d2;clear d1 d2))
      go_ret
      exact⟨ret_bool (by first|rfl|simp),HT1.out,HT2.out⟩
    · go_simp
      refine hK _ _ ?_
      clear hK K
      try simp only[Act.put,List.setIfInBounds_toArray,List.set_cons_zero,List.set_cons_succ,List.getElem_toArray,List.getElem_cons_zero,List.getElem_cons_succ]
      refine wpAny_ready (rs:=[4]) (by kernel_rfl) (by simp) ?_
      refine AllReady.cons rfl (fun K hK=>?_) AllReady.nil
      go_simp
      refine hK _ _ ?_
      clear hK K
      try simp only[Act.put,List.setIfInBounds_toArray,List.set_cons_zero,List.set_cons_succ,List.getElem_toArray,List.getElem_cons_zero,List.getElem_cons_succ]
      refine wpAny_ready (rs:=[8]) (by kernel_rfl) (by simp) ?_
      refine AllReady.cons rfl (fun K hK=>?_) AllReady.nil
      have BW:Below U.heap.size U (U.alloc (.cells #[.string n] 9)).drew:=Below.drew ((Below.refl _ U).alloc (Nat.le_refl _) _)
      have NW:Bk (U.alloc (.cells #[.string n] 9)).drew U.heap.size #[.string n] 9:=Bk.new U _ _
      refine step_append_lies _ rfl _ _ 40 rfl base 9 i0 (.string ⟨#[]⟩) 1 16 Tryz.underlying40 hi hz0 hz1 hz2 rfl (by decide) (.slice na NL nc) NL (s.grp.names.map Value.string) (by simp[Act.eval,Act.put]) (own_below' HRU.out BW) ⟨U.heap.size,0,none⟩ 1 1 [.string n] (by simp[Act.eval,Act.put]) rfl (fun j u hj=>by
        match j,hj with
        |0,hj=>simp at hj;subst hj;exact NW.cell 0 rfl
        |j+1,hj=>simp at hj) (fun u hu=>by simp at hu;subst hu;rfl) (by decide) (by unfold maxLen;omega) (by omega) (by have:=BW.size;omega) _ rfl ?_
      intro gb cp w4 hown4 hgrow4 _ _
      obtain⟨m1,m2,m3⟩:=nam_more (s:=s.grp) HSU.out BW n (by rw[HNL.out];exact HZ5.out) HGG.out (by rw[HNL.out];exact hown4) (by rw[HNL.out];exact hgrow4)
      rw[HNL.out]at m1 m3
      have HM3:Hid (Sn w0 W base g W.heap.size (n8 k m (G+1) b ng n sa sl sc ao nk cap) (s.grp.nam n) (w4.setCell ⟨g,5,none⟩ (.slice (some ⟨gb,0,none⟩) (NL+1) cp))):=m3
      clear hown4 hgrow4 BW NW m3
      refine hK _ _ ?_
      clear hK K
      try simp only[Act.put,List.setIfInBounds_toArray,List.set_cons_zero,List.set_cons_succ,List.getElem_toArray,List.getElem_cons_zero,List.getElem_cons_succ]
      refine wpAny_take (i:=9) (v:=?_) rfl (by kernel_rfl) (by kernel_rfl) (by kernel_rfl) (fun _ _ _ h=>h) (Or.inl ⟨by rfl,?_⟩) ?_
      rotate_left
      · (intro w';go_simp;try with_reducible rfl)
      try simp only[Act.put,List.setIfInBounds_toArray,List.set_cons_zero,List.set_cons_succ,List.getElem_toArray,List.getElem_cons_zero,List.getElem_cons_succ]
      refine wpAny_take (i:=10) (v:=?_) rfl (by kernel_rfl) (by kernel_rfl) (by kernel_rfl) (fun _ _ _ h=>h) (Or.inl ⟨by rfl,?_⟩) ?_
      rotate_left
      · (intro w';go_simp;try with_reducible rfl)
      try simp only[Act.put,List.setIfInBounds_toArray,List.set_cons_zero,List.set_cons_succ,List.getElem_toArray,List.getElem_cons_zero,List.getElem_cons_succ]
      refine wpAny_ready (rs:=[11]) (by kernel_rfl) (by simp) ?_
      refine AllReady.cons rfl (fun K hK=>?_) AllReady.nil
      go_simp
      refine hK _ _ ?_
      clear hK K
      try simp only[Act.put,List.setIfInBounds_toArray,List.set_cons_zero,List.set_cons_succ,List.getElem_toArray,List.getElem_cons_zero,List.getElem_cons_succ]
      refine wpAny_done (by kernel_rfl) ?_ _
      have q0:=HM3.out.bk
      obtain⟨V4,HV4⟩:∃V4,w4.setCell ⟨g,5,none⟩ (.slice (some ⟨gb,0,none⟩) (NL+1) cp)=V4:=⟨_,rfl⟩
      rw[HV4]at HM3⊢
      obtain⟨x0,x1,x2,x3,x4,x5,x6,x7⟩:=Bk.c8 HM3.out.bk
      clear q0 HV4 m1 m2
      go_wp2_with(first
        |(go_at_call 45;refine(HP.out _ HM3.out).mono ?_;rintro e w9⟨rfl,d1,d2⟩;have HT1:Hid (∀s',_=some s'→Cx w0 w9 base g s'):=d1;have HT2:Hid (Kt base W w9):=d2;clear d1 d2))
      go_ret
      exact⟨ret_bool (by first|rfl|simp),HT1.out,HT2.out⟩
end Go.Proofs.YtbbeciofgnkggaaGreatDoor.tre
section
namespace Go.Proofs.YtbbeciofgnkggaaGreatDoor.tre
open Go.RowKit nod
open rng(R RV)
open tok(PEnv TX printL)
def ConP(f:FuncId)(P:Wr→Nd→Option Wr)(t:Nd):Prop:=∀(w0 W:World)(base g:Nat)(s:Wr)(v:Value),Pw w0→Cx w0 W base g s→NV base w0 t v→Met f #[.pointer (some ⟨g,0,none⟩),v] w0 W base g (P s t)
section
variable{pt:Wr→Nd→Option Wr}{s:Wr}{t:Nd}
theorem seq_e0(h:¬(t.kind=6∧othersZ t=true)):seqO pt s t=none:=by unfold seqO;rw[if_neg h]
theorem seq_e1(h1:t.kind=6)(h2:othersZ t=true):seqO pt s t=loopO pt t.kids s:=by unfold seqO;rw[if_pos ⟨h1,h2⟩]
theorem alt_e0(h:¬(othersZ t=true∧2≤t.kids.length)):altO pt s t=none:=by unfold altO;rw[if_neg h]
theorem alt_e1(h1:othersZ t=true)(h2:2≤t.kids.length){x:Nd}(hx:t.kids[0]?=some x):altO pt s t=(seqO pt s x).bind (loopO (fun s t=>(putO s ⟨#[124]⟩).bind fun s1=>seqO pt s1 t) (t.kids.drop 1)):=by
 unfold altO
 rw[if_pos ⟨h1,h2⟩]
 generalize t.kids=ks at*
 match ks,hx with
 |y::ys,hx=>simp at hx;subst hx;rfl
theorem body_e6(h:t.kind=6):bodyO pt s t=seqO pt s t:=by unfold bodyO;rw[if_pos h]
theorem body_e7(h:t.kind=7):bodyO pt s t=altO pt s t:=by unfold bodyO;rw[if_neg (by omega),if_pos h]
theorem body_ex(h6:¬t.kind=6)(h7:¬t.kind=7):bodyO pt s t=none:=by unfold bodyO;rw[if_neg h6,if_neg h7]
theorem part_e0{N:Nat}(ho:othersZ t=false):partO (N+1) s t=none:=by rw[partO,if_pos ho]
theorem part_e1{N:Nat}(ho:othersZ t=true)(hk:t.kind=1):partO (N+1) s t=putO s (TX (printL t.a false)):=by rw[partO,if_neg (by simp[ho]),if_pos hk]
theorem part_e2{N:Nat}(ho:othersZ t=true)(hk:t.kind=2):partO (N+1) s t=putO s ⟨#[46]⟩:=by rw[partO,if_neg (by simp[ho]),if_neg (by omega),if_pos hk]
theorem part_e3{N:Nat}(ho:othersZ t=true)(hk:t.kind=3):partO (N+1) s t=classO (insideO N) s t:=by rw[partO,if_neg (by simp[ho]),if_neg (by omega),if_neg (by omega),if_pos hk]
theorem part_e5{N:Nat}(ho:othersZ t=true)(hk:t.kind=5):partO (N+1) s t=propO s t.name t.neg:=by rw[partO,if_neg (by simp[ho]),if_neg (by omega),if_neg (by omega),if_neg (by omega),if_pos hk]
theorem part_e8{N:Nat}(ho:othersZ t=true)(hk:t.kind=8):partO (N+1) s t=repeatO (partO N) s t:=by rw[partO,if_neg (by simp[ho]),if_neg (by omega),if_neg (by omega),if_neg (by omega),if_neg (by omega),if_pos hk]
theorem part_e9{N:Nat}(ho:othersZ t=true)(hk:t.kind=9):partO (N+1) s t=groupO (partO N) s t:=by rw[partO,if_neg (by simp[ho]),if_neg (by omega),if_neg (by omega),if_neg (by omega),if_neg (by omega),if_neg (by omega),if_pos hk]
theorem part_e10{N:Nat}(ho:othersZ t=true)(hk:t.kind=10):partO (N+1) s t=enclO (partO N) (textP t.mode lookTexts) s t.kids:=by rw[partO,if_neg (by simp[ho]),if_neg (by omega),if_neg (by omega),if_neg (by omega),if_neg (by omega),if_neg (by omega),if_neg (by omega),if_pos hk]
theorem part_e11{N:Nat}(ho:othersZ t=true)(hk:t.kind=11):partO (N+1) s t=enclO (partO N) ⟨#[40,63,62]⟩ s t.kids:=by rw[partO,if_neg (by simp[ho]),if_neg (by omega),if_neg (by omega),if_neg (by omega),if_neg (by omega),if_neg (by omega),if_neg (by omega),if_neg (by omega),if_pos hk]
theorem part_e12{N:Nat}(ho:othersZ t=true)(hk:t.kind=12):partO (N+1) s t=putO s (textP t.mode asrtTexts):=by rw[partO,if_neg (by simp[ho]),if_neg (by omega),if_neg (by omega),if_neg (by omega),if_neg (by omega),if_neg (by omega),if_neg (by omega),if_neg (by omega),if_neg (by omega),if_pos hk]
theorem part_e13{N:Nat}(ho:othersZ t=true)(hk:t.kind=13):partO (N+1) s t=if 0<t.a∧t.a≤s.groups then putO s (backT t.a)else none:=by rw[partO,if_neg (by simp[ho]),if_neg (by omega),if_neg (by omega),if_neg (by omega),if_neg (by omega),if_neg (by omega),if_neg (by omega),if_neg (by omega),if_neg (by omega),if_neg (by omega),if_pos hk]
theorem part_e14{N:Nat}(ho:othersZ t=true)(hk:t.kind=14):partO (N+1) s t=putO s ⟨#[92,88]⟩:=by rw[partO,if_neg (by simp[ho]),if_neg (by omega),if_neg (by omega),if_neg (by omega),if_neg (by omega),if_neg (by omega),if_neg (by omega),if_neg (by omega),if_neg (by omega),if_neg (by omega),if_neg (by omega),if_pos hk]
theorem part_ex{N:Nat}(ho:othersZ t=true)(h1:¬t.kind=1)(h2:¬t.kind=2)(h3:¬t.kind=3)(h5:¬t.kind=5)(h8:¬t.kind=8)(h9:¬t.kind=9)(h10:¬t.kind=10)(h11:¬t.kind=11)(h12:¬t.kind=12)(h13:¬t.kind=13)(h14:¬t.kind=14):partO (N+1) s t=none:=by rw[partO,if_neg (by simp[ho]),if_neg h1,if_neg h2,if_neg h3,if_neg h5,if_neg h8,if_neg h9,if_neg h10,if_neg h11,if_neg h12,if_neg h13,if_neg h14]
end
theorem con_seq{pt:Wr→Nd→Option Wr}{t:Nd}(hP:∀x∈t.kids,ConP 31 pt x):ConP 25 (seqO pt) t:=by
 intro w0 W base g s v hw c hv
 obtain⟨k,m,a,b,ng,n,st,ks,sa,sc,ao,cap,rfl,rfl,_,_,_,hk1,hk2,_,hkv⟩:=hv.open
 by_cases c6:k=6
 ·subst c6
  cases ho:othersZ (.mk 6 m a b ng n st ks)with
  |false=>rw[seq_e0 (fun h=>by rw[ho]at h;cases h.2)];exact sequence_no c m a b ng n sa _ sc ao _ cap st ks rfl rfl ho
  |true=>rw[seq_e1 rfl ho];exact sequence_w c m a b ng n sa _ sc ao _ cap st ks rfl rfl hk1 (by unfold maxLen at hk2;omega) hkv ho pt (fun t ht W' s' v c' hv'=>hP t ht w0 W' base g s' v hw c' hv')
 ·rw[seq_e0 (t:=.mk k m a b ng n st ks) (fun h=>c6 h.1)];exact sequence_kind c k m a b ng n sa _ sc ao _ cap c6
theorem con_alt{pt:Wr→Nd→Option Wr}{t:Nd}(h7:t.kind=7)(hP:∀x∈t.kids,ConP 25 (seqO pt) x):ConP 26 (altO pt) t:=by
 intro w0 W base g s v hw c hv
 obtain⟨k,m,a,b,ng,n,st,ks,sa,sc,ao,cap,rfl,rfl,_,_,_,hk1,hk2,_,hkv⟩:=hv.open
 obtain rfl:k=7:=h7
 cases ho:othersZ (.mk 7 m a b ng n st ks)with
 |false=>rw[alt_e0 (fun h=>by rw[ho]at h;cases h.1)];exact alternatives_no c m a b ng n sa _ sc ao _ cap st ks rfl rfl ho
 |true=>
  by_cases h2:2≤ks.length
  ·exact alternatives_w c m a b ng n sa _ sc ao _ cap st ks rfl rfl hk1 (by unfold maxLen at hk2;omega) hkv ho h2 (seqO pt) _ (fun x hx=>alt_e1 ho h2 hx) (fun t ht W' s' v c' hv'=>hP t ht w0 W' base g s' v hw c' hv')
  ·rw[alt_e0 (t:=.mk 7 m a b ng n st ks) (fun h=>h2 h.2)]
   exact alternatives_few c m a b ng n sa _ sc ao _ cap st ks rfl rfl ho (decide_eq_true (by omega)) (decide_eq_true (by omega))
/--A kid's kids too are smaller. -/
theorem con_body{pt:Wr→Nd→Option Wr}{t:Nd}(hP:∀x∈t.kids,ConP 31 pt x)(hQ:∀x∈t.kids,∀y∈x.kids,ConP 31 pt y):ConP 16 (bodyO pt) t:=by
 intro w0 W base g s v hw c hv
 have hv0:=hv
 obtain⟨k,m,a,b,ng,n,st,ks,sa,sc,ao,cap,rfl,rfl,_⟩:=hv.open
 by_cases c6:k=6
 ·subst c6;rw[body_e6 rfl]
  exact body_6 c m a b ng n sa _ sc ao _ cap _ (fun W' c'=>con_seq hP w0 W' base g s _ hw c' hv0)
 by_cases c7:k=7
 ·subst c7;rw[body_e7 rfl]
  exact bodyW_7 c m a b ng n sa _ sc ao _ cap _ (fun W' c'=>con_alt rfl (fun x hx=>con_seq (hQ x hx)) w0 W' base g s _ hw c' hv0)
 rw[body_ex (t:=.mk k m a b ng n st ks) c6 c7]
 exact bodyW_no c k m a b ng n sa _ sc ao _ cap (by simpa using c6) (by simpa using c7)
theorem con_encl{pt:Wr→Nd→Option Wr}(hr:PartRun pt){k m a b:Int}{ng:Bool}{n:ByteArray}{st:List R}{ks:List Nd}(op:ByteArray)(hop:op.size≤9223372036854775807)(hB:∀x∈ks,ConP 16 (bodyO pt) x){w0 W:World}{base g:Nat}{s:Wr}{v:Value}(hw:Pw w0)(c:Cx w0 W base g s)(hv:NV base w0 (.mk k m a b ng n st ks) v):
  Met 45 #[.pointer (some ⟨g,0,none⟩),.string op,v] w0 W base g (enclO pt op s ks):=by
 obtain⟨k,m,a,b,ng,n,st,ks,sa,sc,ao,cap,e,rfl,_,_,_,hk1,hk2,_,hkv⟩:=hv.open
 cases e
 by_cases hl:ks.length=1
 ·obtain⟨x,rfl⟩:=one_list ks hl
  obtain⟨kb,ko,rfl,hkb,hka⟩:=kb_lt hkv (by simp)
  obtain⟨lk,lm,la,lb,lg,ln,ls,lkk,lsa,lsc,lao,lcap,rfl,al,nl⟩:=kid_at hka (i:=0) rfl
  have al':At8 w0 kb ko (.agg (n8 lk lm la lb lg ln lsa ls.length lsc lao lkk.length lcap)):=by simpa using al
  exact enclosed_w c op hop k m a b ng n sa _ sc kb ko cap (by simpa using hk1) _ _ _ _ _ _ _ _ al' hkb (fun s'=>bodyO pt s' _) (fun W' s' c'=>hB _ (by simp) w0 W' base g s' _ hw c' nl) (fun s1 s2 h g=>(body_run hr h g).dep)
 ·have e:enclO pt op s ks=none:=by
   match ks,hl with
   |[],_=>rfl
   |[x],h=>exact absurd rfl h
   |x::y::r,_=>rfl
  rw[e]
  exact enclosed_no c op k m a b ng n sa _ sc ao _ cap (by omega) hl
theorem con_repeat{pt:Wr→Nd→Option Wr}{t:Nd}(hP:∀x∈t.kids,ConP 31 pt x):ConP 43 (repeatO pt) t:=by
 intro w0 W base g s v hw c hv
 obtain⟨k,m,a,b,ng,n,st,ks,sa,sc,ao,cap,rfl,rfl,⟨_,_,hia,hib⟩,_,_,hk1,hk2,_,hkv⟩:=hv.open
 by_cases hl:ks.length=1
 ·obtain⟨x,rfl⟩:=one_list ks hl
  obtain⟨kb,ko,rfl,hkb,hka⟩:=kb_lt hkv (by simp)
  obtain⟨lk,lm,la,lb,lg,ln,ls,lkk,lsa,lsc,lao,lcap,rfl,al,nl⟩:=kid_at hka (i:=0) rfl
  have al':At8 w0 kb ko (.agg (n8 lk lm la lb lg ln lsa ls.length lsc lao lkk.length lcap)):=by simpa using al
  have hcap:1≤cap:=by simpa using hk1
  have er:repeatO pt s (.mk k m a b ng n st [.mk lk lm la lb lg ln ls lkk])=if repB lk=true∧0≤m∧m≤2∧(timesT a b).size≠0 then(pt s (.mk lk lm la lb lg ln ls lkk)).bind fun s1=>putO s1 (timesT a b++textP m modeTexts)else none:=rfl
  rw[er]
  by_cases hb:repB lk=true∧0≤m∧m≤2
  ·have C:=repeat_w c k m a b ng n sa st.length sc kb ko cap hcap lk _ _ _ _ _ _ _ al' hkb hb.1 hb.2.1 hb.2.2 hia hib hw (fun s'=>pt s' _) (fun W' s' c'=>hP _ (by simp[Nd.kids]) w0 W' base g s' _ hw c' nl)
   by_cases hz:(timesT a b).size=0
   ·rw[if_neg (fun h=>h.2.2.2 hz)];rw[if_pos hz]at C;exact C
   ·rw[if_pos ⟨hb.1,hb.2.1,hb.2.2,hz⟩];rw[if_neg hz]at C;exact C
  ·rw[if_neg (fun h=>hb ⟨h.1,h.2.1,h.2.2.1⟩)]
   refine repeat_not c k m a b ng n sa _ sc kb ko cap hcap lk _ _ _ _ _ _ _ al' hkb ?_
   cases hq:repB lk with
   |false=>exact .inl rfl
   |true=>right;by_cases h0:m<0;exact .inl h0;right;exact Decidable.byContradiction fun h=>hb ⟨hq,by omega,by omega⟩
 ·have e:repeatO pt s (.mk k m a b ng n st ks)=none:=by
   match ks,hl with
   |[],_=>rfl
   |[x],h=>exact absurd rfl h
   |x::y::r,_=>rfl
  rw[e]
  exact repeat_few c k m a b ng n sa _ sc ao _ cap (by omega) hl
theorem isE{n:ByteArray}(h:n.size=0):n.toList.isEmpty=true:=lin.isEmpty_of h
theorem isNE{n:ByteArray}(h:¬n.size=0):n.toList.isEmpty=false:=lin.isEmpty_not h
theorem con_group{pt:Wr→Nd→Option Wr}(hr:PartRun pt){t:Nd}(hs:shortN t)(hB:∀x∈t.kids,ConP 16 (bodyO pt) x):ConP 44 (groupO pt) t:=by
 intro w0 W base g s v hw c hv
 have hv0:=hv
 obtain⟨k,m,a,b,ng,n,st,ks,sa,sc,ao,cap,rfl,rfl,_⟩:=hv.open
 rw[shortN]at hs
 have hos:=openNW_size n hs.1
 have e0:groupO pt s (.mk k m a b ng n st ks)=if a=0∧n.size=0 then enclO pt ⟨#[40,63,58]⟩ s ks else if a≠s.groups+1∨20<a then none else if n.size=0 then enclO pt ⟨#[40]⟩ s.grp ks else if namedB (openN n) n=true∧Lib.containsS s.names n=false then enclO pt (openN n) (s.grp.nam n) ks else none:=rfl
 rw[e0]
 by_cases h1:a=0∧n.size=0
 ·rw[if_pos h1]
  obtain⟨rfl,hz⟩:=h1
  exact group_0 c k m b ng n sa _ sc ao _ cap (isE hz) _ (fun W' c'=>con_encl hr _ (by decide) hB hw c' hv0)
 rw[if_neg h1]
 by_cases h2:a≠s.groups+1∨20<a
 ·rw[if_pos h2]
  by_cases z:a=0
  ·subst z
   exact group_a c k m b ng n sa _ sc ao _ cap (isNE (fun h=>h1 ⟨rfl,h⟩))
  by_cases z1:a=s.groups+1
  ·subst z1
   exact group_c c k m b s.groups ng n sa _ sc ao _ cap rfl (by omega)
  ·exact group_b c k m a b ng n sa _ sc ao _ cap z z1
 rw[if_neg h2]
 obtain⟨rfl,h20⟩:a=s.groups+1∧s.groups+1≤20:=by omega
 by_cases h3:n.size=0
 ·rw[if_pos h3]
  exact group_1 c k m b s.groups ng n sa _ sc ao _ cap rfl h20 (isE h3) _ (fun W' c'=>con_encl hr _ (by decide) hB hw c' hv0)
 rw[if_neg h3]
 cases hq:namedB (openN n) n with
 |false=>rw[if_neg (by simp)];exact group_n0 c k m b s.groups ng n sa _ sc ao _ cap rfl h20 (isNE h3) hs.1 hq
 |true=>
 cases hc:Lib.containsS s.names n with
 |true=>rw[if_neg (by simp)];exact group_n1 c k m b s.groups ng n sa _ sc ao _ cap rfl h20 (isNE h3) hs.1 hq hc
 |false=>
  rw[if_pos ⟨rfl,rfl⟩]
  exact group_2 c k m b s.groups ng n sa _ sc ao _ cap rfl h20 (isNE h3) hs.1 hq hc _ (fun W' c'=>con_encl hr _ (by omega) hB hw c' hv0)
theorem con_part:∀(N:Nat)(t:Nd),t.sz≤N→shortN t→ConP 31 (partO N) t:=by
 intro N
 induction N with
 |zero=>intro t h;obtain⟨k,m,a,b,g,n,s,ks⟩:=t;rw[Nd.sz]at h;omega
 |succ N ih=>
  intro t hz hs w0 W base g s v hw c hv
  have hv0:=hv
  have hcl:=con_class (inside_run N) (con_inside N t hz hs)
  obtain⟨k,m,a,b,ng,n,st,ks,sa,sc,ao,cap,rfl,rfl,_⟩:=hv.open
  have hs0:=hs
  rw[Nd.sz]at hz
  rw[shortN]at hs
  have hP:∀x∈ks,ConP 31 (partO N) x:=fun x hx=>ih x (by have:=szL_mem hx;omega) (short_mem hs.2 hx)
  have hB:∀x∈ks,ConP 16 (bodyO (partO N)) x:=fun x hx=>by
   have hx1:=szL_mem hx
   have hx2:=short_mem hs.2 hx
   obtain⟨k',m',a',b',g',n',s',kk⟩:=x
   rw[Nd.sz]at hx1
   rw[shortN]at hx2
   refine con_body (fun y hy=>?_) (fun y hy z hzz=>?_)
   ·have:y.sz≤szL kk:=szL_mem hy
    exact ih y (by omega) (short_mem hx2.2 hy)
   ·have h1:y.sz≤szL kk:=szL_mem hy
    have h2:=short_mem hx2.2 hy
    obtain⟨k2,m2,a2,b2,g2,n2,s2,kk2⟩:=y
    rw[Nd.sz]at h1
    rw[shortN]at h2
    have h3:z.sz≤szL kk2:=szL_mem hzz
    exact ih z (by omega) (short_mem h2.2 hzz)
  cases ho:othersZ (.mk k m a b ng n st ks)with
  |false=>
   rw[part_e0 ho]
   exact part_no c k m a b ng n sa _ sc ao _ cap st ks rfl rfl ho none rfl
  |true=>
   by_cases c1:k=1
   ·subst c1;rw[part_e1 ho rfl]
    exact partW_1 c m a b ng n sa _ sc ao _ cap st ks rfl rfl ho (print_size _ _)
   by_cases c2:k=2
   ·subst c2;rw[part_e2 ho rfl]
    exact partW_2 c m a b ng n sa _ sc ao _ cap st ks rfl rfl ho
   by_cases c3:k=3
   ·subst c3;rw[part_e3 ho rfl]
    exact partW_3 c m a b ng n sa _ sc ao _ cap st ks rfl rfl ho _ (fun W' c'=>hcl w0 W' base g s _ c' hv0)
   by_cases c5:k=5
   ·subst c5;rw[part_e5 ho rfl]
    exact partW_5 c m a b ng n sa _ sc ao _ cap st ks rfl rfl ho hs.1
   by_cases c8:k=8
   ·subst c8;rw[part_e8 ho rfl]
    exact partW_8 c m a b ng n sa _ sc ao _ cap st ks rfl rfl ho _ (fun W' c'=>con_repeat (t:=.mk 8 m a b ng n st ks) hP w0 W' base g s _ hw c' hv0)
   by_cases c9:k=9
   ·subst c9;rw[part_e9 ho rfl]
    exact partW_9 c m a b ng n sa _ sc ao _ cap st ks rfl rfl ho _ (fun W' c'=>con_group (t:=.mk 9 m a b ng n st ks) (part_run N) hs0 hB w0 W' base g s _ hw c' hv0)
   by_cases c10:k=10
   ·subst c10;rw[part_e10 ho rfl]
    exact partW_10 c m a b ng n sa _ sc ao _ cap st ks rfl rfl ho _ (fun W' c'=>con_encl (part_run N) _ (by have:=texts_size m lookTexts 4 (by decide);omega) hB hw c' hv0)
   by_cases c11:k=11
   ·subst c11;rw[part_e11 ho rfl]
    exact partW_11 c m a b ng n sa _ sc ao _ cap st ks rfl rfl ho _ (fun W' c'=>con_encl (part_run N) _ (by decide) hB hw c' hv0)
   by_cases c12:k=12
   ·subst c12;rw[part_e12 ho rfl]
    exact partW_12 c m a b ng n sa _ sc ao _ cap st ks rfl rfl ho
   by_cases c13:k=13
   ·subst c13;rw[part_e13 ho rfl]
    exact partW_13 c m a b ng n sa _ sc ao _ cap st ks rfl rfl ho hw
   by_cases c14:k=14
   ·subst c14;rw[part_e14 ho rfl]
    exact partW_14 c m a b ng n sa _ sc ao _ cap st ks rfl rfl ho
   rw[part_ex (t:=.mk k m a b ng n st ks) ho c1 c2 c3 c5 c8 c9 c10 c11 c12 c13 c14]
   exact part_other c k m a b ng n sa _ sc ao _ cap st ks rfl rfl ho none rfl (by simpa using c1) (by simpa using c2) (by simpa using c3) (by simpa using c5) (by simpa using c8) (by simpa using c9) (by simpa using c10) (by simpa using c11) (by simpa using c12) (by simpa using c13) (by simpa using c14)
end Go.Proofs.YtbbeciofgnkggaaGreatDoor.tre
end
