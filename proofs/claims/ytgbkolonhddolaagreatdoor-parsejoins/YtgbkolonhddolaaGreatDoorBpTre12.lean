import Derived.Test.YtgbkolonhddolaaGreatDoorBpTre11
import Derived.Test.YtgbkolonhddolaaGreatDoorBpNod1
import Derived.Deep.AppendLies
import Derived.Test.YtgbkolonhddolaaGreatDoorBpTre7
import Derived.Test.YtgbkolonhddolaaGreatDoorBpTre8
import Derived.Test.YtgbkolonhddolaaGreatDoorBpTre10
import Derived.Test.YtgbkolonhddolaaGreatDoorBpTre1
set_option linter.unusedSimpArgs false
set_option linter.unusedVariables false
set_option maxRecDepth 100000
set_option maxHeartbeats 2000000
theorem Go.Proofs.YtgbkolonhddolaaGreatDoor.hd38{p:Prop}(h:p):Go.RowKit.Hid p:=h
namespace Go.Proofs.YtgbkolonhddolaaGreatDoor.tre
open Go.RowKit nod
open rng(R RV aH ag below_drewN info_parts own_below')
open tok(PEnv TX ak)
theorem group_2{w0 W:World}{base g:Nat}{s:Wr}(c:Cx w0 W base g s)(k m b G:Int)(ng:Bool)(n:ByteArray)(sa:Option Addr)(sl sc:Nat)(ao:Option Addr)(nk cap:Nat)(hG:s.groups=G)(h20:G+1≤20)(hn:n.toList.isEmpty=false)(hns:n.size≤140737488355327)(hq:fU (fC n) n=true)(hc:Lib.containsS s.names n=false)(Pc:Option Wr)(HC:∀W',Cx w0 W' base g (s.dS.nam n)→Met 91 #[.pointer (some ⟨g,0,none⟩),.string (fC n),.agg #[.int .i64 k,.int .i64 m,.int .i64 (G+1),.int .i64 b,.bool ng,.string n,.slice sa sl sc,.slice ao nk cap]] w0 W' base g (Pc)):Met 90 #[.pointer (some ⟨g,0,none⟩),.agg #[.int .i64 k,.int .i64 m,.int .i64 (G+1),.int .i64 b,.bool ng,.string n,.slice sa sl sc,.slice ao nk cap]] w0 W base g (Pc):=by
  have HS:Hid (Sn w0 W base g W.heap.size #[.int .i64 k,.int .i64 m,.int .i64 (G+1),.int .i64 b,.bool ng,.string n,.slice sa sl sc,.slice ao nk cap] s (W.alloc (.cells #[.int .i64 k,.int .i64 m,.int .i64 (G+1),.int .i64 b,.bool ng,.string n,.slice sa sl sc,.slice ao nk cap] 26))):=Sn.start c _
  have gc:=HS.out.cx.c.wr.gX
  have hg0:=c.gd.g.g0
  have hg1:=c.gd.g.g1
  have hgs:=c.c.wr.lt
  have gf:=(show((W.alloc (.cells #[.int .i64 k,.int .i64 m,.int .i64 (G+1),.int .i64 b,.bool ng,.string n,.slice sa sl sc,.slice ao nk cap] 26))).frozen? ⟨g,4,none⟩=false from by obtain⟨_,p,bv,nv,h1,_⟩:=HS.out.cx.c.wr;exact Lib.frozen_of_heap h1 4)
  rw[hG]at gc hg0 hg1
  have hw:IntKind.i64.wrap (G+1)=G+1:=by rw[IntKind.wrap_i64];omega
  have f0:((G+1)==0)=false:=by simp;omega
  have f0':¬G+1=0:=by omega
  have f2:decide (20<G+1)=false:=decide_eq_false (by omega)
  have HSG:Hid (∀nq,Sn w0 W base g W.heap.size #[.int .i64 k,.int .i64 m,.int .i64 (G+1),.int .i64 b,.bool ng,.string n,.slice sa sl sc,.slice ao nk cap] s.dS (((W.alloc (.cells #[.int .i64 k,.int .i64 m,.int .i64 (G+1),.int .i64 b,.bool ng,.string n,.slice sa sl sc,.slice ao nk cap] 26)).drewN nq).setCell ⟨g,4,none⟩ (.int .i64 (G+1)))):=fun nq=>Sn.dS HS.out G hG h20 nq
  have hOs:=ky n hns
  have HN:Hid (∀V,Sn w0 W base g W.heap.size #[.int .i64 k,.int .i64 m,.int .i64 (G+1),.int .i64 b,.bool ng,.string n,.slice sa sl sc,.slice ao nk cap] s.dS V→∀W',Below V.heap.size V W'→Calls Tryz.prog 116 #[.string (fC n),.string n] W' fun e w'=>e=.returned (.bool (fU (fC n) n))∧Below V.heap.size V w'):=fun V S W' h=>(mD _ n (by omega) W' (S.quiet h).cx.c.penv.mks).mono fun e w'⟨h1,h2⟩=>⟨h1,h.trans (ae h2 h.size)⟩
  rw[hq]at HN
  have HQC:Hid (Lib.containsS s.dS.names n=false):=hc
  have HGG:Hid (Gd (s.dS.nam n)):=J4 c.gd (by omega) n
  have hnl:=c.gd.g.n1
  have HP:Hid (∀W',Sn w0 W base g W.heap.size #[.int .i64 k,.int .i64 m,.int .i64 (G+1),.int .i64 b,.bool ng,.string n,.slice sa sl sc,.slice ao nk cap] (s.dS.nam n) W'→Calls Tryz.prog 91 #[.pointer (some ⟨g,0,none⟩),.string (fC n),.agg #[.int .i64 k,.int .i64 m,.int .i64 (G+1),.int .i64 b,.bool ng,.string n,.slice sa sl sc,.slice ao nk cap]] W' fun e w'=>e=.returned (.bool (Pc).isSome)∧(∀s',Pc=some s'→Cx w0 w' base g s')∧Kt base W w'):=fun W' S=>Met.sn (HC W' S.cx) S
  have s1:ByteArray.size ⟨#[40,63,60]⟩=3:=rfl
  have s2:ByteArray.size ⟨#[62]⟩=1:=rfl
  unfold Met fC at*
  obtain⟨Y,hY⟩:∃Y,(⟨#[40,63,60]⟩:ByteArray)++n=Y:=⟨_,rfl⟩
  have d1:Y.size=n.size+3:=by rw[←hY,ByteArray.size_append,s1];omega
  rw[hY]at*
  obtain⟨OT,hOT⟩:∃OT,Y++(⟨#[62]⟩:ByteArray)=OT:=⟨_,rfl⟩
  rw[hOT]at*
  clear c hG hq hc HC
  generalize Pc=P at*
  obtain⟨i0,hi,hz0,hz1,hz2⟩:=info_parts mF
  go_enter Tryz.func90,Tryz.ntmps90
  go_wp2
  go_quiet(fail)
  go_wp2
  obtain⟨V,HV⟩:∃V,(((W.alloc (.cells #[.int .i64 k,.int .i64 m,.int .i64 (G+1),.int .i64 b,.bool ng,.string n,.slice sa sl sc,.slice ao nk cap] 26)).drewN nq).setCell ⟨g,4,none⟩ (.int .i64 (G+1)))=V:=⟨_,rfl⟩
  have SV:Sn w0 W base g W.heap.size #[.int .i64 k,.int .i64 m,.int .i64 (G+1),.int .i64 b,.bool ng,.string n,.slice sa sl sc,.slice ao nk cap] s.dS V:=HV▸HSG.out nq
  rw[HV]
  have K1:=HN.out V SV
  obtain⟨na,nc,hnc,hrow,KC⟩:=vF SV.cx n
  rw[show Lib.containsS s.dS.names n=false from HQC.out]at KC
  have y5:∀p:nG V.heap.size V,p.w.cell? ⟨g,5,none⟩=some (.slice na s.dS.names.length nc):=fun p=>(p.h.cell (p:=⟨g,5,none⟩) SV.cx.c.wr.lt).trans hnc
  have ui:Hid _:=KC
  have HNC:=hd38 hnc
  have HRW:=hd38 hrow
  clear hnc hrow KC
  have x5:∀p:nG V.heap.size V,p.w.cell? ⟨W.heap.size,5,none⟩=some (.string n):=fun p=>(SV.quiet p.h).bk.cell 5 rfl
  have HSV:=hd38 SV
  have oU:Hid _:=K1
  clear HN HSG SV K1 gc gf HS HV
  refine iF V.heap.size V Ck (by kernel_rfl) (Below.drew (Below.refl _ V)) ?_
  repeat (refine wpQuiet_step (fun K hK=>?_)
          go_simp
          first
            |(refine hK _ ?_;clear hK K)
            | (apply Exists.intro
               refine⟨fun _=>?_,hK _ ?_⟩
               (first
                 |(go_at_call 116;refine eP oU.out _)
                 |(go_at_call 40;refine eP ui.out _))
               clear hK K))
  refine wpQuiet_nil ?_
  rintro _⟨p,rfl⟩
  have HSP:=hd38 (HSV.out.quiet p.h)
  obtain⟨U,HU⟩:∃U,p.w=U:=⟨_,rfl⟩
  have z5:=y5 p
  have HRU:Hid (U.ownsRow base 9 1 (.slice na s.dS.names.length nc) s.dS.names.length (s.dS.names.map Value.string)):=HU▸own_below' HRW.out p.h
  have HSU:Hid (Sn w0 W base g W.heap.size #[.int .i64 k,.int .i64 m,.int .i64 (G+1),.int .i64 b,.bool ng,.string n,.slice sa sl sc,.slice ao nk cap] s.dS U):=HU▸HSP.out
  rw[HU]at z5⊢
  clear x5 y5 HSP HSV HRW HNC oU ui HU
  have HZ5:=hd38 z5
  have e5:=HSU.out.bk.cell 5 (u:=.string n) rfl
  have hls:=HSU.out.bk.lt
  have hgu:=HSU.out.cx.c.wr.lt
  have hbu:=HSU.out.cx.c.size
  have hnl':s.dS.names.length≤20:=hnl
  obtain⟨NL,hNL⟩:∃NL,s.dS.names.length=NL:=⟨_,rfl⟩
  rw[hNL]at z5 HZ5 HRU hnl'
  have IP:Hid (s.dS.names.length=NL):=hNL
  clear hNL
  go_wp2
  refine wp_region_any (by kernel_rfl) ?_
  try(change wpAny _ _ _ _ _ _ _ (World.drew _))
  refine wpAny_take (i:=0) (v:=?_) rfl (by kernel_rfl) (by kernel_rfl) (by kernel_rfl) (fun _ _ _ h=>h) (Or.inl ⟨by rfl,?_⟩) ?_
  rotate_left
  · (intro w';go_simp;try with_reducible rfl)
  try simp only[Act.put,List.setIfInBounds_toArray,List.set_cons_zero,List.set_cons_succ,List.getElem_toArray,List.getElem_cons_zero,List.getElem_cons_succ]
  refine wpAny_take (i:=1) (v:=?_) rfl (by kernel_rfl) (by kernel_rfl) (by kernel_rfl) (fun _ _ _ h=>h) (Or.inl ⟨by rfl,?_⟩) ?_
  rotate_left
  · (intro w';go_simp;try with_reducible rfl)
  try simp only[Act.put,List.setIfInBounds_toArray,List.set_cons_zero,List.set_cons_succ,List.getElem_toArray,List.getElem_cons_zero,List.getElem_cons_succ]
  refine wpAny_take (i:=2) (v:=?_) rfl (by kernel_rfl) (by kernel_rfl) (by kernel_rfl) (fun _ _ _ h=>h) (Or.inl ⟨by rfl,?_⟩) ?_
  rotate_left
  · (intro w';go_simp;try with_reducible rfl)
  try simp only[Act.put,List.setIfInBounds_toArray,List.set_cons_zero,List.set_cons_succ,List.getElem_toArray,List.getElem_cons_zero,List.getElem_cons_succ]
  refine wpAny_take (i:=3) (v:=?_) rfl (by kernel_rfl) (by kernel_rfl) (by kernel_rfl) (fun _ _ _ h=>h) (Or.inl ⟨by rfl,?_⟩) ?_
  rotate_left
  · (intro w';go_simp;try with_reducible rfl)
  try simp only[Act.put,List.setIfInBounds_toArray,List.set_cons_zero,List.set_cons_succ,List.getElem_toArray,List.getElem_cons_zero,List.getElem_cons_succ]
  refine wpAny_take (i:=5) (v:=?_) rfl (by kernel_rfl) (by kernel_rfl) (by kernel_rfl) (fun _ _ _ h=>h) (Or.inl ⟨by rfl,?_⟩) ?_
  rotate_left
  · (intro w';go_simp;try with_reducible rfl)
  try simp only[Act.put,List.setIfInBounds_toArray,List.set_cons_zero,List.set_cons_succ,List.getElem_toArray,List.getElem_cons_zero,List.getElem_cons_succ]
  refine wpAny_ready (rs:=[4,6]) (by kernel_rfl) (by simp) ?_
  refine AllReady.cons rfl (fun K hK=>?_) (AllReady.cons rfl (fun K hK=>?_) AllReady.nil)
  · go_simp
    refine hK _ _ ?_
    clear hK K
    try simp only[Act.put,List.setIfInBounds_toArray,List.set_cons_zero,List.set_cons_succ,List.getElem_toArray,List.getElem_cons_zero,List.getElem_cons_succ]
    refine wpAny_ready (rs:=[6]) (by kernel_rfl) (by simp) ?_
    refine AllReady.cons rfl (fun K hK=>?_) AllReady.nil
    go_simp
    refine hK _ _ ?_
    clear hK K
    try simp only[Act.put,List.setIfInBounds_toArray,List.set_cons_zero,List.set_cons_succ,List.getElem_toArray,List.getElem_cons_zero,List.getElem_cons_succ]
    refine wpAny_ready (rs:=[7]) (by kernel_rfl) (by simp) ?_
    refine AllReady.cons rfl (fun K hK=>?_) AllReady.nil
    go_simp
    refine hK _ _ ?_
    clear hK K
    try simp only[Act.put,List.setIfInBounds_toArray,List.set_cons_zero,List.set_cons_succ,List.getElem_toArray,List.getElem_cons_zero,List.getElem_cons_succ]
    refine wpAny_ready (rs:=[8]) (by kernel_rfl) (by simp) ?_
    refine AllReady.cons rfl (fun K hK=>?_) AllReady.nil
    have BW:Below U.heap.size U (U.alloc (.cells #[.string n] 9)).drew:=Below.drew ((Below.refl _ U).alloc (Nat.le_refl _) _)
    have NW:Bk (U.alloc (.cells #[.string n] 9)).drew U.heap.size #[.string n] 9:=Bk.new U _ _
    refine step_append_lies _ rfl _ _ 62 rfl base 9 i0 (.string ⟨#[]⟩) 1 16 Tryz.underlying62 hi hz0 hz1 hz2 rfl (by decide) (.slice na NL nc) NL (s.dS.names.map Value.string) (by simp[Act.eval,Act.put]) (own_below' HRU.out BW) ⟨U.heap.size,0,none⟩ 1 1 [.string n] (by simp[Act.eval,Act.put]) rfl (fun j u hj=>by
      match j,hj with
      |0,hj=>simp at hj;subst hj;exact NW.cell 0 rfl
      |j+1,hj=>simp at hj) (fun u hu=>by simp at hu;subst hu;rfl) (by decide) (by unfold maxLen;omega) (by omega) (by have:=BW.size;omega) _ rfl ?_
    intro gb cp w4 di fZ _ _
    obtain⟨m1,m2,m3⟩:=su (s:=s.dS) HSU.out BW n (by rw[IP.out];exact HZ5.out) HGG.out (by rw[IP.out];exact di) (by rw[IP.out];exact fZ)
    rw[IP.out]at m1 m3
    have lW:=hd38 m3
    clear di fZ BW NW m3
    refine hK _ _ ?_
    clear hK K
    try simp only[Act.put,List.setIfInBounds_toArray,List.set_cons_zero,List.set_cons_succ,List.getElem_toArray,List.getElem_cons_zero,List.getElem_cons_succ]
    refine wpAny_take (i:=9) (v:=?_) rfl (by kernel_rfl) (by kernel_rfl) (by kernel_rfl) (fun _ _ _ h=>h) (Or.inl ⟨by rfl,?_⟩) ?_
    rotate_left
    · (intro w';go_simp;try with_reducible rfl)
    try simp only[Act.put,List.setIfInBounds_toArray,List.set_cons_zero,List.set_cons_succ,List.getElem_toArray,List.getElem_cons_zero,List.getElem_cons_succ]
    refine wpAny_take (i:=10) (v:=?_) rfl (by kernel_rfl) (by kernel_rfl) (by kernel_rfl) (fun _ _ _ h=>h) (Or.inl ⟨by rfl,?_⟩) ?_
    rotate_left
    · (intro w';go_simp;try with_reducible rfl)
    try simp only[Act.put,List.setIfInBounds_toArray,List.set_cons_zero,List.set_cons_succ,List.getElem_toArray,List.getElem_cons_zero,List.getElem_cons_succ]
    refine wpAny_ready (rs:=[11]) (by kernel_rfl) (by simp) ?_
    refine AllReady.cons rfl (fun K hK=>?_) AllReady.nil
    go_simp
    refine hK _ _ ?_
    clear hK K
    try simp only[Act.put,List.setIfInBounds_toArray,List.set_cons_zero,List.set_cons_succ,List.getElem_toArray,List.getElem_cons_zero,List.getElem_cons_succ]
    refine wpAny_done (by kernel_rfl) ?_ _
    have q0:=lW.out.bk
    obtain⟨V4,HV4⟩:∃V4,w4.setCell ⟨g,5,none⟩ (.slice (some ⟨gb,0,none⟩) (NL+1) cp)=V4:=⟨_,rfl⟩
    rw[HV4]at lW⊢
    have x0:=lW.out.bk.cell 0 (u:=.int .i64 k) rfl
    have x1:=lW.out.bk.cell 1 (u:=.int .i64 m) rfl
    have x2:=lW.out.bk.cell 2 (u:=.int .i64 (G+1)) rfl
    have x3:=lW.out.bk.cell 3 (u:=.int .i64 b) rfl
    have x4:=lW.out.bk.cell 4 (u:=.bool ng) rfl
    have x5:=lW.out.bk.cell 5 (u:=.string n) rfl
    have x6:=lW.out.bk.cell 6 (u:=.slice sa sl sc) rfl
    have x7:=lW.out.bk.cell 7 (u:=.slice ao nk cap) rfl
    clear q0 HV4 m1 m2
    go_wp2_with(first
      |(go_at_call 91;refine(HP.out _ lW.out).mono ?_;rintro e w9⟨rfl,d1,d2⟩;have HT1:Hid (∀s',_=some s'→Cx w0 w9 base g s'):=d1;have HT2:Hid (Kt base W w9):=d2;clear d1 d2))
    go_ret
    exact⟨ag (by first|rfl|simp),HT1.out,HT2.out⟩
  · go_simp
    refine hK _ _ ?_
    clear hK K
    try simp only[Act.put,List.setIfInBounds_toArray,List.set_cons_zero,List.set_cons_succ,List.getElem_toArray,List.getElem_cons_zero,List.getElem_cons_succ]
    refine wpAny_ready (rs:=[4,7]) (by kernel_rfl) (by simp) ?_
    refine AllReady.cons rfl (fun K hK=>?_) (AllReady.cons rfl (fun K hK=>?_) AllReady.nil)
    · go_simp
      refine hK _ _ ?_
      clear hK K
      try simp only[Act.put,List.setIfInBounds_toArray,List.set_cons_zero,List.set_cons_succ,List.getElem_toArray,List.getElem_cons_zero,List.getElem_cons_succ]
      refine wpAny_ready (rs:=[7]) (by kernel_rfl) (by simp) ?_
      refine AllReady.cons rfl (fun K hK=>?_) AllReady.nil
      go_simp
      refine hK _ _ ?_
      clear hK K
      try simp only[Act.put,List.setIfInBounds_toArray,List.set_cons_zero,List.set_cons_succ,List.getElem_toArray,List.getElem_cons_zero,List.getElem_cons_succ]
      refine wpAny_ready (rs:=[8]) (by kernel_rfl) (by simp) ?_
      refine AllReady.cons rfl (fun K hK=>?_) AllReady.nil
      have BW:Below U.heap.size U (U.alloc (.cells #[.string n] 9)).drew:=Below.drew ((Below.refl _ U).alloc (Nat.le_refl _) _)
      have NW:Bk (U.alloc (.cells #[.string n] 9)).drew U.heap.size #[.string n] 9:=Bk.new U _ _
      refine step_append_lies _ rfl _ _ 62 rfl base 9 i0 (.string ⟨#[]⟩) 1 16 Tryz.underlying62 hi hz0 hz1 hz2 rfl (by decide) (.slice na NL nc) NL (s.dS.names.map Value.string) (by simp[Act.eval,Act.put]) (own_below' HRU.out BW) ⟨U.heap.size,0,none⟩ 1 1 [.string n] (by simp[Act.eval,Act.put]) rfl (fun j u hj=>by
        match j,hj with
        |0,hj=>simp at hj;subst hj;exact NW.cell 0 rfl
        |j+1,hj=>simp at hj) (fun u hu=>by simp at hu;subst hu;rfl) (by decide) (by unfold maxLen;omega) (by omega) (by have:=BW.size;omega) _ rfl ?_
      intro gb cp w4 di fZ _ _
      obtain⟨m1,m2,m3⟩:=su (s:=s.dS) HSU.out BW n (by rw[IP.out];exact HZ5.out) HGG.out (by rw[IP.out];exact di) (by rw[IP.out];exact fZ)
      rw[IP.out]at m1 m3
      have lW:=hd38 m3
      clear di fZ BW NW m3
      refine hK _ _ ?_
      clear hK K
      try simp only[Act.put,List.setIfInBounds_toArray,List.set_cons_zero,List.set_cons_succ,List.getElem_toArray,List.getElem_cons_zero,List.getElem_cons_succ]
      refine wpAny_take (i:=9) (v:=?_) rfl (by kernel_rfl) (by kernel_rfl) (by kernel_rfl) (fun _ _ _ h=>h) (Or.inl ⟨by rfl,?_⟩) ?_
      rotate_left
      · (intro w';go_simp;try with_reducible rfl)
      try simp only[Act.put,List.setIfInBounds_toArray,List.set_cons_zero,List.set_cons_succ,List.getElem_toArray,List.getElem_cons_zero,List.getElem_cons_succ]
      refine wpAny_take (i:=10) (v:=?_) rfl (by kernel_rfl) (by kernel_rfl) (by kernel_rfl) (fun _ _ _ h=>h) (Or.inl ⟨by rfl,?_⟩) ?_
      rotate_left
      · (intro w';go_simp;try with_reducible rfl)
      try simp only[Act.put,List.setIfInBounds_toArray,List.set_cons_zero,List.set_cons_succ,List.getElem_toArray,List.getElem_cons_zero,List.getElem_cons_succ]
      refine wpAny_ready (rs:=[11]) (by kernel_rfl) (by simp) ?_
      refine AllReady.cons rfl (fun K hK=>?_) AllReady.nil
      go_simp
      refine hK _ _ ?_
      clear hK K
      try simp only[Act.put,List.setIfInBounds_toArray,List.set_cons_zero,List.set_cons_succ,List.getElem_toArray,List.getElem_cons_zero,List.getElem_cons_succ]
      refine wpAny_done (by kernel_rfl) ?_ _
      have q0:=lW.out.bk
      obtain⟨V4,HV4⟩:∃V4,w4.setCell ⟨g,5,none⟩ (.slice (some ⟨gb,0,none⟩) (NL+1) cp)=V4:=⟨_,rfl⟩
      rw[HV4]at lW⊢
      have x0:=lW.out.bk.cell 0 (u:=.int .i64 k) rfl
      have x1:=lW.out.bk.cell 1 (u:=.int .i64 m) rfl
      have x2:=lW.out.bk.cell 2 (u:=.int .i64 (G+1)) rfl
      have x3:=lW.out.bk.cell 3 (u:=.int .i64 b) rfl
      have x4:=lW.out.bk.cell 4 (u:=.bool ng) rfl
      have x5:=lW.out.bk.cell 5 (u:=.string n) rfl
      have x6:=lW.out.bk.cell 6 (u:=.slice sa sl sc) rfl
      have x7:=lW.out.bk.cell 7 (u:=.slice ao nk cap) rfl
      clear q0 HV4 m1 m2
      go_wp2_with(first
        |(go_at_call 91;refine(HP.out _ lW.out).mono ?_;rintro e w9⟨rfl,d1,d2⟩;have HT1:Hid (∀s',_=some s'→Cx w0 w9 base g s'):=d1;have HT2:Hid (Kt base W w9):=d2;clear d1 d2))
      go_ret
      exact⟨ag (by first|rfl|simp),HT1.out,HT2.out⟩
    · go_simp
      refine hK _ _ ?_
      clear hK K
      try simp only[Act.put,List.setIfInBounds_toArray,List.set_cons_zero,List.set_cons_succ,List.getElem_toArray,List.getElem_cons_zero,List.getElem_cons_succ]
      refine wpAny_ready (rs:=[4]) (by kernel_rfl) (by simp) ?_
      refine AllReady.cons rfl (fun K hK=>?_) AllReady.nil
      go_simp
      refine hK _ _ ?_
      clear hK K
      try simp only[Act.put,List.setIfInBounds_toArray,List.set_cons_zero,List.set_cons_succ,List.getElem_toArray,List.getElem_cons_zero,List.getElem_cons_succ]
      refine wpAny_ready (rs:=[8]) (by kernel_rfl) (by simp) ?_
      refine AllReady.cons rfl (fun K hK=>?_) AllReady.nil
      have BW:Below U.heap.size U (U.alloc (.cells #[.string n] 9)).drew:=Below.drew ((Below.refl _ U).alloc (Nat.le_refl _) _)
      have NW:Bk (U.alloc (.cells #[.string n] 9)).drew U.heap.size #[.string n] 9:=Bk.new U _ _
      refine step_append_lies _ rfl _ _ 62 rfl base 9 i0 (.string ⟨#[]⟩) 1 16 Tryz.underlying62 hi hz0 hz1 hz2 rfl (by decide) (.slice na NL nc) NL (s.dS.names.map Value.string) (by simp[Act.eval,Act.put]) (own_below' HRU.out BW) ⟨U.heap.size,0,none⟩ 1 1 [.string n] (by simp[Act.eval,Act.put]) rfl (fun j u hj=>by
        match j,hj with
        |0,hj=>simp at hj;subst hj;exact NW.cell 0 rfl
        |j+1,hj=>simp at hj) (fun u hu=>by simp at hu;subst hu;rfl) (by decide) (by unfold maxLen;omega) (by omega) (by have:=BW.size;omega) _ rfl ?_
      intro gb cp w4 di fZ _ _
      obtain⟨m1,m2,m3⟩:=su (s:=s.dS) HSU.out BW n (by rw[IP.out];exact HZ5.out) HGG.out (by rw[IP.out];exact di) (by rw[IP.out];exact fZ)
      rw[IP.out]at m1 m3
      have lW:=hd38 m3
      clear di fZ BW NW m3
      refine hK _ _ ?_
      clear hK K
      try simp only[Act.put,List.setIfInBounds_toArray,List.set_cons_zero,List.set_cons_succ,List.getElem_toArray,List.getElem_cons_zero,List.getElem_cons_succ]
      refine wpAny_take (i:=9) (v:=?_) rfl (by kernel_rfl) (by kernel_rfl) (by kernel_rfl) (fun _ _ _ h=>h) (Or.inl ⟨by rfl,?_⟩) ?_
      rotate_left
      · (intro w';go_simp;try with_reducible rfl)
      try simp only[Act.put,List.setIfInBounds_toArray,List.set_cons_zero,List.set_cons_succ,List.getElem_toArray,List.getElem_cons_zero,List.getElem_cons_succ]
      refine wpAny_take (i:=10) (v:=?_) rfl (by kernel_rfl) (by kernel_rfl) (by kernel_rfl) (fun _ _ _ h=>h) (Or.inl ⟨by rfl,?_⟩) ?_
      rotate_left
      · (intro w';go_simp;try with_reducible rfl)
      try simp only[Act.put,List.setIfInBounds_toArray,List.set_cons_zero,List.set_cons_succ,List.getElem_toArray,List.getElem_cons_zero,List.getElem_cons_succ]
      refine wpAny_ready (rs:=[11]) (by kernel_rfl) (by simp) ?_
      refine AllReady.cons rfl (fun K hK=>?_) AllReady.nil
      go_simp
      refine hK _ _ ?_
      clear hK K
      try simp only[Act.put,List.setIfInBounds_toArray,List.set_cons_zero,List.set_cons_succ,List.getElem_toArray,List.getElem_cons_zero,List.getElem_cons_succ]
      refine wpAny_done (by kernel_rfl) ?_ _
      have q0:=lW.out.bk
      obtain⟨V4,HV4⟩:∃V4,w4.setCell ⟨g,5,none⟩ (.slice (some ⟨gb,0,none⟩) (NL+1) cp)=V4:=⟨_,rfl⟩
      rw[HV4]at lW⊢
      have x0:=lW.out.bk.cell 0 (u:=.int .i64 k) rfl
      have x1:=lW.out.bk.cell 1 (u:=.int .i64 m) rfl
      have x2:=lW.out.bk.cell 2 (u:=.int .i64 (G+1)) rfl
      have x3:=lW.out.bk.cell 3 (u:=.int .i64 b) rfl
      have x4:=lW.out.bk.cell 4 (u:=.bool ng) rfl
      have x5:=lW.out.bk.cell 5 (u:=.string n) rfl
      have x6:=lW.out.bk.cell 6 (u:=.slice sa sl sc) rfl
      have x7:=lW.out.bk.cell 7 (u:=.slice ao nk cap) rfl
      clear q0 HV4 m1 m2
      go_wp2_with(first
        |(go_at_call 91;refine(HP.out _ lW.out).mono ?_;rintro e w9⟨rfl,d1,d2⟩;have HT1:Hid (∀s',_=some s'→Cx w0 w9 base g s'):=d1;have HT2:Hid (Kt base W w9):=d2;clear d1 d2))
      go_ret
      exact⟨ag (by first|rfl|simp),HT1.out,HT2.out⟩
end Go.Proofs.YtgbkolonhddolaaGreatDoor.tre
section
namespace Go.Proofs.YtgbkolonhddolaaGreatDoor.tre
open Go.RowKit nod
open rng(R RV)
open tok(PEnv TX ak)
/--What a method is at a node, where the table of powers lies. -/
def mY(f:FuncId)(P:Wr→Nd→Option Wr)(t:Nd):Prop:=∀(w0 W:World)(base g:Nat)(s:Wr)(v:Value),Pw w0→Cx w0 W base g s→NV base w0 t v→Met f #[.pointer (some ⟨g,0,none⟩),v] w0 W base g (P s t)
section
variable{pt:Wr→Nd→Option Wr}{s:Wr}{t:Nd}
theorem Jo(h:¬(t.kind=6∧othersZ t=true)):nJ pt s t=none:=by unfold nJ;rw[if_neg h]
theorem seq_e1(h1:t.kind=6)(h2:othersZ t=true):nJ pt s t=loopO pt t.kids s:=by unfold nJ;rw[if_pos ⟨h1,h2⟩]
theorem LY(h:¬(othersZ t=true∧2≤t.kids.length)):altO pt s t=none:=by unfold altO;rw[if_neg h]
theorem alt_e1(h1:othersZ t=true)(h2:2≤t.kids.length){x:Nd}(hx:t.kids[0]?=some x):altO pt s t=(nJ pt s x).bind (loopO (fun s t=>(aN s ⟨#[124]⟩).bind fun s1=>nJ pt s1 t) (t.kids.drop 1)):=by
 unfold altO
 rw[if_pos ⟨h1,h2⟩]
 generalize t.kids=ks at*
 match ks,hx with
 |y::ys,hx=>simp at hx;subst hx;rfl
theorem body_e6(h:t.kind=6):iy pt s t=nJ pt s t:=by unfold iy;rw[if_pos h]
theorem body_e7(h:t.kind=7):iy pt s t=altO pt s t:=by unfold iy;rw[if_neg (by omega),if_pos h]
theorem body_ex(h6:¬t.kind=6)(h7:¬t.kind=7):iy pt s t=none:=by unfold iy;rw[if_neg h6,if_neg h7]
theorem part_e0{N:Nat}(ho:othersZ t=false):bB (N+1) s t=none:=by rw[bB,if_pos ho]
theorem part_e1{N:Nat}(ho:othersZ t=true)(hk:t.kind=1):bB (N+1) s t=aN s (TX (ak t.a false)):=by rw[bB,if_neg (by simp[ho]),if_pos hk]
theorem part_e2{N:Nat}(ho:othersZ t=true)(hk:t.kind=2):bB (N+1) s t=aN s ⟨#[46]⟩:=by rw[bB,if_neg (by simp[ho]),if_neg (by omega),if_pos hk]
theorem part_e3{N:Nat}(ho:othersZ t=true)(hk:t.kind=3):bB (N+1) s t=nN (insideO N) s t:=by rw[bB,if_neg (by simp[ho]),if_neg (by omega),if_neg (by omega),if_pos hk]
theorem part_e5{N:Nat}(ho:othersZ t=true)(hk:t.kind=5):bB (N+1) s t=iD s t.name t.neg:=by rw[bB,if_neg (by simp[ho]),if_neg (by omega),if_neg (by omega),if_neg (by omega),if_pos hk]
theorem part_e8{N:Nat}(ho:othersZ t=true)(hk:t.kind=8):bB (N+1) s t=kg (bB N) s t:=by rw[bB,if_neg (by simp[ho]),if_neg (by omega),if_neg (by omega),if_neg (by omega),if_neg (by omega),if_pos hk]
theorem part_e9{N:Nat}(ho:othersZ t=true)(hk:t.kind=9):bB (N+1) s t=pX (bB N) s t:=by rw[bB,if_neg (by simp[ho]),if_neg (by omega),if_neg (by omega),if_neg (by omega),if_neg (by omega),if_neg (by omega),if_pos hk]
theorem JL{N:Nat}(ho:othersZ t=true)(hk:t.kind=10):bB (N+1) s t=enclO (bB N) (aV t.mode gJ) s t.kids:=by rw[bB,if_neg (by simp[ho]),if_neg (by omega),if_neg (by omega),if_neg (by omega),if_neg (by omega),if_neg (by omega),if_neg (by omega),if_pos hk]
theorem JK{N:Nat}(ho:othersZ t=true)(hk:t.kind=11):bB (N+1) s t=enclO (bB N) ⟨#[40,63,62]⟩ s t.kids:=by rw[bB,if_neg (by simp[ho]),if_neg (by omega),if_neg (by omega),if_neg (by omega),if_neg (by omega),if_neg (by omega),if_neg (by omega),if_neg (by omega),if_pos hk]
theorem JJ{N:Nat}(ho:othersZ t=true)(hk:t.kind=12):bB (N+1) s t=aN s (aV t.mode gQ):=by rw[bB,if_neg (by simp[ho]),if_neg (by omega),if_neg (by omega),if_neg (by omega),if_neg (by omega),if_neg (by omega),if_neg (by omega),if_neg (by omega),if_neg (by omega),if_pos hk]
theorem JI{N:Nat}(ho:othersZ t=true)(hk:t.kind=13):bB (N+1) s t=if 0<t.a∧t.a≤s.groups then aN s (nC t.a)else none:=by rw[bB,if_neg (by simp[ho]),if_neg (by omega),if_neg (by omega),if_neg (by omega),if_neg (by omega),if_neg (by omega),if_neg (by omega),if_neg (by omega),if_neg (by omega),if_neg (by omega),if_pos hk]
theorem JH{N:Nat}(ho:othersZ t=true)(hk:t.kind=14):bB (N+1) s t=aN s ⟨#[92,88]⟩:=by rw[bB,if_neg (by simp[ho]),if_neg (by omega),if_neg (by omega),if_neg (by omega),if_neg (by omega),if_neg (by omega),if_neg (by omega),if_neg (by omega),if_neg (by omega),if_neg (by omega),if_neg (by omega),if_pos hk]
theorem part_ex{N:Nat}(ho:othersZ t=true)(h1:¬t.kind=1)(h2:¬t.kind=2)(h3:¬t.kind=3)(h5:¬t.kind=5)(h8:¬t.kind=8)(h9:¬t.kind=9)(h10:¬t.kind=10)(h11:¬t.kind=11)(h12:¬t.kind=12)(h13:¬t.kind=13)(KO:¬t.kind=14):bB (N+1) s t=none:=by rw[bB,if_neg (by simp[ho]),if_neg h1,if_neg h2,if_neg h3,if_neg h5,if_neg h8,if_neg h9,if_neg h10,if_neg h11,if_neg h12,if_neg h13,if_neg KO]
end
theorem EE{pt:Wr→Nd→Option Wr}{t:Nd}(hP:∀x∈t.kids,mY 68 pt x):mY 45 (nJ pt) t:=by
 intro w0 W base g s v hw c hv
 obtain⟨k,m,a,b,ng,n,st,ks,sa,sc,ao,cap,rfl,rfl,_,_,_,hk1,hk2,_,yu⟩:=hv.open
 by_cases c6:k=6
 ·subst c6
  cases ho:othersZ (.mk 6 m a b ng n st ks)with
  |false=>rw[Jo (fun h=>by rw[ho]at h;cases h.2)];exact yS c m a b ng n sa _ sc ao _ cap st ks rfl rfl ho
  |true=>rw[seq_e1 rfl ho];exact BD c m a b ng n sa _ sc ao _ cap st ks rfl rfl hk1 (by unfold maxLen at hk2;omega) yu ho pt (fun t ht W' s' v c' hv'=>hP t ht w0 W' base g s' v hw c' hv')
 ·rw[Jo (t:=.mk k m a b ng n st ks) (fun h=>c6 h.1)];exact uw c k m a b ng n sa _ sc ao _ cap c6
theorem con_alt{pt:Wr→Nd→Option Wr}{t:Nd}(h7:t.kind=7)(hP:∀x∈t.kids,mY 45 (nJ pt) x):mY 46 (altO pt) t:=by
 intro w0 W base g s v hw c hv
 obtain⟨k,m,a,b,ng,n,st,ks,sa,sc,ao,cap,rfl,rfl,_,_,_,hk1,hk2,_,yu⟩:=hv.open
 obtain rfl:k=7:=h7
 cases ho:othersZ (.mk 7 m a b ng n st ks)with
 |false=>rw[LY (fun h=>by rw[ho]at h;cases h.1)];exact qK c m a b ng n sa _ sc ao _ cap st ks rfl rfl ho
 |true=>
  by_cases h2:2≤ks.length
  ·exact tT c m a b ng n sa _ sc ao _ cap st ks rfl rfl hk1 (by unfold maxLen at hk2;omega) yu ho h2 (nJ pt) _ (fun x hx=>alt_e1 ho h2 hx) (fun t ht W' s' v c' hv'=>hP t ht w0 W' base g s' v hw c' hv')
  ·rw[LY (t:=.mk 7 m a b ng n st ks) (fun h=>h2 h.2)]
   exact qf c m a b ng n sa _ sc ao _ cap st ks rfl rfl ho (decide_eq_true (by omega)) (decide_eq_true (by omega))
/--A kid's kids too are smaller. -/
theorem Ak{pt:Wr→Nd→Option Wr}{t:Nd}(hP:∀x∈t.kids,mY 68 pt x)(hQ:∀x∈t.kids,∀y∈x.kids,mY 68 pt y):mY 34 (iy pt) t:=by
 intro w0 W base g s v hw c hv
 have hv0:=hv
 obtain⟨k,m,a,b,ng,n,st,ks,sa,sc,ao,cap,rfl,rfl,_⟩:=hv.open
 by_cases c6:k=6
 ·subst c6;rw[body_e6 rfl]
  exact body_6 c m a b ng n sa _ sc ao _ cap _ (fun W' c'=>EE hP w0 W' base g s _ hw c' hv0)
 by_cases c7:k=7
 ·subst c7;rw[body_e7 rfl]
  exact body_7 c m a b ng n sa _ sc ao _ cap _ (fun W' c'=>con_alt rfl (fun x hx=>EE (hQ x hx)) w0 W' base g s _ hw c' hv0)
 rw[body_ex (t:=.mk k m a b ng n st ks) c6 c7]
 exact body_no c k m a b ng n sa _ sc ao _ cap (by simpa using c6) (by simpa using c7)
theorem lQ{pt:Wr→Nd→Option Wr}(hr:iK pt){k m a b:Int}{ng:Bool}{n:ByteArray}{st:List R}{ks:List Nd}(op:ByteArray)(hop:op.size≤9223372036854775807)(hB:∀x∈ks,mY 34 (iy pt) x){w0 W:World}{base g:Nat}{s:Wr}{v:Value}(hw:Pw w0)(c:Cx w0 W base g s)(hv:NV base w0 (.mk k m a b ng n st ks) v):
  Met 91 #[.pointer (some ⟨g,0,none⟩),.string op,v] w0 W base g (enclO pt op s ks):=by
 obtain⟨k,m,a,b,ng,n,st,ks,sa,sc,ao,cap,e,rfl,_,_,_,hk1,hk2,_,yu⟩:=hv.open
 cases e
 by_cases hl:ks.length=1
 ·obtain⟨x,rfl⟩:=zt ks hl
  obtain⟨kb,ko,rfl,hkb,hka⟩:=Kq yu (by simp)
  obtain⟨lk,lm,la,lb,lg,ln,ls,A8,aL,aK,aM,au,rfl,al,nl⟩:=xw hka (i:=0) rfl
  have al':nE w0 kb ko (.agg #[.int .i64 lk,.int .i64 lm,.int .i64 la,.int .i64 lb,.bool lg,.string ln,.slice aL ls.length aK,.slice aM A8.length au]):=by simpa using al
  exact Di c op hop k m a b ng n sa _ sc kb ko cap (by simpa using hk1) _ _ _ _ _ _ _ _ al' hkb (fun s'=>iy pt s' _) (fun W' s' c'=>hB _ (by simp) w0 W' base g s' _ hw c' nl) (fun s1 s2 h g=>(tL hr h g).dep)
 ·have e:enclO pt op s ks=none:=by
   match ks,hl with
   |[],_=>rfl
   |[x],h=>exact absurd rfl h
   |x::y::r,_=>rfl
  rw[e]
  exact zY c op k m a b ng n sa _ sc ao _ cap (by omega) hl
theorem Dn{pt:Wr→Nd→Option Wr}{t:Nd}(hP:∀x∈t.kids,mY 68 pt x):mY 89 (kg pt) t:=by
 intro w0 W base g s v hw c hv
 obtain⟨k,m,a,b,ng,n,st,ks,sa,sc,ao,cap,rfl,rfl,⟨_,_,hia,hib⟩,_,_,hk1,hk2,_,yu⟩:=hv.open
 by_cases hl:ks.length=1
 ·obtain⟨x,rfl⟩:=zt ks hl
  obtain⟨kb,ko,rfl,hkb,hka⟩:=Kq yu (by simp)
  obtain⟨lk,lm,la,lb,lg,ln,ls,A8,aL,aK,aM,au,rfl,al,nl⟩:=xw hka (i:=0) rfl
  have al':nE w0 kb ko (.agg #[.int .i64 lk,.int .i64 lm,.int .i64 la,.int .i64 lb,.bool lg,.string ln,.slice aL ls.length aK,.slice aM A8.length au]):=by simpa using al
  have hcap:1≤cap:=by simpa using hk1
  have er:kg pt s (.mk k m a b ng n st [.mk lk lm la lb lg ln ls A8])=if repB lk=true∧0≤m∧m≤2∧(bF a b).size≠0 then(pt s (.mk lk lm la lb lg ln ls A8)).bind fun s1=>aN s1 (bF a b++aV m dR)else none:=rfl
  rw[er]
  by_cases hb:repB lk=true∧0≤m∧m≤2
  ·have C:=JD c k m a b ng n sa st.length sc kb ko cap hcap lk _ _ _ _ _ _ _ al' hkb hb.1 hb.2.1 hb.2.2 hia hib hw (fun s'=>pt s' _) (fun W' s' c'=>hP _ (by simp[Nd.kids]) w0 W' base g s' _ hw c' nl)
   by_cases hz:(bF a b).size=0
   ·rw[if_neg (fun h=>h.2.2.2 hz)];rw[if_pos hz]at C;exact C
   ·rw[if_pos ⟨hb.1,hb.2.1,hb.2.2,hz⟩];rw[if_neg hz]at C;exact C
  ·rw[if_neg (fun h=>hb ⟨h.1,h.2.1,h.2.2.1⟩)]
   refine BO c k m a b ng n sa _ sc kb ko cap hcap lk _ _ _ _ _ _ _ al' hkb ?_
   cases hq:repB lk with
   |false=>exact .inl rfl
   |true=>right;by_cases h0:m<0;exact .inl h0;right;exact Decidable.byContradiction fun h=>hb ⟨hq,by omega,by omega⟩
 ·have e:kg pt s (.mk k m a b ng n st ks)=none:=by
   match ks,hl with
   |[],_=>rfl
   |[x],h=>exact absurd rfl h
   |x::y::r,_=>rfl
  rw[e]
  exact BP c k m a b ng n sa _ sc ao _ cap (by omega) hl
theorem isE{n:ByteArray}(h:n.size=0):n.toList.isEmpty=true:=lin.iY h
theorem isNE{n:ByteArray}(h:¬n.size=0):n.toList.isEmpty=false:=lin.ik h
theorem Ia{pt:Wr→Nd→Option Wr}(hr:iK pt){t:Nd}(hs:shortN t)(hB:∀x∈t.kids,mY 34 (iy pt) x):mY 90 (pX pt) t:=by
 intro w0 W base g s v hw c hv
 have hv0:=hv
 obtain⟨k,m,a,b,ng,n,st,ks,sa,sc,ao,cap,rfl,rfl,_⟩:=hv.open
 rw[shortN]at hs
 have hos:=ky n hs.1
 have e0:pX pt s (.mk k m a b ng n st ks)=if a=0∧n.size=0 then enclO pt ⟨#[40,63,58]⟩ s ks else if a≠s.groups+1∨20<a then none else if n.size=0 then enclO pt ⟨#[40]⟩ s.dS ks else if fU (fC n) n=true∧Lib.containsS s.names n=false then enclO pt (fC n) (s.dS.nam n) ks else none:=rfl
 rw[e0]
 by_cases h1:a=0∧n.size=0
 ·rw[if_pos h1]
  obtain⟨rfl,hz⟩:=h1
  exact group_0 c k m b ng n sa _ sc ao _ cap (isE hz) _ (fun W' c'=>lQ hr _ (by decide) hB hw c' hv0)
 rw[if_neg h1]
 by_cases h2:a≠s.groups+1∨20<a
 ·rw[if_pos h2]
  by_cases z:a=0
  ·subst z
   exact group_a c k m b ng n sa _ sc ao _ cap (isNE (fun h=>h1 ⟨rfl,h⟩))
  by_cases z1:a=s.groups+1
  ·subst z1
   exact group_c c k m b s.groups ng n sa _ sc ao _ cap rfl (by omega)
  ·exact group_b c k m a b ng n sa _ sc ao _ cap z z1
 rw[if_neg h2]
 obtain⟨rfl,h20⟩:a=s.groups+1∧s.groups+1≤20:=by omega
 by_cases h3:n.size=0
 ·rw[if_pos h3]
  exact group_1 c k m b s.groups ng n sa _ sc ao _ cap rfl h20 (isE h3) _ (fun W' c'=>lQ hr _ (by decide) hB hw c' hv0)
 rw[if_neg h3]
 cases hq:fU (fC n) n with
 |false=>rw[if_neg (by simp)];exact KR c k m b s.groups ng n sa _ sc ao _ cap rfl h20 (isNE h3) hs.1 hq
 |true=>
 cases hc:Lib.containsS s.names n with
 |true=>rw[if_neg (by simp)];exact KQ c k m b s.groups ng n sa _ sc ao _ cap rfl h20 (isNE h3) hs.1 hq hc
 |false=>
  rw[if_pos ⟨rfl,rfl⟩]
  exact group_2 c k m b s.groups ng n sa _ sc ao _ cap rfl h20 (isNE h3) hs.1 hq hc _ (fun W' c'=>lQ hr _ (by omega) hB hw c' hv0)
theorem Aj:∀(N:Nat)(t:Nd),t.sz≤N→shortN t→mY 68 (bB N) t:=by
 intro N
 induction N with
 |zero=>intro t h;obtain⟨k,m,a,b,g,n,s,ks⟩:=t;rw[Nd.sz]at h;omega
 |succ N ih=>
  intro t hz hs w0 W base g s v hw c hv
  have hv0:=hv
  have hcl:=vW (dJ N) (Dq N t hz hs)
  obtain⟨k,m,a,b,ng,n,st,ks,sa,sc,ao,cap,rfl,rfl,_⟩:=hv.open
  have hs0:=hs
  rw[Nd.sz]at hz
  rw[shortN]at hs
  have hP:∀x∈ks,mY 68 (bB N) x:=fun x hx=>ih x (by have:=dW hx;omega) (cK hs.2 hx)
  have hB:∀x∈ks,mY 34 (iy (bB N)) x:=fun x hx=>by
   have hx1:=dW hx
   have hx2:=cK hs.2 hx
   obtain⟨k',m',a',b',g',n',s',kk⟩:=x
   rw[Nd.sz]at hx1
   rw[shortN]at hx2
   refine Ak (fun y hy=>?_) (fun y hy z hzz=>?_)
   ·have:y.sz≤szL kk:=dW hy
    exact ih y (by omega) (cK hx2.2 hy)
   ·have h1:y.sz≤szL kk:=dW hy
    have h2:=cK hx2.2 hy
    obtain⟨k2,m2,a2,b2,g2,n2,s2,kk2⟩:=y
    rw[Nd.sz]at h1
    rw[shortN]at h2
    have h3:z.sz≤szL kk2:=dW hzz
    exact ih z (by omega) (cK h2.2 hzz)
  cases ho:othersZ (.mk k m a b ng n st ks)with
  |false=>
   rw[part_e0 ho]
   exact part_no c k m a b ng n sa _ sc ao _ cap st ks rfl rfl ho none rfl
  |true=>
   by_cases c1:k=1
   ·subst c1;rw[part_e1 ho rfl]
    exact part_1 c m a b ng n sa _ sc ao _ cap st ks rfl rfl ho (ku _ _)
   by_cases c2:k=2
   ·subst c2;rw[part_e2 ho rfl]
    exact part_2 c m a b ng n sa _ sc ao _ cap st ks rfl rfl ho
   by_cases c3:k=3
   ·subst c3;rw[part_e3 ho rfl]
    exact part_3 c m a b ng n sa _ sc ao _ cap st ks rfl rfl ho _ (fun W' c'=>hcl w0 W' base g s _ c' hv0)
   by_cases c5:k=5
   ·subst c5;rw[part_e5 ho rfl]
    exact part_5 c m a b ng n sa _ sc ao _ cap st ks rfl rfl ho hs.1
   by_cases c8:k=8
   ·subst c8;rw[part_e8 ho rfl]
    exact part_8 c m a b ng n sa _ sc ao _ cap st ks rfl rfl ho _ (fun W' c'=>Dn (t:=.mk 8 m a b ng n st ks) hP w0 W' base g s _ hw c' hv0)
   by_cases c9:k=9
   ·subst c9;rw[part_e9 ho rfl]
    exact part_9 c m a b ng n sa _ sc ao _ cap st ks rfl rfl ho _ (fun W' c'=>Ia (t:=.mk 9 m a b ng n st ks) (ib N) hs0 hB w0 W' base g s _ hw c' hv0)
   by_cases c10:k=10
   ·subst c10;rw[JL ho rfl]
    exact part_10 c m a b ng n sa _ sc ao _ cap st ks rfl rfl ho _ (fun W' c'=>lQ (ib N) _ (by have:=rF m gJ 4 (by decide);omega) hB hw c' hv0)
   by_cases c11:k=11
   ·subst c11;rw[JK ho rfl]
    exact part_11 c m a b ng n sa _ sc ao _ cap st ks rfl rfl ho _ (fun W' c'=>lQ (ib N) _ (by decide) hB hw c' hv0)
   by_cases c12:k=12
   ·subst c12;rw[JJ ho rfl]
    exact part_12 c m a b ng n sa _ sc ao _ cap st ks rfl rfl ho
   by_cases c13:k=13
   ·subst c13;rw[JI ho rfl]
    exact part_13 c m a b ng n sa _ sc ao _ cap st ks rfl rfl ho hw
   by_cases c14:k=14
   ·subst c14;rw[JH ho rfl]
    exact part_14 c m a b ng n sa _ sc ao _ cap st ks rfl rfl ho
   rw[part_ex (t:=.mk k m a b ng n st ks) ho c1 c2 c3 c5 c8 c9 c10 c11 c12 c13 c14]
   exact Cb c k m a b ng n sa _ sc ao _ cap st ks rfl rfl ho none rfl (by simpa using c1) (by simpa using c2) (by simpa using c3) (by simpa using c5) (by simpa using c8) (by simpa using c9) (by simpa using c10) (by simpa using c11) (by simpa using c12) (by simpa using c13) (by simpa using c14)
end Go.Proofs.YtgbkolonhddolaaGreatDoor.tre
end
namespace Go.Proofs.YtgbkolonhddolaaGreatDoor.tre
open Go.RowKit nod
open rng(R RV aH ag below_drewN info_parts own_below')
open tok(PEnv TX ak)
theorem cellsByte:Tryz.prog.cellsOf 5=1:=by kernel_rfl
theorem nH(base g:Nat)(s:Wr)(w:World)(h:fu w base g s)(h0:s.text≠[]):
  Calls Tryz.prog 35 #[.pointer (some ⟨g,0,none⟩)] w fun e w'=>e=.returned (.string ⟨s.text.toArray⟩)∧Below base w w':=by
 obtain⟨hB,p,v,nv,hbk,_,hown,_⟩:=h
 have hl0:s.text.length≠0:=by simpa using h0
 obtain⟨gb,cap,cur,rfl,hbg,hg,hnc,hcm,hcs,htake⟩:∃gb cap cur,v=.slice (some ⟨gb,0,none⟩) s.text.length cap∧base≤gb∧w.heap[gb]?=some (.cells cur 5 (0,0))∧s.text.length≤cap∧cap≤maxLen∧cur.size=cap*1∧cur.toList.take (s.text.length*1)=Lib.byteCells s.text:=by
  rcases hown.2 with⟨_,hz⟩|⟨gb,cap,cur,hv,r⟩
  ·exact absurd hz hl0
  ·exact⟨gb,cap,cur,hv,r⟩
 have c1:w.drew.cell? ⟨g,1,none⟩=some (.slice (some ⟨gb,0,none⟩) s.text.length cap):=by
  have:w.drew.heap[g]?=some (.cells #[p,.slice (some ⟨gb,0,none⟩) s.text.length cap,.int .i64 s.room,.int .i64 s.depth,.int .i64 s.groups,nv] 79 (0,0)):=hbk
  rw[Lib.cell_of_heap this];rfl
 have hSD:(Builtin.unsafeSliceData_ #[22] 88 #[.slice (some ⟨gb,0,none⟩) s.text.length cap]).run Tryz.prog w.drew=.ok (.pointer (some ⟨gb,0,none⟩)) w.drew:=
  Lib.run_unsafeSliceData_row _ _ _ _ _ _ (by omega)
 have hUS:(Builtin.unsafeString_ #[88,3] 9 #[.pointer (some ⟨gb,0,none⟩),.int .i64 s.text.length]).run Tryz.prog w.drew=.ok (.string ⟨s.text.toArray⟩) (w.drew.freeze ⟨gb,0,none⟩ s.text.length):=by
  refine Lib.run_unsafeString_row w.drew 88 3 9 5 Tryz.underlying88 cellsByte gb cur.size (by have hg':w.drew.heap[gb]?=some (.cells cur 5 (0,0)):=hg;simp[World.shape?,hg']) s.text h0 (by omega) (by unfold maxLen at hcm;omega) ?_
  intro j x hx
  have:=hown.cells (g:=gb) rfl j (.int .u8 x.toNat) (by simp[Lib.byteCells,hx])
  exact this
 have hn:s.text.length≤9223372036854775807:=by unfold maxLen at hcm;omega
 have HBG:Hid (base≤gb):=hbg
 clear hown hbk hcs htake hg h0 hl0 hcm hB hnc hbg
 generalize(⟨s.text.toArray⟩:ByteArray)=X at*
 generalize s.text.length=n at*
 go_enter Tryz.func35,Tryz.ntmps35
 go_wp2
 go_region
 all_goals(try go_wp2;go_ret;exact⟨rfl,Lib.below_freeze (Below.drew (Below.refl base w)) (p:=⟨gb,0,none⟩) HBG.out _⟩)
end Go.Proofs.YtgbkolonhddolaaGreatDoor.tre
