import Derived.Test.YtgbkolonhddolaaGreatDoorBpPrs10
set_option linter.unusedSectionVars false
set_option linter.unusedSimpArgs false
set_option linter.unusedVariables false
set_option maxHeartbeats 1000000
namespace Go.Proofs.YtgbkolonhddolaaGreatDoor.prs
open Go.RowKit nod tok
open rng(R RV info_parts)
open lin(BA)
theorem KE(nm:List (List UInt8))(x:List UInt8):(0≤idxN nm x)↔x∈nm:=by
 unfold idxN
 cases h:nm.findIdx? (·==x)with
 |none=>
  have:=List.findIdx?_eq_none_iff.1 h
  refine⟨fun e=>absurd e (by simp),fun hx=>?_⟩
  have:=this x hx
  simp at this
 |some i=>
  obtain⟨h1,h2,_⟩:=List.findIdx?_eq_some_iff_getElem.1 h
  refine⟨fun _=>?_,fun _=>by simp⟩
  have:nm[i]=x:=by simpa using h2
  exact this▸List.getElem_mem h1
theorem oH{B:Nat}{w:World}{na:Option Addr}{n nc:Nat}{nm:List (List UInt8)}(x:List UInt8)(h:w.ownsRow B 9 1 (.slice na n nc) n (nm.map sN))(hn:nm.length=n)(hb:n≤1000000):
  Calls Tryz.prog 40 #[.slice na n nc,.string (BA x)] w fun e w'=>e=.returned (.bool (decide (x∈nm)))∧w'=w:=by
 have CI:=vM x h hn hb
 have HM:Hid (decide (0≤idxN nm x)=decide (x∈nm)):=decide_eq_decide.2 (KE nm x)
 clear h hn hb
 generalize BA x=X at*
 generalize idxN nm x=i at*
 go_enter Tryz.func40,Tryz.ntmps40
 go_wp2_with fail
 refine CI.mono ?_
 rintro e w'⟨rfl,hw⟩
 obtain rfl:=hw.symm
 clear CI
 go_wp2
 go_ret
 exact⟨by rw[←HM.out];rfl,rfl⟩
theorem zL:(Tryz.prog.info? 58).map (fun i=>(i.zero,i.size,i.bytes))=some (some (.agg #[.int .i64 0,.int .i64 0,.int .i64 0,.int .i64 0,.bool false,.string ⟨#[]⟩,.slice none 0 0,.slice none 0 0,.slice none 0 0,.slice none 0 0]),10,152):=by kernel_rfl
theorem mF:(Tryz.prog.info? 9).map (fun i=>(i.zero,i.size,i.bytes))=some (some (.string ⟨#[]⟩),1,16):=by kernel_rfl
variable[gh:Gh]
/--A name more. -/
theorem Sx.FW{K B:Nat}{w w2 w5:World}{pb s bl cl bv cv nv}{g5 c:Nat}{x:List UInt8}(h:Sx K B w pb s bl cl bv cv nv)(hA:Below w.heap.size w w2)
  (h5:w5.ownsRow B 9 1 (.slice (some ⟨g5,0,none⟩) (s.nm.length+1) c) (s.nm.length+1) (s.nm.map sN++[sN x]))(hg:w2.grownBy w5 nv.ownBlock):
  Sx (K+1) B (w5.setCell ⟨pb,3,none⟩ (.slice (some ⟨g5,0,none⟩) (s.nm.length+1) c)) pb ⟨s.next,s.bs,s.cs,s.nm++[x]⟩ bl cl bv cv (.slice (some ⟨g5,0,none⟩) (s.nm.length+1) c)∧
  (w5.cell? ⟨pb,3,none⟩=some nv∧w5.frozen? ⟨pb,3,none⟩=false)∧Below B w (w5.setCell ⟨pb,3,none⟩ (.slice (some ⟨g5,0,none⟩) (s.nm.length+1) c)):=by
 have h2:=h.below hA
 have hcv:∀k,nv.ownBlock=some k→¬lh w2 k:=fun k e=>bT h2.px.no (by decide) e
 have hu1:NU none w2 w5:=NU.iU hg hcv
 have hbk:Bk w5 pb #[nextV pb s.next,bv,cv,nv] 64:=(hg.block pb h2.px.blk.lt (fun e=>by
  rcases az h2.px.no h2.px.blk (by decide)with e'|e'
  ·rw[e']at e;cases e
  ·exact e' e.symm)).trans h2.px.blk
 have zR:=h2.px.bo.kept hg (dC h2.px.bo h2.px.no (by decide))
 have hco:=h2.px.co.kept hg (dC h2.px.co h2.px.no (by decide))
 have hu2:NU none w5 (w5.setCell ⟨pb,3,none⟩ (.slice (some ⟨g5,0,none⟩) (s.nm.length+1) c)):=Px.jT (B:=B) _ hbk 3 _
 refine⟨⟨⟨by have:=hbk.set 3 (.slice (some ⟨g5,0,none⟩) (s.nm.length+1) c);simpa using this,h.px.pB,zR.kept (ay _ _ _ _) (az zR hbk (by decide)),hco.kept (ay _ _ _ _) (az hco hbk (by decide)),?_,(h2.px.gh.grown hg fun k e=>oh h2.px.no (by decide) e).grown (ay _ _ _ _) fun k e=>by cases e;exact lS hbk (by decide)⟩,h.br,h2.cx.imp fun t u f=>(f.nu hu1).nu hu2,(h2.rows.nu hu1).nu hu2,by have:=h.lb;omega,by have:=h.lc;omega,by have:=h.ln;simp;omega,fun r hr=>by have:=h.lr r hr;omega⟩,⟨hbk.cell 3 rfl,hbk.frozen 3⟩,?_⟩
 ·simp only[List.length_append,List.length_cons,List.length_nil,List.map_append,List.map_cons,List.map_nil]
  exact h5.kept (ay _ _ _ _) (az h5 hbk (by decide))
 ·have fF:B≤w.heap.size:=Nat.le_trans h.px.pB (Nat.le_of_lt h.px.blk.lt)
  exact((ae hA fF).trans (Below.aF hg (by have:=hA.size;omega) fun k e=>(h.px.no.lt k e).1)).setCell (by exact h.px.pB) _
/--The body that a bracket opens. -/
def pK(b:Br):Bv:=⟨b.k,b.m,b.a,b.nm,(none,0,0),(none,0,0)⟩
theorem brV_big{t:Tk}{k:Nat}(h:tV t)(hk:k≤1000000):(dQ (oQ t k).k∧dQ (oQ t k).m∧dQ (oQ t k).a)∧(BA (oQ t k).nm).size≤maxLen:=by
 have hn:(BA []).size≤maxLen:=by decide
 have hkk:dQ (k:Int):=⟨by omega,by omega⟩
 unfold oQ
 repeat' split
 all_goals first
  |exact⟨⟨ai _ (by decide),ai _ (by decide),ai _ (by decide)⟩,hn⟩
  |exact⟨⟨ai 9 (by decide),ai 0 (by decide),hkk⟩,h.n⟩
/--A body more. -/
theorem Sx.vD{K B:Nat}{w w2 w5:World}{pb s bl cl bv cv nv}{g5 c:Nat}{y:Br}{t:Tk}(h:Sx K B w pb s bl cl bv cv nv)(hlb:bl.length≤K)(ht:tV t)(hy:y=oQ t s.nm.length)(hK:K≤1000000)(hA:Below w.heap.size w w2)
  (h5:w5.ownsRow B 58 10 (.slice (some ⟨g5,0,none⟩) (bl.length+1) c) (bl.length+1) (dm c10 bl.reverse++c10 (pK y)))(hg:w2.grownBy w5 bv.ownBlock):
  Sx K B (w5.setCell ⟨pb,1,none⟩ (.slice (some ⟨g5,0,none⟩) (bl.length+1) c)) pb ⟨s.next,⟨kJ t s.nm.length,[],[]⟩::s.bs,s.cs,s.nm⟩ (pK y::bl) cl (.slice (some ⟨g5,0,none⟩) (bl.length+1) c) cv nv∧
  (w5.cell? ⟨pb,1,none⟩=some bv∧w5.frozen? ⟨pb,1,none⟩=false)∧Below B w (w5.setCell ⟨pb,1,none⟩ (.slice (some ⟨g5,0,none⟩) (bl.length+1) c)):=by
 have h2:=h.below hA
 have hcv:∀k,bv.ownBlock=some k→¬lh w2 k:=fun k e=>bT h2.px.bo (by decide) e
 have hu1:NU none w2 w5:=NU.iU hg hcv
 have hbk:Bk w5 pb #[nextV pb s.next,bv,cv,nv] 64:=(hg.block pb h2.px.blk.lt (fun e=>by
  rcases az h2.px.bo h2.px.blk (by decide)with e'|e'
  ·rw[e']at e;cases e
  ·exact e' e.symm)).trans h2.px.blk
 have hco:=h2.px.co.kept hg (dC h2.px.co h2.px.bo (by decide))
 have hno:=h2.px.no.kept hg (dC h2.px.no h2.px.bo (by decide))
 have hu2:NU none w5 (w5.setCell ⟨pb,1,none⟩ (.slice (some ⟨g5,0,none⟩) (bl.length+1) c)):=Px.jT (B:=B) _ hbk 1 _
 have hm:∀{w':World}k,Dd B w' (rowsOf bl s.bs cl s.cs) k→Dd B w' (rowsOf (pK y::bl) (⟨kJ t s.nm.length,[],[]⟩::s.bs) cl s.cs) k:=fun k hk=>tq k (tq k hk)
 have hln:=h.ln
 obtain⟨hi,hnm⟩:=brV_big (k:=s.nm.length) ht (by omega)
 refine⟨⟨⟨by have:=hbk.set 1 (.slice (some ⟨g5,0,none⟩) (bl.length+1) c);simpa using this,h.px.pB,?_,hco.kept (ay _ _ _ _) (az hco hbk (by decide)),hno.kept (ay _ _ _ _) (az hno hbk (by decide)),(h2.px.gh.grown hg fun k e=>oh h2.px.bo (by decide) e).grown (ay _ _ _ _) fun k e=>by cases e;exact lS hbk (by decide)⟩,?_,?_,(((h2.rows.nu hu1).nu hu2).Ch).Ch,by simp;omega,by have:=h.lc;omega,by have:=h.ln;simp only;omega,fun r hr=>?_⟩,⟨hbk.cell 1 rfl,hbk.frozen 1⟩,?_⟩
 ·have e:dm c10 bl.reverse++c10 (pK y)=dm c10 (pK y::bl).reverse:=by rw[List.reverse_cons,eY];simp[dm]
  rw[e]at h5
  exact h5.kept (ay _ _ _ _) (az h5 hbk (by decide))
 ·subst hy
  exact .cons _ _ _ _ (brV_is t _) hi hnm h.br
 ·exact h2.cx.imp fun t u f=>((f.nu hu1).nu hu2).mono hm
 ·rcases List.mem_cons.1 hr with rfl|hr
  ·exact Nat.zero_le _
  ·rcases List.mem_cons.1 hr with rfl|hr
   ·exact Nat.zero_le _
   ·exact h.lr r hr
 ·have fF:B≤w.heap.size:=Nat.le_trans h.px.pB (Nat.le_of_lt h.px.blk.lt)
  exact((ae hA fF).trans (Below.aF hg (by have:=hA.size;omega) fun k e=>(h.px.bo.lt k e).1)).setCell (by exact h.px.pB) _
end Go.Proofs.YtgbkolonhddolaaGreatDoor.prs
