import Derived.Deep.AppendLies
import Derived.Deep.RegionLaw
import Derived.Test.YtkghmgoefiepeaaGreatDoorQ0
import Derived.Test.YtkghmgoefiepeaaGreatDoorQ31
set_option linter.unusedSimpArgs false
set_option linter.unusedVariables false
set_option maxHeartbeats 4000000
set_option maxRecDepth 100000
namespace Go.Proofs.YtkghmgoefiepeaaGreatDoor.reads
open Go.ChangeShapes Go.WideShapes Go.ChangeAt Go.RowKit Kn Go.Proofs.YtkghmgoefiepeaaGreatDoor.img
variable {m : Im}
variable {K : Kd}
theorem make_put {w W w1:World} (h:KIm w m K) {c n:Nat} (hc:c < m.kl.length) (hn:n=m.obs.length) {g cap':Nat}{sl:List Vl} (hm':ImOk { m with obs:=m.obs++[⟨c,sl⟩] })
 (hBW:Below w.heap.size w W) (hWs:W.heap.size=w.heap.size+3) (hsl:W.heap[w.heap.size+1]?=some (.cells (vcs sl).toArray 33))
 (hown:w1.ownsRow 0 105 2 (.slice (some ⟨g,0,none⟩) (n+1) cap') (n+1) (ocs K.cb K.ob 0 m.obs++[.pointer (some ⟨K.cb c,0,none⟩),.slice (some ⟨w.heap.size+1,0,none⟩) sl.length sl.length]))
 (hg:W.grownBy w1 K.ov.ownBlock) (hat:K.ov.ownBlock=some g∨g=w.heap.size+3) (hgl:g < w1.heap.size) (v0 v1:Value) :
 ∃ K',Step w (((w1.setCell ⟨K.b,1,none⟩ (.slice (some ⟨g,0,none⟩) (n+1) cap')).setCell ⟨w.heap.size,0,none⟩ v0).setCell ⟨w.heap.size,1,none⟩ v1) m K { m with obs:=m.obs++[⟨c,sl⟩] } K':=by
 subst hn
 have hbl:=h.cor.tab.cel.lt
 have hkind:∀ k,OBlk K.ob K.ov m.obs.length k→k < w.heap.size∧k≠K.b:=fun k e=>⟨h.obs.lt e,fun e'=>by
  obtain ⟨cur,hcur⟩:=h.cor.img
  obtain ⟨cs,hcs⟩:=h.obs.kind e
  rw [e',hcur] at hcs
  rcases hcs with hcs | hcs <;> (injection hcs with hcs;injection hcs with _ hcs _;revert hcs;decide)⟩
 have hbo:some K.b≠K.ov.ownBlock:=fun e=>(hkind K.b (.inl e.symm)).2 rfl
 have hgb:g≠K.b:=fun e=>by
  rcases hat with e1 | e1
  · exact (hkind g (.inl e1)).2 e
  · omega
 have hgw:g≠w.heap.size:=fun e=>by
  rcases hat with e1 | e1
  · have:=(hkind g (.inl e1)).1;omega
  · omega
 have hob:∀ i o,m.obs[i]?=some o→some (K.ob i)≠K.ov.ownBlock:=fun i o ho e=>by
  have h1:=h.obs.at_ i o ho
  rcases h.obs.own.2 with ⟨e1,_⟩ | ⟨g',cap,cur,e1,h2,h3,h4⟩
  · rw [e1] at e;cases e
  · rw [e1] at e
    simp [Value.ownBlock] at e
    rw [e,h3] at h1
    injection h1 with h1
    injection h1 with _ h1 _
    revert h1
    decide
 obtain ⟨X,hX⟩:∃ X,X=((w1.setCell ⟨K.b,1,none⟩ (.slice (some ⟨g,0,none⟩) (m.obs.length+1) cap')).setCell ⟨w.heap.size,0,none⟩ v0).setCell ⟨w.heap.size,1,none⟩ v1:=⟨_,rfl⟩
 rw [← hX]
 have hXb:∀ k,k≠K.b→k≠w.heap.size→X.heap[k]?=w1.heap[k]?:=fun k e1 e2=>by
  rw [hX,Below.heap_setCell _ _ _ _ e2,Below.heap_setCell _ _ _ _ e2,Below.heap_setCell _ _ _ _ e1]
 have hX1:∀ k,k < w.heap.size→k≠K.b→some k≠K.ov.ownBlock→X.heap[k]?=w.heap[k]?:=fun k e1 e2 e3=>(hXb k e2 (by omega)).trans ((hg.block k (by omega) e3).trans (hBW.block k e1))
 have hsz:X.heap.size=w1.heap.size:=by rw [hX];simp [World.setCell]
 have hs1:=hg.size
 have hoc:ocs K.cb (fun i=>if i=m.obs.length then w.heap.size+1 else K.ob i) 0 (m.obs++[⟨c,sl⟩])=ocs K.cb K.ob 0 m.obs++[.pointer (some ⟨K.cb c,0,none⟩),.slice (some ⟨w.heap.size+1,0,none⟩) sl.length sl.length]:=by
  rw [ocs_snoc,ocs_congr (cb:=K.cb) (ob:=K.ob) m.obs m.obs 0 rfl (fun i o o' ho ho'=>by
   rw [ho] at ho'
   injection ho' with ho'
   subst ho'
   have:=(List.getElem?_eq_some_iff.1 ho).1
   exact ⟨rfl,if_neg (by omega),rfl⟩)]
  simp
 have hobs:ObsAt X K.cb (fun i=>if i=m.obs.length then w.heap.size+1 else K.ob i) (.slice (some ⟨g,0,none⟩) (m.obs.length+1) cap') (m.obs++[⟨c,sl⟩]):=by
  refine ⟨?_,fun i o ho=>?_,fun i j hi hj e=>?_,fun e=>by simp at e⟩
  · rw [hoc,List.length_append]
    refine ⟨hown.1,?_⟩
    rcases hown.2 with ⟨e1,_⟩ | ⟨g',cap2,cur,e1,h2,h3,h4⟩
    · cases e1
    · refine .inr ⟨g',cap2,cur,e1,h2,?_,h4⟩
      have:g'=g:=by injection e1 with e1 _ _;injection e1 with e1;injection e1 with e1 _ _;exact e1.symm
      rw [this,hXb g hgb hgw,← this]
      exact h3
  · by_cases hi:i < m.obs.length
    · rw [List.getElem?_append_left hi] at ho
      simp only [if_neg (by omega:¬ i=m.obs.length)]
      have hk:=hkind (K.ob i) (.inr ⟨i,hi,rfl⟩)
      exact (hX1 _ hk.1 hk.2 (hob i o ho)).trans (h.obs.at_ i o ho)
    · have hi2:i=m.obs.length:=by have:=(List.getElem?_eq_some_iff.1 ho).1;simp at this;omega
      subst hi2
      simp at ho
      subst ho
      simp only [if_true]
      refine (hXb _ (by omega) (by omega)).trans ((hg.block _ (by omega) ?_).trans hsl)
      intro e
      have:=(hkind _ (.inl e.symm)).1
      omega
  · simp at hi hj
    by_cases e1:i=m.obs.length
    · by_cases e2:j=m.obs.length
      · omega
      · rw [if_pos e1,if_neg e2] at e
        have:=(hkind (K.ob j) (.inr ⟨j,by omega,rfl⟩)).1
        omega
    · by_cases e2:j=m.obs.length
      · rw [if_neg e1,if_pos e2] at e
        have:=(hkind (K.ob i) (.inr ⟨i,by omega,rfl⟩)).1
        omega
      · rw [if_neg e1,if_neg e2] at e
        exact h.obs.inj i j (by omega) (by omega) e
 refine ⟨_,h.reobs hm' hobs (fun k e=>?_) ⟨?_,?_,?_,by omega,fun k hk e=>?_⟩ ?_ (fun o ho=>?_) ?_⟩
 · rcases e with e | ⟨i,hi,e⟩
   · simp [Value.ownBlock] at e
     rcases hat with e1 | e1
     · exact .inl (.inl (by rw [← e];exact e1))
     · exact .inr (by omega)
   · simp at hi
     by_cases e1:i=m.obs.length
     · simp only [e1,if_true] at e;exact .inr (by omega)
     · simp only [if_neg e1] at e;exact .inl (.inr ⟨i,by omega,e⟩)
 · rw [hX];exact hg.os.trans hBW.os
 · rw [hX];exact hg.tape.trans hBW.tape
 · rw [hX];exact hg.output.trans hBW.output
 · exact hX1 k hk (fun e1=>e (.inl e1)) (fun e1=>e (.inr (.inl e1.symm)))
 · obtain ⟨cur,hcur⟩:=h.cor.img
   have hb1:w1.heap[K.b]?=some (.cells cur 70):=(hg.block K.b (by omega) hbo).trans ((hBW.block K.b hbl).trans hcur)
   rw [hX,Below.heap_setCell _ _ _ _ (by show K.b≠w.heap.size;omega),Below.heap_setCell _ _ _ _ (by show K.b≠w.heap.size;omega)]
   exact ⟨_,by simp only [World.setCell,Array.getElem?_modify,if_pos,hb1];rfl⟩
 · rw [hX,cs_other (by intro e;injection e with e1 e2;omega),cs_other (by intro e;injection e with e1 e2;omega),cs_other (by intro e;injection e with e1 e2;omega)]
   exact (World.cell?_of_block (a:=⟨K.b,o,none⟩) (hg.block K.b (by omega) hbo)).trans (World.cell?_of_block (a:=⟨K.b,o,none⟩) (hBW.block K.b hbl))
 · rw [hX,cs_other (by intro e;injection e with e1 e2;omega),cs_other (by intro e;injection e with e1 e2;omega)]
   exact cs_same ((World.cell?_of_block (a:=⟨K.b,1,none⟩) (hg.block K.b (by omega) hbo)).trans ((World.cell?_of_block (a:=⟨K.b,1,none⟩) (hBW.block K.b hbl)).trans h.hd.c1))
variable {w : World}
theorem make_any (h:KIm w m K) (cn:ByteArray) :
 Calls Tryz.prog 16 #[.pointer (some ⟨K.b,0,none⟩),.string cn] w fun e w'=>e=.returned (.tuple #[(m.make cn).1.val,.int .i64 (m.make cn).2.1])∧∃ K',Step w w' m K (m.make cn).2.2 K':=by
 have HB0:Hid (Below w.heap.size w (w.alloc (.cells #[.bool false,.int .i64 0] 33))):=(Below.refl _ w).alloc (Nat.le_refl _) _
 have h0:=h.below HB0.out
 obtain ⟨p,cap,hv,hf⟩:=h0.obs.form
 have c1:=h0.hd.c1
 rw [hv] at c1
 have hn:=h.ok.objs
 have hcall2:=madeOf_any h0 cn
 have hok:=(make_ok h.ok cn).1
 obtain ⟨r,hr⟩:∃ r,m.make cn=r:=⟨_,rfl⟩
 rw [hr] at hok ⊢
 unfold Im.make at hr
 have hz:=(MapKept.heap_alloc w (.cells #[.bool false,.int .i64 0] 33)).1
 have z0:(w.alloc (.cells #[.bool false,.int .i64 0] 33)).cell? ⟨w.heap.size,0,none⟩=some (.bool false):=by simp only [World.cell?,hz];rfl
 have z1:(w.alloc (.cells #[.bool false,.int .i64 0] 33)).cell? ⟨w.heap.size,1,none⟩=some (.int .i64 0):=by simp only [World.cell?,hz];rfl
 have HS0:Hid (Step w (w.alloc (.cells #[.bool false,.int .i64 0] 33)) m K m K):=Step.below h HB0.out
 cases hmd:m.made cn with
 | none =>
  rw [hmd] at hr hcall2
  simp only at hr
  subst hr
  simp only [Option.map_none,cptr] at hcall2
  clear h h0 hf hv hok hmd hz
  go_enter Tryz.func16,Tryz.ntmps16
  go_wp2_with fail
  refine hcall2.mono ?_
  rintro e w' ⟨rfl,rfl⟩
  go_wp2
  refine bodyPost_ret (results_val rfl _ _ _ rfl rfl z0 z1) rfl ?_
  exact ⟨rfl,K,HS0.out⟩
 | some c =>
  rw [hmd] at hr hcall2
  simp only at hr
  simp only [Option.map_some,cptr] at hcall2
  by_cases h40:40≤m.obs.length
  · rw [if_pos h40] at hr
    subst hr
    have h40':m.obs.length=40:=by omega
    rw [h40'] at c1
    clear h h0 hf hv hok hmd hz
    go_enter Tryz.func16,Tryz.ntmps16
    go_wp2_with fail
    refine hcall2.mono ?_
    rintro e w' ⟨rfl,rfl⟩
    go_wp2
    refine bodyPost_ret (results_val rfl _ _ _ rfl rfl z0 z1) rfl ?_
    exact ⟨rfl,K,HS0.out⟩
  · rw [if_neg h40] at hr
    subst hr
    have h40':((m.obs.length:Int)==40)=false:=beq_eq_false_iff_ne.2 (by omega)
    have hc:=cls_lt (made_some hmd).2
    have t3:=h0.cls.tot hc
    have t3w:=h.cls.tot hc
    have htl:=tot_le h.ok c
    have hmk:=fun W=>mk_vals (m.tot c) htl W
    obtain ⟨i0,hi0,hi1,hi2,hi3⟩:=info_parts info_obj
    have hown0:=h0.obs.own
    rw [hv] at hown0
    have hown1:=((hown0.alloc (.cells (vcs (List.replicate (m.tot c) Vl.zero)).toArray 33)).alloc (.cells #[.pointer (some ⟨K.cb c,0,none⟩),.slice (some ⟨w.heap.size+1,0,none⟩) (m.tot c) (m.tot c)] 105)).drew
    have hnews:∀ j u,([.pointer (some ⟨K.cb c,0,none⟩),.slice (some ⟨w.heap.size+1,0,none⟩) (m.tot c) (m.tot c)]:List Value)[j]?=some u→(((w.alloc (.cells #[.bool false,.int .i64 0] 33)).alloc (.cells (vcs (List.replicate (m.tot c) Vl.zero)).toArray 33)).alloc (.cells #[.pointer (some ⟨K.cb c,0,none⟩),.slice (some ⟨w.heap.size+1,0,none⟩) (m.tot c) (m.tot c)] 105)).drew.cell? ((⟨w.heap.size+1+1,0,none⟩:Addr).add j)=some u:=by
     have:=cells_laid ((w.alloc (.cells #[.bool false,.int .i64 0] 33)).alloc (.cells (vcs (List.replicate (m.tot c) Vl.zero)).toArray 33)) [.pointer (some ⟨K.cb c,0,none⟩),.slice (some ⟨w.heap.size+1,0,none⟩) (m.tot c) (m.tot c)] 105
     simp only [World.size_alloc] at this
     exact this
    have HNW:Hid _:=hnews
    have HOW:Hid _:=hown1
    have c1w:=h.hd.c1
    rw [hv] at c1w
    have hbl:=h.cor.tab.cel.lt
    have hcl:=(h.cls.cel hc).lt
    have HH:Hid _:=h
    have HH0:Hid _:=h0
    have hones:∀ u∈([.pointer (some ⟨K.cb c,0,none⟩),.slice (some ⟨w.heap.size+1,0,none⟩) (m.tot c) (m.tot c)]:List Value),u.oneCell'=true:=by intro u hu;simp at hu;rcases hu with rfl | rfl <;> rfl
    obtain ⟨W,hWW⟩:∃ W,W=(((w.alloc (.cells #[.bool false,.int .i64 0] 33)).alloc (.cells (vcs (List.replicate (m.tot c) Vl.zero)).toArray 33)).alloc (.cells #[.pointer (some ⟨K.cb c,0,none⟩),.slice (some ⟨w.heap.size+1,0,none⟩) (m.tot c) (m.tot c)] 105)).drew:=⟨_,rfl⟩
    have hBW:Below w.heap.size w W:=by rw [hWW];exact (below3 _ _ _ _).drew
    have hWs:W.heap.size=w.heap.size+3:=by rw [hWW];simp
    have hWz:W.heap[w.heap.size]?=some (.cells #[.bool false,.int .i64 0] 33):=by
     rw [hWW]
     show (((w.alloc _).alloc _).alloc _).heap[w.heap.size]?=_
     rw [Below.heap_alloc _ _ _ (by simp;omega),Below.heap_alloc _ _ _ (by simp)]
     exact (MapKept.heap_alloc w _).1
    have hWsl:W.heap[w.heap.size+1]?=some (.cells (vcs (List.replicate (m.tot c) Vl.zero)).toArray 33):=by
     rw [hWW]
     show (((w.alloc _).alloc _).alloc _).heap[w.heap.size+1]?=_
     rw [Below.heap_alloc _ _ _ (by simp)]
     have:=(MapKept.heap_alloc (w.alloc (.cells #[.bool false,.int .i64 0] 33)) (.cells (vcs (List.replicate (m.tot c) Vl.zero)).toArray 33)).1
     rw [World.size_alloc] at this
     exact this
    have hbo:some K.b≠(Value.slice p m.obs.length cap).ownBlock:=fun e=>by
     rw [← hv] at e
     obtain ⟨cur,hcur⟩:=h.cor.img
     obtain ⟨cs,hcs⟩:=h.obs.kind (k:=K.b) (.inl e.symm)
     rw [hcur] at hcs
     rcases hcs with hcs | hcs <;> (injection hcs with hcs;injection hcs with _ hcs _;revert hcs;decide)
    have hbz:some w.heap.size≠(Value.slice p m.obs.length cap).ownBlock:=fun e=>by
     rw [← hv] at e
     have:=h.obs.lt (k:=w.heap.size) (.inl e.symm)
     omega
    have HW:Hid (Below w.heap.size w W∧W.heap.size=w.heap.size+3∧W.heap[w.heap.size]?=some (.cells #[.bool false,.int .i64 0] 33)∧W.heap[w.heap.size+1]?=some (.cells (vcs (List.replicate (m.tot c) Vl.zero)).toArray 33)∧some K.b≠(Value.slice p m.obs.length cap).ownBlock∧some w.heap.size≠(Value.slice p m.obs.length cap).ownBlock):=⟨hBW,hWs,hWz,hWsl,hbo,hbz⟩
    have HWW:Hid _:=hWW
    have HOK:Hid _:=hok
    have HV:Hid _:=hv
    have hn40:(m.obs.length:Int) < 40:=by omega
    have c1x:((w.alloc (.cells #[.bool false,.int .i64 0] 33)).alloc (.cells (vcs (List.replicate (m.tot c) Vl.zero)).toArray 33)).cell? ⟨K.b,1,none⟩=some (.slice p m.obs.length cap):=((below2 w _ _).cell (p:=⟨K.b,1,none⟩) hbl).trans c1w
    have c1y:(((w.alloc (.cells #[.bool false,.int .i64 0] 33)).alloc (.cells (vcs (List.replicate (m.tot c) Vl.zero)).toArray 33)).alloc (.cells #[.pointer (some ⟨K.cb c,0,none⟩),.slice (some ⟨w.heap.size+1,0,none⟩) (m.tot c) (m.tot c)] 105)).cell? ⟨K.b,1,none⟩=some (.slice p m.obs.length cap):=((below3 w _ _ _).cell (p:=⟨K.b,1,none⟩) hbl).trans c1w
    clear hf h h0 hnews hown1 hown0 hok hmd hWW hBW hWs hWz hWsl hbo hbz hv
    go_enter Tryz.func16,Tryz.ntmps16
    go_wp2_with fail
    refine hcall2.mono ?_
    rintro e w' ⟨rfl,rfl⟩
    go_wp2_with fail
    go_region_law (
     (refine step_append_lies _ rfl _ _ _ rfl 0 105 i0 (.agg #[.pointer none, .slice none 0 0]) 2 32 Tryz.underlying68 hi0 hi1 hi2 hi3 rfl (by decide) (.slice p m.obs.length cap) m.obs.length (ocs K.cb K.ob 0 m.obs) rfl HOW.out ⟨w.heap.size + 1 + 1, 0, none⟩ 1 1 [.pointer (some ⟨K.cb c, 0, none⟩), .slice (some ⟨w.heap.size + 1, 0, none⟩) (m.tot c) (m.tot c)] rfl rfl HNW.out hones (by omega) (by unfold maxLen; omega) (by omega) (Nat.zero_le _) _ rfl ?_
      intro g cap' w1 hown7 hg7 hat7 hlt7
      rw [← HWW.out] at hg7 hat7
      have c17:w1.cell? ⟨K.b,1,none⟩=some (.slice p m.obs.length cap):=(World.cell?_of_block (a:=⟨K.b,1,none⟩) (hg7.block K.b (by rw [HW.out.2.1];omega) HW.out.2.2.2.2.1)).trans ((World.cell?_of_block (a:=⟨K.b,1,none⟩) (HW.out.1.block K.b hbl)).trans c1w)
      have f17:∀ o,w1.frozen? ⟨K.b,o,none⟩=false:=fun o=>((HH.out.cor.tab.cel.same (HW.out.1.block K.b hbl)).same (hg7.block K.b (by rw [HW.out.2.1];omega) HW.out.2.2.2.2.1)).free o
      have hz7:w1.heap[w.heap.size]?=some (.cells #[.bool false,.int .i64 0] 33):=(hg7.block w.heap.size (by rw [HW.out.2.1];omega) HW.out.2.2.2.2.2).trans HW.out.2.2.1
      have y0:w1.cell? ⟨w.heap.size,0,none⟩=some (.bool false):=by simp only [World.cell?,hz7];rfl
      have y1:w1.cell? ⟨w.heap.size,1,none⟩=some (.int .i64 0):=by simp only [World.cell?,hz7];rfl
      have yf:∀ o,w1.frozen? ⟨w.heap.size,o,none⟩=false:=fun o=>Cel.free ⟨_,_,hz7⟩ o
      have hl7:=hg7.size
      rw [HW.out.2.1] at hl7 hat7
      have H7:Hid (w1.ownsRow 0 105 2 (.slice (some ⟨g,0,none⟩) (m.obs.length+1) cap') (m.obs.length+1) (ocs K.cb K.ob 0 m.obs++[.pointer (some ⟨K.cb c,0,none⟩),.slice (some ⟨w.heap.size+1,0,none⟩) (m.tot c) (m.tot c)])∧W.grownBy w1 (Value.slice p m.obs.length cap).ownBlock∧((Value.slice p m.obs.length cap).ownBlock=some g∨g=w.heap.size+3)∧g < w1.heap.size):=⟨hown7,hg7,hat7,hlt7⟩
      have hb7:K.b < w1.heap.size:=by omega
      have hw7:w.heap.size < w1.heap.size:=by omega
      have hne7:¬ K.b=w.heap.size:=by omega
      have hne8:¬ w.heap.size=K.b:=by omega
      clear hown7 hg7 hat7 hz7))
    all_goals
     go_wp2
     obtain ⟨hown7,hg7,hat7,hlt7⟩:=H7.out
     rw [← HV.out] at hg7 hat7
     have hlen:(List.replicate (m.tot c) Vl.zero).length=m.tot c:=List.length_replicate
     have hput:=make_put (n:=m.obs.length) (sl:=List.replicate (m.tot c) Vl.zero) HH.out hc rfl HOK.out HW.out.1 HW.out.2.1 HW.out.2.2.2.1 (by rw [hlen];exact hown7) hg7 hat7 hlt7 (.bool true) (.int .i64 (m.obs.length:Nat))
     refine bodyPost_ret (results_val (z:=w.heap.size) rfl (.bool true) (.int .i64 (m.obs.length:Nat)) (.int .i64 0) rfl rfl ?_ ?_) rfl ⟨rfl,hput⟩
     · exact (cs_other (by intro e;injection e with e1 e2;omega)).trans (cs_same ((cs_other (by intro e;injection e with e1 e2;omega)).trans y0))
     · exact cs_same ((cs_other (by intro e;injection e with e1 e2;omega)).trans ((cs_other (by intro e;injection e with e1 e2;omega)).trans y1))
end Go.Proofs.YtkghmgoefiepeaaGreatDoor.reads
