import Derived.Defers
import Derived.Recover
import Derived.Test.YtkghmgoefiepeaaGreatDoorQ0
import Derived.Test.YtkghmgoefiepeaaGreatDoorQ30
set_option linter.unusedSimpArgs false
set_option linter.unusedVariables false
set_option maxHeartbeats 4000000
set_option maxRecDepth 100000
namespace Go.Proofs.YtkghmgoefiepeaaGreatDoor.reads
open Go.ChangeShapes Go.WideShapes Go.ChangeAt Go.RowKit Kn Go.Proofs.YtkghmgoefiepeaaGreatDoor.img
variable {w : World}
variable {m : Im}
variable {K : Kd}
theorem KIm.rebe (h:KIm w m K) {i c g:Nat}{x:Ob} (hx:m.obs[i]?=some x) (hg:K.ov.ownBlock=some g) (hm':ImOk { m with obs:=m.obs.set i { x with cls:=c } }) :
 Step w (w.setCell ⟨g,i*2,none⟩ (.pointer (some ⟨K.cb c,0,none⟩))) m K { m with obs:=m.obs.set i { x with cls:=c } } K:=by
 have hi:=(List.getElem?_eq_some_iff.1 hx).1
 obtain ⟨p,cap,hv,hf⟩:=h.obs.form
 obtain ⟨g',hg',hF⟩:=hf i x hx
 rw [hg'] at hg
 injection hg with hg
 subst hg
 obtain ⟨rfl⟩:=hF.p
 have hgO:OBlk K.ob K.ov m.obs.length g':=.inl hg'
 obtain ⟨cs0,hcs0⟩:=hF.typ
 have hset:∀ j,j≠g'→(w.setCell ⟨g',i*2,none⟩ (.pointer (some ⟨K.cb c,0,none⟩))).heap[j]?=w.heap[j]?:=fun j hj=>Below.heap_setCell _ _ _ _ hj
 have hb:K.b≠g':=fun e=>by
  obtain ⟨cur,hcur⟩:=h.cor.img
  rw [e,hcs0] at hcur
  injection hcur with hcur
  injection hcur with _ hcur _
  revert hcur
  decide
 have hlen:(m.obs.set i { x with cls:=c }).length=m.obs.length:=by simp
 have hown:=h.obs.own
 rw [hv] at hown
 have hst:=(hown.stored (i*2) (.pointer (some ⟨K.cb c,0,none⟩)))
 refine KIm.reobs (ov:=K.ov) (ob:=K.ob) h hm' ⟨?_,fun j o ho=>?_,fun a b ha hb=>h.obs.inj a b (by rw [← hlen];exact ha) (by rw [← hlen];exact hb),fun e=>?_⟩ (fun k hk=>.inl (by rw [← hlen];exact hk)) ((Chg.refl w _).setCell _ _ (fun _=>.inr hgO)) ?_ (fun o _=>World.cell?_of_block (a:=⟨K.b,o,none⟩) (hset _ hb)) ((World.cell?_of_block (a:=⟨K.b,1,none⟩) (hset _ hb)).trans h.hd.c1)
 · rw [hlen,hv,ocs_set K.cb K.ob m.obs 0 i x { x with cls:=c } hx rfl]
   exact hst.1
 · have hne:K.ob j≠g':=fun e=>by
    have hj:j < m.obs.length:=by rw [← hlen];exact (List.getElem?_eq_some_iff.1 ho).1
    have:=h.obs.at_ j _ (List.getElem?_eq_getElem hj)
    rw [e,hcs0] at this
    injection this with this
    injection this with _ this _
    revert this
    decide
   refine (hset _ hne).trans ?_
   by_cases e:i=j
   · subst e
     rw [List.getElem?_set_self hi] at ho
     injection ho with ho
     subst ho
     exact h.obs.at_ i x hx
   · rw [List.getElem?_set_ne e] at ho
     exact h.obs.at_ j o ho
 · have:(m.obs.set i { x with cls:=c }).length=0:=by rw [e];rfl
   omega
 · obtain ⟨cur,hcur⟩:=h.cor.img
   exact ⟨cur,(hset _ hb).trans hcur⟩
theorem be_any (h:KIm w m K) (o:Int) (cn:ByteArray) :
 Calls Tryz.prog 33 #[.pointer (some ⟨K.b,0,none⟩),.int .i64 o,.string cn] w fun e w'=>e=.returned (.int .i64 (m.be o cn).1)∧∃ K',Step w w' m K (m.be o cn).2 K':=by
 obtain ⟨p,cap,hv,hf⟩:=h.obs.form
 have c1:=h.hd.c1
 rw [hv] at c1
 have hn:=h.ok.objs
 have hcall:=has_any hn c1 o
 rw [show (decide (0≤o)&&decide (o < (m.obs.length:Int)))=m.there o from rfl] at hcall
 have hcall2:=madeOf_any h cn
 have hok:=(be_ok h.ok o cn).1
 obtain ⟨r,hr⟩:∃ r,m.be o cn=r:=⟨_,rfl⟩
 rw [hr] at hok ⊢
 unfold Im.be at hr
 cases ht:m.there o with
 | false =>
  rw [ht,if_pos rfl] at hr
  subst hr
  rw [ht] at hcall
  have HS:Hid (Step w w m K m K):=Step.refl h
  clear h hcall2 hf hv hok ht
  go_enter Tryz.func33,Tryz.ntmps33
  go_wp2_with fail
  refine hcall.mono ?_
  rintro e w' ⟨rfl,rfl⟩
  go_wp2
  go_ret
  exact ⟨rfl,K,HS.out⟩
 | true =>
  rw [ht,if_neg (by simp)] at hr
  obtain ⟨i,x,rfl,hx,hi,hil⟩:=there_get ht
  obtain ⟨g,hg,hF⟩:=hf i x hx
  rw [ht] at hcall
  cases hmd:m.made cn with
  | none =>
   rw [hmd] at hr hcall2
   simp only at hr
   subst hr
   simp only [Option.map_none,cptr] at hcall2
   have HS:Hid (Step w w m K m K):=Step.refl h
   clear h hf hv hok ht hF hx hmd
   go_enter Tryz.func33,Tryz.ntmps33
   go_wp2_with fail
   refine hcall.mono ?_
   rintro e w' ⟨rfl,rfl⟩
   go_wp2_with fail
   refine hcall2.mono ?_
   rintro e w' ⟨rfl,rfl⟩
   go_wp2
   go_ret
   exact ⟨rfl,K,HS.out⟩
  | some c =>
   rw [hmd] at hr hcall2
   simp only [hi,hx] at hr
   simp only [Option.map_some,cptr] at hcall2
   have hc:=cls_lt (made_some hmd).2
   have t3:=h.cls.tot hc
   have htl:=tot_le h.ok c
   have hxo:=h.ok.obj x (List.mem_of_getElem? hx)
   have hxl:x.slots.length≤10:=by rw [hxo.2.2.1];exact tot_le h.ok x.cls
   have o1:=hF.c1
   have o0:=hF.c0
   have ofz:=hF.fz
   obtain ⟨rfl⟩:=hF.p
   have hil':(i:Int) < (m.obs.length:Int):=by omega
   have HH:Hid (KIm w m K∧m.obs[i]?=some x∧K.ov.ownBlock=some g):=⟨h,hx,hg⟩
   by_cases hne:m.tot c≠x.slots.length
   · rw [if_pos hne] at hr
     subst hr
     have hnb:((m.tot c:Int) != (x.slots.length:Int))=true:=by simp;omega
     clear h hf hv hok ht hF hx hmd hg hxo
     go_enter Tryz.func33,Tryz.ntmps33
     go_wp2_with fail
     refine hcall.mono ?_
     rintro e w' ⟨rfl,rfl⟩
     go_wp2_with fail
     refine hcall2.mono ?_
     rintro e w' ⟨rfl,rfl⟩
     go_wp2_with fail
     go_region
     go_wp2
     go_ret
     exact ⟨rfl,K,drew_step HH.out.1⟩
   · rw [if_neg hne] at hr
     subst hr
     have heq:m.tot c=x.slots.length:=by omega
     rw [heq] at t3
     have HO:Hid _:=hok
     clear h hf hv hok ht hF hx hmd hg hxo
     go_enter Tryz.func33,Tryz.ntmps33
     go_wp2_with fail
     refine hcall.mono ?_
     rintro e w' ⟨rfl,rfl⟩
     go_wp2_with fail
     refine hcall2.mono ?_
     rintro e w' ⟨rfl,rfl⟩
     go_wp2_with fail
     go_region
     go_wp2
     go_ret
     obtain ⟨h,hx,hg⟩:=HH.out
     exact ⟨rfl,K,(drew_step h).trans (h.drew.rebe hx hg HO.out)⟩
theorem setCell_cells {b o:Nat}{cs:Array Value}{t:TypeId} (v:Value) (h:w.heap[b]?=some (.cells cs t)):(w.setCell ⟨b,o,none⟩ v).heap[b]?=some (.cells (cs.setIfInBounds o v) t):=by
 simp only [World.setCell,Array.getElem?_modify,if_pos,h];rfl
theorem KIm.restore (h:KIm w m K) {i j:Nat}{x:Ob}{v:Vl} (hx:m.obs[i]?=some x) (hj:j < x.slots.length) (hm':ImOk { m with obs:=m.obs.modify i (fun o=>{ o with slots:=o.slots.set j v }) }) :
 Step w ((w.setCell ⟨K.ob i,j*2,none⟩ (.bool v.obj)).setCell ⟨K.ob i,j*2+1,none⟩ (.int .i64 v.n)) m K { m with obs:=m.obs.modify i (fun o=>{ o with slots:=o.slots.set j v }) } K:=by
 have hi:=(List.getElem?_eq_some_iff.1 hx).1
 have hb0:=h.obs.at_ i x hx
 have hset:∀ k,k≠K.ob i→((w.setCell ⟨K.ob i,j*2,none⟩ (.bool v.obj)).setCell ⟨K.ob i,j*2+1,none⟩ (.int .i64 v.n)).heap[k]?=w.heap[k]?:=fun k hk=>(Below.heap_setCell _ ⟨K.ob i,j*2+1,none⟩ _ _ hk).trans (Below.heap_setCell _ ⟨K.ob i,j*2,none⟩ _ _ hk)
 have hb:K.b≠K.ob i:=fun e=>by
  obtain ⟨cur,hcur⟩:=h.cor.img
  rw [e,hb0] at hcur
  injection hcur with hcur
  injection hcur with _ hcur _
  revert hcur
  decide
 have hlen:(m.obs.modify i (fun o=>{ o with slots:=o.slots.set j v })).length=m.obs.length:=by simp
 have hget:∀ k o,(m.obs.modify i (fun o=>{ o with slots:=o.slots.set j v }))[k]?=some o→(k=i∧o={ x with slots:=x.slots.set j v })∨(k≠i∧m.obs[k]?=some o):=fun k o ho=>by
  rw [List.getElem?_modify] at ho
  by_cases e:i=k
  · subst e
    rw [hx] at ho
    simp at ho
    exact .inl ⟨rfl,ho.symm⟩
  · simp only [e,if_false] at ho
    refine .inr ⟨fun e'=>e e'.symm,?_⟩
    simpa using ho
 refine KIm.reobs (ov:=K.ov) (ob:=K.ob) h hm' ⟨?_,fun k o ho=>?_,fun a b ha hb=>h.obs.inj a b (by rw [← hlen];exact ha) (by rw [← hlen];exact hb),fun e=>?_⟩ (fun k hk=>.inl (by rw [← hlen];exact hk)) (((Chg.refl w _).setCell _ _ (fun _=>.inr (.inr ⟨i,hi,rfl⟩))).setCell _ _ (fun _=>.inr (.inr ⟨i,hi,rfl⟩))) ?_ (fun o _=>World.cell?_of_block (a:=⟨K.b,o,none⟩) (hset _ hb)) ((World.cell?_of_block (a:=⟨K.b,1,none⟩) (hset _ hb)).trans h.hd.c1)
 · have e1:ocs K.cb K.ob 0 (m.obs.modify i (fun o=>{ o with slots:=o.slots.set j v }))=ocs K.cb K.ob 0 m.obs:=ocs_congr _ _ 0 hlen (fun k o o' ho ho'=>by
    rcases hget k o' ho' with ⟨rfl,rfl⟩ | ⟨_,ho2⟩
    · rw [hx] at ho;injection ho with ho;subst ho;exact ⟨rfl,rfl,by simp⟩
    · rw [ho] at ho2;injection ho2 with ho2;subst ho2;exact ⟨rfl,rfl,rfl⟩)
   rw [hlen,e1]
   refine ⟨h.obs.own.1,?_⟩
   rcases h.obs.own.2 with e | ⟨g,cap,cur,e,h1,h2,h3⟩
   · exact .inl e
   · refine .inr ⟨g,cap,cur,e,h1,(hset g (fun e'=>?_)).trans h2,h3⟩
     rw [e',hb0] at h2
     injection h2 with h2
     injection h2 with _ h2 _
     revert h2
     decide
 · rcases hget k o ho with ⟨rfl,rfl⟩ | ⟨hne,ho2⟩
   · have h1:=setCell_cells (w:=w) (b:=K.ob k) (o:=j*2) (.bool v.obj) hb0
     have h2:=setCell_cells (w:=w.setCell ⟨K.ob k,j*2,none⟩ (.bool v.obj)) (b:=K.ob k) (o:=j*2+1) (.int .i64 v.n) h1
     rw [h2,vcs_set x.slots j v hj]
     simp
   · exact (hset _ (fun e=>hne (h.obs.inj k i (by have:=(List.getElem?_eq_some_iff.1 ho2).1;exact this) hi e))).trans (h.obs.at_ k o ho2)
 · have:(m.obs.modify i (fun o=>{ o with slots:=o.slots.set j v })).length=0:=by rw [e];rfl
   omega
 · obtain ⟨cur,hcur⟩:=h.cor.img
   exact ⟨cur,(hset _ hb).trans hcur⟩
theorem info_val:(Tryz.prog.info? 33).map (fun i=>(i.zero,i.size,i.bytes))=some (some (.agg #[.bool false,.int .i64 0]),2,16):=by kernel_rfl
theorem info_obj:(Tryz.prog.info? 105).map (fun i=>(i.zero,i.size,i.bytes))=some (some (.agg #[.pointer none,.slice none 0 0]),2,32):=by kernel_rfl
theorem made_vals:∀ n,n≤10→madeCells #[.bool false,.int .i64 0] (n*2)=(vcs (List.replicate n Vl.zero)).toArray
 | 0,_=>by kernel_rfl
 | 1,_=>by kernel_rfl
 | 2,_=>by kernel_rfl
 | 3,_=>by kernel_rfl
 | 4,_=>by kernel_rfl
 | 5,_=>by kernel_rfl
 | 6,_=>by kernel_rfl
 | 7,_=>by kernel_rfl
 | 8,_=>by kernel_rfl
 | 9,_=>by kernel_rfl
 | 10,_=>by kernel_rfl
 | n+11,h=>by omega
theorem mk_vals (n:Nat) (hn:n≤10) (w:World):(Instr.makeSlice 34 (.int .i64 (n:Int)) (.int .i64 (n:Int))).run Tryz.prog w=.ok (.slice (some ⟨w.heap.size,0,none⟩) n n) (w.alloc (.cells (vcs (List.replicate n Vl.zero)).toArray 33)):=by
 obtain ⟨i0,hi,h0,h1,h2⟩:=info_parts info_val
 have h:=run_make (P:=Tryz.prog) w 34 33 i0 _ Tryz.underlying34 hi h0 .i64 .i64 (n:Int) (n:Int) (by omega) (by omega) (by rw [h2];omega) (by omega)
 rw [h,Int.toNat_natCast,h1]
 show Result.ok _ (w.alloc (.cells (madeCells #[.bool false,.int .i64 0] (n*2)) _))=_
 rw [made_vals n hn]
theorem results_v1 {fn:Func}{p:Tmp} (h:fn.results=#[.cell p 33]) {tmps:Array Value}{z:Nat} (v0 v1:Value) (hp:tmps.getD p undef=.pointer (some ⟨z,0,none⟩)) (z0:w.cell? ⟨z,0,none⟩=some v0) (z1:w.cell? ⟨z,1,none⟩=some v1) :
 (results fn tmps).run Tryz.prog w=.ok (.agg #[v0,v1]) w:=by
 have hp2:tmps[p]?.getD undef=.pointer (some ⟨z,0,none⟩):=by rw [← hp];simp
 simp [results,h,hp2,go_sem,z0,z1]
structure FrRaw (w:World) (fb:Nat) (mp kp:Option Addr) (sf:Vl) (args:List Vl) (pc:Nat) (st:List Vl) (snd:Option Nat):Prop where
 blk:∃ cs:Array Value,w.heap[fb]?=some (.cells cs 212)∧cs.size=45
 c0:w.cell? ⟨fb,0,none⟩=some (.pointer mp)
 c1:w.cell? ⟨fb,1,none⟩=some (.pointer kp)
 c2:w.cell? ⟨fb,2,none⟩=some (.bool sf.obj)
 c3:w.cell? ⟨fb,3,none⟩=some (.int .i64 sf.n)
 ca:∀ i v,args[i]?=some v→w.cell? ⟨fb,4+i*2,none⟩=some (.bool v.obj)∧w.cell? ⟨fb,4+i*2+1,none⟩=some (.int .i64 v.n)
 a3:args.length≤3
 cp:w.cell? ⟨fb,10,none⟩=some (.int .i64 (pc:Nat))
 cs:∀ i v,st.reverse[i]?=some v→w.cell? ⟨fb,11+i*2,none⟩=some (.bool v.obj)∧w.cell? ⟨fb,11+i*2+1,none⟩=some (.int .i64 v.n)
 s16:st.length≤16
 ch:w.cell? ⟨fb,43,none⟩=some (.int .i64 (st.length:Nat))
 cn:w.cell? ⟨fb,44,none⟩=some (.pointer (cptr snd))
theorem FrRaw.cel {fb:Nat}{mp kp:Option Addr}{sf:Vl}{args:List Vl}{pc:Nat}{st:List Vl}{snd:Option Nat} (h:FrRaw w fb mp kp sf args pc st snd):Cel w fb:=by
 obtain ⟨cs,e,_⟩:=h.blk;exact ⟨_,_,e⟩
theorem FrRaw.some {fb:Nat}{mp kp:Option Addr}{sf:Vl}{args:List Vl}{pc:Nat}{st:List Vl}{snd:Option Nat} (h:FrRaw w fb mp kp sf args pc st snd) {o:Nat} (ho:o < 45):∃ v,w.cell? ⟨fb,o,none⟩=some v:=by
 obtain ⟨cs,e,hz⟩:=h.blk
 refine ⟨cs[o]'(by omega),?_⟩
 simp only [World.cell?,e]
 exact Array.getElem?_eq_getElem (by omega)
variable {w' : World}
theorem FrRaw.same {fb:Nat}{mp kp:Option Addr}{sf:Vl}{args:List Vl}{pc:Nat}{st:List Vl}{snd:Option Nat} (h:FrRaw w fb mp kp sf args pc st snd) (e:w'.heap[fb]?=w.heap[fb]?):FrRaw w' fb mp kp sf args pc st snd:=by
 have hc:∀ o,w'.cell? ⟨fb,o,none⟩=w.cell? ⟨fb,o,none⟩:=fun o=>World.cell?_of_block e
 obtain ⟨cs,e1,hz⟩:=h.blk
 exact ⟨⟨cs,e.trans e1,hz⟩,(hc _).trans h.c0,(hc _).trans h.c1,(hc _).trans h.c2,(hc _).trans h.c3,fun i v hv=>⟨(hc _).trans (h.ca i v hv).1,(hc _).trans (h.ca i v hv).2⟩,h.a3,(hc _).trans h.cp,fun i v hv=>⟨(hc _).trans (h.cs i v hv).1,(hc _).trans (h.cs i v hv).2⟩,h.s16,(hc _).trans h.ch,(hc _).trans h.cn⟩
theorem blk_set {fb:Nat} (h:∃ cs:Array Value,w.heap[fb]?=some (.cells cs 212)∧cs.size=45) (o:Nat) (v:Value):∃ cs:Array Value,(w.setCell ⟨fb,o,none⟩ v).heap[fb]?=some (.cells cs 212)∧cs.size=45:=by
 obtain ⟨cs,e,hz⟩:=h
 refine ⟨cs.setIfInBounds o v,?_,by simp [hz]⟩
 simp only [World.setCell,Array.getElem?_modify,if_pos,e]
 rfl
theorem fo {fb:Nat} (W:World) (v:Value) (o p:Nat) (hne:o≠p):(W.setCell ⟨fb,p,none⟩ v).cell? ⟨fb,o,none⟩=W.cell? ⟨fb,o,none⟩:=cs_other (by intro e;injection e with e1 e2;omega)
theorem FrRaw.goto {fb:Nat}{mp kp:Option Addr}{sf:Vl}{args:List Vl}{pc:Nat}{st:List Vl}{snd:Option Nat} (h:FrRaw w fb mp kp sf args pc st snd) (pc':Nat):FrRaw (w.setCell ⟨fb,10,none⟩ (.int .i64 (pc':Nat))) fb mp kp sf args pc' st snd:=by
 have h3:=h.a3
 refine ⟨blk_set h.blk _ _,(fo _ _ _ _ (by omega)).trans h.c0,(fo _ _ _ _ (by omega)).trans h.c1,(fo _ _ _ _ (by omega)).trans h.c2,(fo _ _ _ _ (by omega)).trans h.c3,fun i v hv=>?_,h.a3,cs_same h.cp,fun i v hv=>⟨(fo _ _ _ _ (by omega)).trans (h.cs i v hv).1,(fo _ _ _ _ (by omega)).trans (h.cs i v hv).2⟩,h.s16,(fo _ _ _ _ (by omega)).trans h.ch,(fo _ _ _ _ (by omega)).trans h.cn⟩
 have:=(List.getElem?_eq_some_iff.1 hv).1
 exact ⟨(fo _ _ _ _ (by omega)).trans (h.ca i v hv).1,(fo _ _ _ _ (by omega)).trans (h.ca i v hv).2⟩
theorem FrRaw.lay {fb:Nat}{mp kp:Option Addr}{sf:Vl}{args:List Vl}{pc:Nat}{st:List Vl}{snd:Option Nat} (h:FrRaw w fb mp kp sf args pc st snd) (hs:st.length < 16) (v:Vl) :
 FrRaw (((w.setCell ⟨fb,11+st.length*2,none⟩ (.bool v.obj)).setCell ⟨fb,11+st.length*2+1,none⟩ (.int .i64 v.n)).setCell ⟨fb,43,none⟩ (.int .i64 ((st.length+1:Nat):Int))) fb mp kp sf args pc (v::st) snd:=by
 have h3:=h.a3
 obtain ⟨o0,h0⟩:=h.some (o:=11+st.length*2) (by omega)
 obtain ⟨o1,h1⟩:=h.some (o:=11+st.length*2+1) (by omega)
 have key:∀ o,(o < 11∨44≤o∨(11≤o∧o < 11+st.length*2))→(((w.setCell ⟨fb,11+st.length*2,none⟩ (.bool v.obj)).setCell ⟨fb,11+st.length*2+1,none⟩ (.int .i64 v.n)).setCell ⟨fb,43,none⟩ (.int .i64 ((st.length+1:Nat):Int))).cell? ⟨fb,o,none⟩=w.cell? ⟨fb,o,none⟩:=fun o ho=>by
  rw [fo _ _ _ _ (by omega),fo _ _ _ _ (by omega),fo _ _ _ _ (by omega)]
 refine ⟨blk_set (blk_set (blk_set h.blk _ _) _ _) _ _,(key _ (by omega)).trans h.c0,(key _ (by omega)).trans h.c1,(key _ (by omega)).trans h.c2,(key _ (by omega)).trans h.c3,fun i x hx=>?_,h.a3,(key _ (by omega)).trans h.cp,fun i x hx=>?_,by simp;omega,?_,(key _ (by omega)).trans h.cn⟩
 · have:=(List.getElem?_eq_some_iff.1 hx).1
   exact ⟨(key _ (by omega)).trans (h.ca i x hx).1,(key _ (by omega)).trans (h.ca i x hx).2⟩
 · rw [List.reverse_cons] at hx
   by_cases e:i < st.length
   · rw [List.getElem?_append_left (by simpa using e)] at hx
     exact ⟨(key _ (by omega)).trans (h.cs i x hx).1,(key _ (by omega)).trans (h.cs i x hx).2⟩
   · have hi:i=st.length:=by have:=(List.getElem?_eq_some_iff.1 hx).1;simp at this;omega
     subst hi
     rw [List.getElem?_append_right (by simp)] at hx
     simp at hx
     subst hx
     constructor
     · rw [fo _ _ _ _ (by omega),fo _ _ _ _ (by omega)];exact cs_same h0
     · rw [fo _ _ _ _ (by omega)];exact cs_same ((fo _ _ _ _ (by omega)).trans h1)
 · exact cs_same (((fo _ _ _ _ (by omega)).trans (fo _ _ _ _ (by omega))).trans h.ch)
theorem FrRaw.take {fb:Nat}{mp kp:Option Addr}{sf:Vl}{args:List Vl}{pc:Nat}{st:List Vl}{snd:Option Nat} (h:FrRaw w fb mp kp sf args pc st snd) {k:Nat} (hk:k≤st.length) :
 FrRaw (w.setCell ⟨fb,43,none⟩ (.int .i64 ((st.length - k:Nat):Int))) fb mp kp sf args pc (st.drop k) snd:=by
 have h3:=h.a3
 have h16:=h.s16
 refine ⟨blk_set h.blk _ _,(fo _ _ _ _ (by omega)).trans h.c0,(fo _ _ _ _ (by omega)).trans h.c1,(fo _ _ _ _ (by omega)).trans h.c2,(fo _ _ _ _ (by omega)).trans h.c3,fun i v hv=>?_,h.a3,(fo _ _ _ _ (by omega)).trans h.cp,fun i v hv=>?_,by simp;omega,?_,(fo _ _ _ _ (by omega)).trans h.cn⟩
 · have:=(List.getElem?_eq_some_iff.1 hv).1
   exact ⟨(fo _ _ _ _ (by omega)).trans (h.ca i v hv).1,(fo _ _ _ _ (by omega)).trans (h.ca i v hv).2⟩
 · have hl:=(List.getElem?_eq_some_iff.1 hv).1
   simp at hl
   have hv':st.reverse[i]?=Option.some v:=by
    rw [← hv,List.reverse_drop,List.getElem?_take_of_lt (by omega)]
   exact ⟨(fo _ _ _ _ (by omega)).trans (h.cs i v hv').1,(fo _ _ _ _ (by omega)).trans (h.cs i v hv').2⟩
 · rw [cs_same h.ch];simp
def gaveUp (e:Int):List PanicEntry:=[{ v:=.iface 167 (.int .i64 e),recovered:=false }]
theorem lay_any {fb:Nat}{mp kp:Option Addr}{sf:Vl}{args:List Vl}{pc:Nat}{st:List Vl}{snd:Option Nat} (h:FrRaw w fb mp kp sf args pc st snd) (hs:st.length < 16) (v:Vl) :
 Calls Tryz.prog 143 #[.pointer (some ⟨fb,0,none⟩),v.val] w fun e w'=>e=.returned (.tuple #[])∧FrRaw w' fb mp kp sf args pc (v::st) snd∧Chg w w' (fun k=>k=fb):=by
 obtain ⟨W1,hW1⟩:∃ W1,W1=w.alloc (.cells #[.bool v.obj,.int .i64 v.n] 33):=⟨_,rfl⟩
 have hC1:Chg w W1 (fun k=>k=fb):=by rw [hW1];exact (Chg.refl w _).alloc _
 have v0:W1.cell? ⟨w.heap.size,0,none⟩=some (.bool v.obj):=by rw [hW1];exact new_cell w _ _ _ 0 rfl
 have v1:W1.cell? ⟨w.heap.size,1,none⟩=some (.int .i64 v.n):=by rw [hW1];exact new_cell w _ _ _ 1 rfl
 have hfl:=h.cel.lt
 have h:FrRaw W1 fb mp kp sf args pc st snd:=h.same (by rw [hW1];exact Below.heap_alloc _ _ _ hfl)
 have HF:Hid _:=h
 obtain ⟨o0,h0⟩:=h.some (o:=11+st.length*2) (by omega)
 obtain ⟨o1,h1⟩:=h.some (o:=11+st.length*2+1) (by omega)
 have ch:=h.ch
 have hne1:¬ w.heap.size=fb:=by omega
 have hne2:¬ fb=w.heap.size:=by omega
 have hn1:¬ 43=11+st.length*2:=by omega
 have hn2:¬ 43=11+st.length*2+1:=by omega
 have hfl:=h.cel.lt
 have hfz:=fun o=>h.cel.free o
 have hs':(st.length:Int) < 16:=by omega
 have k43:((W1.setCell ⟨fb,11+st.length*2,none⟩ (.bool v.obj)).setCell ⟨fb,11+st.length*2+1,none⟩ (.int .i64 v.n)).cell? ⟨fb,43,none⟩=some (.int .i64 (st.length:Nat)):=by rw [fo _ _ _ _ hn2,fo _ _ _ _ hn1];exact ch
 clear h
 unfold Vl.val
 go_enter Tryz.func143,Tryz.ntmps143
 go_wp2_with fail
 rw [← hW1]
 clear hW1
 refine wp_region_noPanic ?_
 refine wp_region_held_drew (S:=(fun w'=>w'.cell? ⟨w.heap.size,0,none⟩=some (.bool v.obj)∧w'.cell? ⟨w.heap.size,1,none⟩=some (.int .i64 v.n)∧w'.cell? ⟨fb,43,none⟩=some (.int .i64 (st.length:Nat)))) (by kernel_rfl) (by go_keep) (fun hHeld=>?_)
 refine tkH 0 ?_
 refine tkH 1 ?_
 refine tkH 2 ?_
 refine tkH 3 ?_
 refine tkH 4 ?_
 refine tkH 5 ?_
 refine tkH 6 ?_
 refine tkL 7 ?_
 refine rdH 8 fun Kmac hKmac=>?_
 go_simp
 refine hKmac.go fun hHeld=>?_
 clear hKmac Kmac
 try refine lyH ?_
 refine rdH 9 fun Kmac hKmac=>?_
 go_simp
 refine hKmac.go fun hHeld=>?_
 clear hKmac Kmac
 try refine lyH ?_
 refine wpAnyH_done (by kernel_rfl) ?_ _
 refine NoPanic.normal ?_
 go_wp2
 go_end0
 exact ⟨rfl,(HF.out.lay hs v).same rfl,(((hC1.setCell _ _ (fun _=>rfl)).setCell _ _ (fun _=>rfl)).setCell _ _ (fun _=>rfl)).drew⟩
theorem take_all {fb:Nat}{mp kp:Option Addr}{sf:Vl}{args:List Vl}{pc:Nat}{v:Vl}{st:List Vl}{snd:Option Nat} (h:FrRaw w fb mp kp sf args pc (v::st) snd) :
 Calls Tryz.prog 144 #[.pointer (some ⟨fb,0,none⟩)] w fun e w'=>e=.returned v.val∧FrRaw w' fb mp kp sf args pc st snd∧Chg w w' (fun k=>k=fb)∧∀ o,o≠43→w'.cell? ⟨fb,o,none⟩=w.cell? ⟨fb,o,none⟩:=by
 have hfl:=h.cel.lt
 have h16:=h.s16
 simp only [List.length_cons] at h16
 obtain ⟨x0,x1⟩:=h.cs st.length v (by rw [List.reverse_cons,List.getElem?_append_right (by simp)];simp)
 obtain ⟨W2,hW2⟩:∃ W2,W2=(w.setCell ⟨fb,43,none⟩ (.int .i64 (st.length:Nat))).alloc (.cells #[.bool false,.int .i64 0] 33):=⟨_,rfl⟩
 have hfr:FrRaw W2 fb mp kp sf args pc st snd:=by
  have:=h.take (k:=1) (by simp)
  simp only [List.length_cons,Nat.add_sub_cancel,List.drop_succ_cons,List.drop_zero] at this
  rw [hW2]
  exact this.same (Below.heap_alloc _ _ _ (by simpa [World.setCell] using hfl))
 have HF:Hid _:=hfr
 have hC2:Chg w W2 (fun k=>k=fb):=by rw [hW2];exact ((Chg.refl w (fun k=>k=fb)).setCell _ _ (fun _=>rfl)).alloc _
 have hzs:(w.setCell ⟨fb,43,none⟩ (.int .i64 (st.length:Nat))).heap.size=w.heap.size:=by simp [World.setCell]
 have hb:W2.heap[w.heap.size]?=some (.cells #[.bool false,.int .i64 0] 33):=by
  rw [hW2]
  have:=(MapKept.heap_alloc (w.setCell ⟨fb,43,none⟩ (.int .i64 (st.length:Nat))) (.cells #[.bool false,.int .i64 0] 33)).1
  rw [hzs] at this
  exact this
 have ch:=h.ch
 simp only [List.length_cons,Int.natCast_add,Int.natCast_one] at ch
 have fz:=fun o=>h.cel.free o
 have z0:W2.cell? ⟨w.heap.size,0,none⟩=some (.bool false):=by simp only [World.cell?,hb];rfl
 have z1:W2.cell? ⟨w.heap.size,1,none⟩=some (.int .i64 0):=by simp only [World.cell?,hb];rfl
 have zf:∀ o,W2.frozen? ⟨w.heap.size,o,none⟩=false:=fun o=>Cel.free ⟨_,_,hb⟩ o
 have ch2:=hfr.ch
 have hfl2:=hfr.cel.lt
 have hblk:W2.heap[fb]?=(w.setCell ⟨fb,43,none⟩ (.int .i64 (st.length:Nat))).heap[fb]?:=by rw [hW2];exact Below.heap_alloc _ _ _ (by rw [hzs];exact hfl)
 have y0:W2.cell? ⟨fb,11+st.length*2,none⟩=some (.bool v.obj):=(World.cell?_of_block (a:=⟨fb,11+st.length*2,none⟩) hblk).trans ((fo _ _ _ _ (by omega)).trans x0)
 have y1:W2.cell? ⟨fb,11+st.length*2+1,none⟩=some (.int .i64 v.n):=(World.cell?_of_block (a:=⟨fb,11+st.length*2+1,none⟩) hblk).trans ((fo _ _ _ _ (by omega)).trans x1)
 have hne1:¬ w.heap.size=fb:=by omega
 have hne2:¬ fb=w.heap.size:=by omega
 have hs':(st.length:Int) < 16:=by omega
 have HBK:Hid _:=hblk
 clear h hfr hb hblk x0 x1
 unfold Vl.val
 go_enter Tryz.func144,Tryz.ntmps144
 go_wp2_with fail
 rw [← hW2]
 clear hW2 ch fz
 refine wp_region_noPanic ?_
 refine wp_region_held_drew (S:=(fun w'=>w'.cell? ⟨fb,11+st.length*2,none⟩=some (.bool v.obj)∧w'.cell? ⟨fb,11+st.length*2+1,none⟩=some (.int .i64 v.n)∧w'.cell? ⟨fb,43,none⟩=some (.int .i64 (st.length:Nat)))) (by kernel_rfl) (by go_keep) (fun hHeld=>?_)
 refine tkH 0 ?_
 refine tkH 1 ?_
 refine tkH 2 ?_
 refine tkH 3 ?_
 refine tkH 4 ?_
 refine tkH 5 ?_
 refine tkL 6 ?_
 refine rdH 7 fun Kmac hKmac=>?_
 go_simp
 refine hKmac.go fun hHeld=>?_
 clear hKmac Kmac
 try refine lyH ?_
 refine tkL 8 ?_
 refine rdH 9 fun Kmac hKmac=>?_
 go_simp
 refine hKmac.go fun hHeld=>?_
 clear hKmac Kmac
 try refine lyH ?_
 refine wpAnyH_done (by kernel_rfl) ?_ _
 refine NoPanic.normal ?_
 go_wp2
 have hfb:((W2.setCell ⟨w.heap.size,0,none⟩ (.bool v.obj)).setCell ⟨w.heap.size,1,none⟩ (.int .i64 v.n)).heap[fb]?=W2.heap[fb]?:=(Below.heap_setCell _ _ _ _ hne2).trans (Below.heap_setCell _ _ _ _ hne2)
 refine bodyPost_ret (results_v1 (z:=w.heap.size) Tryz.results144 (.bool v.obj) (.int .i64 v.n) rfl ?_ ?_) rfl ⟨rfl,HF.out.same hfb,(hC2.then ((((Chg.refl W2 (fun k=>k=w.heap.size)).setCell _ _ (fun _=>rfl)).setCell _ _ (fun _=>rfl))) (fun k hk e=>by omega)).drew,fun o ho=>(World.cell?_of_block (a:=⟨fb,o,none⟩) hfb).trans ((World.cell?_of_block (a:=⟨fb,o,none⟩) HBK.out).trans (fo _ _ _ _ ho))⟩
 · show ((W2.setCell ⟨w.heap.size,0,none⟩ (.bool v.obj)).setCell ⟨w.heap.size,1,none⟩ (.int .i64 v.n)).cell? ⟨w.heap.size,0,none⟩=_
   rw [fo _ _ _ _ (by omega)]
   exact cs_same z0
 · exact cs_same ((fo _ _ _ _ (by omega)).trans z1)
theorem take_any {fb:Nat}{mp kp:Option Addr}{sf:Vl}{args:List Vl}{pc:Nat}{v:Vl}{st:List Vl}{snd:Option Nat} (h:FrRaw w fb mp kp sf args pc (v::st) snd) :
 Calls Tryz.prog 144 #[.pointer (some ⟨fb,0,none⟩)] w fun e w'=>e=.returned v.val∧FrRaw w' fb mp kp sf args pc st snd∧Chg w w' (fun k=>k=fb) :=
 (take_all h).mono (fun e w' ⟨h1,h2,h3,_⟩=>⟨h1,h2,h3⟩)
theorem takeN_ok {fb:Nat}{mp kp:Option Addr}{sf:Vl}{args:List Vl}{pc:Nat}{n:Int}{st:List Vl}{snd:Option Nat} (h:FrRaw w fb mp kp sf args pc (⟨false,n⟩::st) snd) :
 Calls Tryz.prog 147 #[.pointer (some ⟨fb,0,none⟩)] w fun e w'=>e=.returned (.int .i64 n)∧FrRaw w' fb mp kp sf args pc st snd∧Chg w w' (fun k=>k=fb):=by
 have hcall:=take_any h
 unfold Vl.val at hcall
 clear h
 go_enter Tryz.func147,Tryz.ntmps147
 go_wp2_with fail
 refine hcall.mono ?_
 rintro e w' ⟨rfl,hf,hc⟩
 have HF:Hid (FrRaw (w'.alloc (.cells #[.bool false,.int .i64 n] 33)) fb mp kp sf args pc st snd∧Chg w (w'.alloc (.cells #[.bool false,.int .i64 n] 33)) (fun k=>k=fb)):=⟨hf.same (Below.heap_alloc _ _ _ hf.cel.lt),hc.alloc _⟩
 clear hf hc hcall
 go_wp2
 go_ret
 exact ⟨rfl,HF.out⟩
theorem takeN_no {fb:Nat}{mp kp:Option Addr}{sf:Vl}{args:List Vl}{pc:Nat}{n:Int}{st:List Vl}{snd:Option Nat} (h:FrRaw w fb mp kp sf args pc (⟨true,n⟩::st) snd) :
 Calls Tryz.prog 147 #[.pointer (some ⟨fb,0,none⟩)] w fun e w'=>e=.panicked (gaveUp 3)∧Chg w w' (fun k=>k=fb):=by
 have hcall:=take_any h
 unfold Vl.val at hcall
 clear h
 go_enter Tryz.func147,Tryz.ntmps147
 go_wp2_with fail
 refine hcall.mono ?_
 rintro e w' ⟨rfl,hf,hc⟩
 have HF:Hid (Chg w (w'.alloc (.cells #[.bool true,.int .i64 n] 33)) (fun k=>k=fb)):=hc.alloc _
 clear hf hc hcall
 go_wp2
 exact ⟨rfl,rfl,HF.out⟩
theorem takeNs_ok {fb:Nat}{mp kp:Option Addr}{sf:Vl}{args:List Vl}{pc:Nat}{a b:Int}{st:List Vl}{snd:Option Nat} (h:FrRaw w fb mp kp sf args pc (⟨false,b⟩::⟨false,a⟩::st) snd) :
 Calls Tryz.prog 145 #[.pointer (some ⟨fb,0,none⟩)] w fun e w'=>e=.returned (.tuple #[.int .i64 a,.int .i64 b])∧FrRaw w' fb mp kp sf args pc st snd∧Chg w w' (fun k=>k=fb):=by
 have hcall:=takeN_ok h
 clear h
 go_enter Tryz.func145,Tryz.ntmps145
 go_wp2_with fail
 refine hcall.mono ?_
 rintro e w' ⟨rfl,hf,hc⟩
 have hcall2:=takeN_ok hf
 clear hf hcall
 go_wp2_with fail
 refine hcall2.mono ?_
 rintro e w2 ⟨rfl,hf,hc2⟩
 have HF:Hid (FrRaw w2 fb mp kp sf args pc st snd∧Chg w w2 (fun k=>k=fb)):=⟨hf,hc.then hc2 (fun k _ e=>e)⟩
 clear hf hc hcall2 hc2
 go_wp2
 go_ret2
 exact ⟨rfl,HF.out⟩
theorem takeNs_no {fb:Nat}{mp kp:Option Addr}{sf:Vl}{args:List Vl}{pc:Nat}{a b:Vl}{st:List Vl}{snd:Option Nat} (h:FrRaw w fb mp kp sf args pc (b::a::st) snd) (ho:(a.obj||b.obj)=true) :
 Calls Tryz.prog 145 #[.pointer (some ⟨fb,0,none⟩)] w fun e w'=>e=.panicked (gaveUp 3)∧Chg w w' (fun k=>k=fb):=by
 obtain ⟨bo,bn⟩:=b
 obtain ⟨ao,an⟩:=a
 cases bo with
 | true =>
  have hcall:=takeN_no h
  clear h
  go_enter Tryz.func145,Tryz.ntmps145
  go_wp2_with fail
  refine hcall.mono ?_
  rintro e w' ⟨rfl,hc⟩
  have HF:Hid _:=hc
  clear hc hcall
  go_wp2
  exact ⟨rfl,rfl,HF.out⟩
 | false =>
  simp at ho
  subst ho
  have hcall:=takeN_ok h
  clear h
  go_enter Tryz.func145,Tryz.ntmps145
  go_wp2_with fail
  refine hcall.mono ?_
  rintro e w' ⟨rfl,hf,hc⟩
  have hcall2:=takeN_no hf
  clear hf hcall
  go_wp2_with fail
  refine hcall2.mono ?_
  rintro e w2 ⟨rfl,hc2⟩
  have HF:Hid (Chg w w2 (fun k=>k=fb)):=hc.then hc2 (fun k _ e=>e)
  clear hc hcall2 hc2
  go_wp2
  exact ⟨rfl,rfl,HF.out⟩
variable {w1 w2 : World}
theorem _root_.Go.RowKit.Below.then (h:Below w.heap.size w w1) (h':Below w1.heap.size w1 w2):Below w.heap.size w w2:=h.trans (h'.mono h.size)
theorem results_fnd {fn:Func}{p:Tmp} (h:fn.results=#[.cell p 62]) {tmps:Array Value}{z:Nat} (v0 v1:Value) (hp:tmps.getD p undef=.pointer (some ⟨z,0,none⟩)) (z0:w.cell? ⟨z,0,none⟩=some v0) (z1:w.cell? ⟨z,1,none⟩=some v1) :
 (results fn tmps).run Tryz.prog w=.ok (.agg #[v0,v1]) w:=by
 have hp2:tmps[p]?.getD undef=.pointer (some ⟨z,0,none⟩):=by rw [← hp];simp
 simp [results,h,hp2,go_sem,z0,z1]
theorem results_row {fn:Func}{p:Tmp} (h:fn.results=#[.cell p 64]) {tmps:Array Value}{z:Nat} (v0 v1 v2 v3:Value) (hp:tmps.getD p undef=.pointer (some ⟨z,0,none⟩)) (z0:w.cell? ⟨z,0,none⟩=some v0) (z1:w.cell? ⟨z,1,none⟩=some v1) (z2:w.cell? ⟨z,2,none⟩=some v2) (z3:w.cell? ⟨z,3,none⟩=some v3) :
 (results fn tmps).run Tryz.prog w=.ok (.agg #[v0,v1,v2,v3]) w:=by
 have hp2:tmps[p]?.getD undef=.pointer (some ⟨z,0,none⟩):=by rw [← hp];simp
 simp [results,h,hp2,go_sem,z0,z1,z2,z3]
theorem climb_succ {α:Type} (ab:Nat→Option Nat) (ow:Nat→Option α) (f c:Nat):climb ab ow (f+1) (some c)=match ow c with
 | some x=>some (c,x)
 | none=>climb ab ow f (ab c):=rfl
def Kd.says (K:Kd) (m:Im) (s:ByteArray) (c:Option Nat):Option (Nat×Nat):=climb m.ab (fun c=>K.mid c s) (m.kl.length+1) c
def fval (K:Kd) (r:Option (Nat×Nat)):Value:=.agg #[.pointer (cptr (r.map (fun x=>K.cb x.1))),.pointer (cptr (r.map (·.2)))]
theorem cfind_any (h:KIm w m K) (c:Option Nat) (hc:∀ x,c=some x→x < m.kl.length) (s:ByteArray) :
 Calls Tryz.prog 163 #[.pointer (cptr (c.map K.cb)),.string s] w fun e w'=>e=.returned (fval K (K.says m s c))∧Below w.heap.size w w':=by
 obtain ⟨r,hr1,hr2⟩:=rank_ab h.ok
 unfold Kd.says
 obtain ⟨b,hb⟩:∃ b,climb m.ab (fun c=>K.mid c s) (m.kl.length+1) c=b:=⟨_,rfl⟩
 rw [hb]
 have HB:Hid _:=hb
 have HA:Hid (Below w.heap.size w (w.alloc (.cells #[.pointer none,.pointer none] 62))):=(Below.refl _ w).alloc (Nat.le_refl _) _
 have HK:Hid (KIm (w.alloc (.cells #[.pointer none,.pointer none] 62)) m K):=h.below HA.out
 have HN:∀ (v0 v1:Value) (k:Nat),(w.alloc (.cells #[v0,v1] 62)).cell? ⟨w.heap.size,k,none⟩=#[v0,v1][k]?:=fun v0 v1 k=>new_cell w _ _ _ k rfl
 clear hb h
 go_enter Tryz.func163,Tryz.ntmps163
 go_wp2
 go_loopg [0] (m.kl.length+1) (fun gk v wr=>∃ e:Option Nat,v=.pointer (cptr (e.map K.cb))∧(∀ x,e=some x→x < m.kl.length∧r x < gk)∧climb m.ab (fun c=>K.mid c s) gk e=b∧wr=w.alloc (.cells #[.pointer none,.pointer none] 62))
 case atStart=>exact ⟨c,rfl,fun x hx=>⟨hc x hx,by have:=hr1 x;omega⟩,HB.out,rfl⟩
 case round =>
  obtain ⟨e,rfl,he,hu,rfl⟩:=hrel
  cases e with
  | none =>
   have hbf:b=none:=by rw [← hu];exact climb_none _ _ _
   subst hbf
   simp only [Option.map_none,cptr]
   clear hu he
   go_wp2
   refine bodyPost_ret (results_fnd (z:=w.heap.size) Tryz.results163 (.pointer none) (.pointer none) rfl (HN _ _ 0) (HN _ _ 1)) rfl ⟨rfl,HA.out⟩
  | some x =>
   obtain ⟨hx,hrx⟩:=he x rfl
   obtain ⟨g,rfl⟩:∃ g,gk=g+1:=⟨gk - 1,by omega⟩
   have hab:=HK.out.cls.above hx
   have hcm:=HK.out.cls.meth hx
   have lk:=HK.out.lookM hx s
   rw [climb_succ] at hu
   simp only [Option.map_some,cptr] at hab lk ⊢
   cases hmd:K.mid x s with
   | some k =>
    rw [hmd] at lk
    simp only [hmd,Option.map_some] at lk hu
    subst hu
    clear he
    go_wp2
    refine bodyPost_ret (results_fnd (z:=w.heap.size) Tryz.results163 (.pointer (some ⟨K.cb x,0,none⟩)) (.pointer (some ⟨k,0,none⟩)) rfl (HN _ _ 0) (HN _ _ 1)) rfl ⟨rfl,(Below.refl _ w).alloc (Nat.le_refl _) _⟩
   | none =>
    rw [hmd] at lk
    simp only [hmd,Option.map_none] at lk hu
    have HU:Hid _:=hu
    clear hu he
    go_wp2
    go_roundg g
    case measure=>omega
    case rel =>
     exact ⟨m.ab x,by simp [cptr],fun y hy=>⟨ab_lt HK.out.ok hy,by have:=hr2 x y hy;omega⟩,HU.out,rfl⟩
theorem TabAt.put {b n:Nat}{R:Nat→Rw4} (h:TabAt w b n R) {i:Nat} (hi:i < 64) (r:Rw4) :
 TabAt ((((w.setCell ⟨b,6+i*4,none⟩ (.pointer r.fr)).setCell ⟨b,6+i*4+1,none⟩ (.string r.sel)).setCell ⟨b,6+i*4+2,none⟩ (.pointer r.hm)).setCell ⟨b,6+i*4+3,none⟩ (.pointer r.mt)) b n (fun j=>if j=i then r else R j):=by
 have ho:∀ (W:World) (v:Value) (o p:Nat),o≠p→(W.setCell ⟨b,p,none⟩ v).cell? ⟨b,o,none⟩=W.cell? ⟨b,o,none⟩:=fun W v o p hne=>cs_other (by intro e;injection e with e1 e2;omega)
 refine ⟨(((h.cel.setCell _ _).setCell _ _).setCell _ _).setCell _ _,h.n1,h.n64,?_,fun j hj=>?_,fun j hj=>?_,fun j hj=>?_,fun j hj=>?_⟩
 · rw [ho _ _ _ _ (by omega),ho _ _ _ _ (by omega),ho _ _ _ _ (by omega),ho _ _ _ _ (by omega)];exact h.sz
 · by_cases e:j=i
   · subst e
     rw [ho _ _ _ _ (by omega),ho _ _ _ _ (by omega),ho _ _ _ _ (by omega),cs_same (h.c0 j hj)]
     simp
   · rw [ho _ _ _ _ (by omega),ho _ _ _ _ (by omega),ho _ _ _ _ (by omega),ho _ _ _ _ (by omega),h.c0 j hj]
     simp [e]
 · by_cases e:j=i
   · subst e
     rw [ho _ _ _ _ (by omega),ho _ _ _ _ (by omega),cs_same ((ho _ _ _ _ (by omega)).trans (h.c1 j hj))]
     simp
   · rw [ho _ _ _ _ (by omega),ho _ _ _ _ (by omega),ho _ _ _ _ (by omega),ho _ _ _ _ (by omega),h.c1 j hj]
     simp [e]
 · by_cases e:j=i
   · subst e
     rw [ho _ _ _ _ (by omega),cs_same (((ho _ _ _ _ (by omega)).trans (ho _ _ _ _ (by omega))).trans (h.c2 j hj))]
     simp
   · rw [ho _ _ _ _ (by omega),ho _ _ _ _ (by omega),ho _ _ _ _ (by omega),ho _ _ _ _ (by omega),h.c2 j hj]
     simp [e]
 · by_cases e:j=i
   · subst e
     rw [cs_same ((((ho _ _ _ _ (by omega)).trans (ho _ _ _ _ (by omega))).trans (ho _ _ _ _ (by omega))).trans (h.c3 j hj))]
     simp
   · rw [ho _ _ _ _ (by omega),ho _ _ _ _ (by omega),ho _ _ _ _ (by omega),ho _ _ _ _ (by omega),h.c3 j hj]
     simp [e]
theorem bytesRow_cell (s:ByteArray) (cap k:Nat) (hk:k < s.size):∃ n:Nat,n < 256∧(bytesRow s cap)[k]?=some (.int .u8 n):=by
 refine ⟨(s.data[k]'hk).toNat,(s.data[k]'hk).toNat_lt,?_⟩
 unfold bytesRow
 rw [Array.getElem?_append_left (by simpa using hk)]
 rw [Array.getElem?_map,Array.getElem?_eq_getElem hk]
 rfl
theorem hash_any (h:KIm w m K) {c:Nat} (hc:c < m.kl.length) (s:ByteArray) (hs:s.size≤1000) :
 Calls Tryz.prog 166 #[.agg #[.pointer (some ⟨K.cb c,0,none⟩),.string s]] w fun e w'=>(∃ n:Nat,e=.returned (.int .u32 n))∧Below w.heap.size w w':=by
 have hcv:=fun W=>run_bytes_of_string (P:=Tryz.prog) W 9 200 5 s Tryz.underlying9 Tryz.underlying200 Tryz.underlying5
 have cn:w.cell? ⟨K.cb c,1,none⟩=some (.int .i64 (c:Nat)):=by
  have:=h.cls.at_ c _ (List.getElem?_eq_getElem hc)
  simp only [World.cell?,this]
  rfl
 have hcl:=(h.cls.cel hc).lt
 have hfew:=h.ok.few
 clear h
 go_enter Tryz.func166,Tryz.ntmps166
 go_wp2
 obtain ⟨W1,hW1⟩:∃ W1,W1=((w.alloc (.cells #[.pointer (some ⟨K.cb c,0,none⟩),.string s] 59)).drew.alloc (.cells (bytesRow s (grownCap (w.alloc (.cells #[.pointer (some ⟨K.cb c,0,none⟩),.string s] 59)) s.size 0 5)) 5 ((bytesRow s (grownCap (w.alloc (.cells #[.pointer (some ⟨K.cb c,0,none⟩),.string s] 59)) s.size 0 5)).size,(bytesRow s (grownCap (w.alloc (.cells #[.pointer (some ⟨K.cb c,0,none⟩),.string s] 59)) s.size 0 5)).size+1))):=⟨_,rfl⟩
 have hB1:Below w.heap.size w W1:=by rw [hW1];exact ((Below.refl _ w).alloc (Nat.le_refl _) _).drew.alloc (by simp) _
 have q0:W1.cell? ⟨w.heap.size,0,none⟩=some (.pointer (some ⟨K.cb c,0,none⟩)):=by
  rw [hW1]
  refine (World.cell?_of_block (a:=⟨w.heap.size,0,none⟩) (Below.heap_alloc _ _ _ (by simp))).trans ?_
  exact new_cell w _ _ _ 0 rfl
 have hby:∀ k,k < s.size→∃ n:Nat,n < 256∧W1.cell? ⟨w.heap.size+1,k,none⟩=some (.int .u8 n):=fun k hk=>by
  obtain ⟨n,h1,h2⟩:=bytesRow_cell s (grownCap (w.alloc (.cells #[.pointer (some ⟨K.cb c,0,none⟩),.string s] 59)) s.size 0 5) k hk
  refine ⟨n,h1,?_⟩
  rw [hW1]
  have:=(MapKept.heap_alloc (w.alloc (.cells #[.pointer (some ⟨K.cb c,0,none⟩),.string s] 59)).drew (.cells (bytesRow s (grownCap (w.alloc (.cells #[.pointer (some ⟨K.cb c,0,none⟩),.string s] 59)) s.size 0 5)) 5 ((bytesRow s (grownCap (w.alloc (.cells #[.pointer (some ⟨K.cb c,0,none⟩),.string s] 59)) s.size 0 5)).size,(bytesRow s (grownCap (w.alloc (.cells #[.pointer (some ⟨K.cb c,0,none⟩),.string s] 59)) s.size 0 5)).size+1))).1
  simp only [World.size_drew,World.size_alloc] at this
  simp only [World.cell?,this]
  exact h2
 have cn1:W1.cell? ⟨K.cb c,1,none⟩=some (.int .i64 (c:Nat)):=(hB1.cell (p:=⟨K.cb c,1,none⟩) hcl).trans cn
 have hl1:K.cb c < W1.heap.size:=Nat.lt_of_lt_of_le hcl hB1.size
 have HB1:Hid _:=hB1
 go_loopw [3,10] (fun x i wr=>∃ (k:Nat) (n:Int),i=.int .i64 k∧k≤s.size∧x=.int .u32 n∧wr=W1) (fun _ i _=>s.size - (intOf i).toNat)
 case atStart=>exact ⟨0,_,rfl,Nat.zero_le _,rfl,hW1.symm⟩
 case round =>
  obtain ⟨k,n,rfl,hk,rfl,rfl⟩:=hrel
  clear hW1 cn hcl hB1
  by_cases hlt:k < s.size
  · obtain ⟨x,hx,hxc⟩:=hby k hlt
    clear hby
    go_wp2
    go_roundw
    case measure=>simp [intOf] <;> omega
    case rel=>exact ⟨k+1,_,by go_num,by omega,rfl,trivial⟩
  · have hke:k=s.size:=by omega
    subst hke
    clear hby
    go_wp2
    go_ret
    exact ⟨⟨((n+(c:Int)) % 4294967296).toNat,congrArg (fun x=>Ending.returned (Value.int IntKind.u32 x)) (by show (n+(c:Int)) % 4294967296=_;omega)⟩,HB1.out⟩
theorem entryFor_any (h:KIm w m K) {c:Nat} (hc:c < m.kl.length) (s:ByteArray) (hs:s.size≤1000) :
 Calls Tryz.prog 161 #[.pointer (some ⟨K.b,6,none⟩),.agg #[.pointer (some ⟨K.cb c,0,none⟩),.string s]] w fun e w'=>(∃ i,i < K.k.n∧e=.returned (.pointer (some ⟨K.b,6+i*4,none⟩)))∧Below w.heap.size w w':=by
 have hB0:Below w.heap.size w (w.alloc (.cells #[.pointer (some ⟨K.cb c,0,none⟩),.string s] 59)):=(Below.refl _ w).alloc (Nat.le_refl _) _
 have h0:=h.below hB0
 have h1:=h0.drew
 have hen:=entries_any K.b K.k.n K.k.R _ h0.cor.tab
 have hha:=hash_any h1 hc s hs
 have n1:=h.cor.tab.n1
 have n64:=h.cor.tab.n64
 have HB0:Hid _:=hB0
 clear h h0 h1 hB0
 go_enter Tryz.func161,Tryz.ntmps161
 go_wp2_with fail
 refine hen.mono ?_
 rintro e w' ⟨rfl,rfl⟩
 go_wp2_with fail
 refine hha.mono ?_
 rintro e w2 ⟨⟨x,rfl⟩,hb2⟩
 have HB2:Hid _:=hb2
 clear hb2 hha hen
 have hn0:¬ ((K.k.n:Int)=0):=by omega
 have hi1:0≤(x:Int) % (K.k.n:Int):=Int.emod_nonneg _ hn0
 have hi2:(x:Int) % (K.k.n:Int) < (K.k.n:Int):=Int.emod_lt_of_pos _ (by omega)
 go_wp2
 go_ret
 exact ⟨⟨x % K.k.n,Nat.mod_lt _ (by omega),rfl⟩,HB0.out.then (undrew HB2.out)⟩
theorem kept_any (fr hm mt:Option Addr) (s:ByteArray) (hs:s.size≤1000) (w:World) :
 Calls Tryz.prog 162 #[.agg #[.pointer fr,.string s],.agg #[.pointer hm,.pointer mt]] w fun e w'=>e=.returned (Rw4.val ⟨fr,s,hm,mt⟩)∧Below w.heap.size w w':=by
 obtain ⟨W1,hW1⟩:∃ W1,W1=((w.alloc (.cells #[.pointer fr,.string s] 59)).alloc (.cells #[.pointer hm,.pointer mt] 62)).alloc (.cells #[.pointer none,.string ⟨#[]⟩,.pointer none,.pointer none] 64):=⟨_,rfl⟩
 have hB1:Below w.heap.size w W1:=by rw [hW1];exact below3 _ _ _ _
 have hcl:=clone_any s W1 (by omega)
 unfold Rw4.val
 go_enter Tryz.func162,Tryz.ntmps162
 go_wp2_with fail
 rw [← hW1]
 refine hcl.mono ?_
 rintro e w2 ⟨rfl,hb2⟩
 have b0:w2.heap[w.heap.size]?=some (.cells #[.pointer fr,.string s] 59):=by
  rw [hb2.block _ (by rw [hW1];simp;omega),hW1,Below.heap_alloc _ _ _ (by simp;omega),Below.heap_alloc _ _ _ (by simp)]
  exact (MapKept.heap_alloc w _).1
 have b1:w2.heap[w.heap.size+1]?=some (.cells #[.pointer hm,.pointer mt] 62):=by
  rw [hb2.block _ (by rw [hW1];simp),hW1,Below.heap_alloc _ _ _ (by simp)]
  have:=(MapKept.heap_alloc (w.alloc (.cells #[.pointer fr,.string s] 59)) (.cells #[.pointer hm,.pointer mt] 62)).1
  rw [World.size_alloc] at this
  exact this
 have b2:w2.heap[w.heap.size+1+1]?=some (.cells #[.pointer none,.string ⟨#[]⟩,.pointer none,.pointer none] 64):=by
  rw [hb2.block _ (by rw [hW1];simp),hW1]
  have:=(MapKept.heap_alloc ((w.alloc (.cells #[.pointer fr,.string s] 59)).alloc (.cells #[.pointer hm,.pointer mt] 62)) (.cells #[.pointer none,.string ⟨#[]⟩,.pointer none,.pointer none] 64)).1
  simp only [World.size_alloc] at this
  exact this
 have hl2:w.heap.size+3≤w2.heap.size:=by have:=hb2.size;rw [hW1] at this;simp at this;omega
 have q0:w2.cell? ⟨w.heap.size,0,none⟩=some (.pointer fr):=by simp only [World.cell?,b0];rfl
 have q1:w2.cell? ⟨w.heap.size,1,none⟩=some (.string s):=by simp only [World.cell?,b0];rfl
 have f0:w2.cell? ⟨w.heap.size+1,0,none⟩=some (.pointer hm):=by simp only [World.cell?,b1];rfl
 have f1:w2.cell? ⟨w.heap.size+1,1,none⟩=some (.pointer mt):=by simp only [World.cell?,b1];rfl
 have r0:w2.cell? ⟨w.heap.size+1+1,0,none⟩=some (.pointer none):=by simp only [World.cell?,b2];rfl
 have r1:w2.cell? ⟨w.heap.size+1+1,1,none⟩=some (.string ⟨#[]⟩):=by simp only [World.cell?,b2];rfl
 have r2:w2.cell? ⟨w.heap.size+1+1,2,none⟩=some (.pointer none):=by simp only [World.cell?,b2];rfl
 have r3:w2.cell? ⟨w.heap.size+1+1,3,none⟩=some (.pointer none):=by simp only [World.cell?,b2];rfl
 have fz0:∀ o,w2.frozen? ⟨w.heap.size,o,none⟩=false:=fun o=>(Cel.free ⟨_,_,b0⟩ o)
 have fz2:∀ o,w2.frozen? ⟨w.heap.size+1+1,o,none⟩=false:=fun o=>(Cel.free ⟨_,_,b2⟩ o)
 have HB:Hid (Below w.heap.size w w2):=hB1.then hb2
 clear hb2 hB1 b0 b1 b2 hW1 hcl
 go_wp2
 refine bodyPost_ret (results_row (z:=w.heap.size+1+1) Tryz.results162 (.pointer fr) (.string s) (.pointer hm) (.pointer mt) rfl ?_ ?_ ?_ ?_) rfl ⟨rfl,?_⟩
 · rw [cs_other (by intro e;injection e with e1 e2;omega),cs_other (by intro e;injection e with e1 e2;omega),cs_other (by intro e;injection e with e1 e2;omega)];exact cs_same ((cs_other (by intro e;injection e with e1 e2;omega)).trans r0)
 · rw [cs_other (by intro e;injection e with e1 e2;omega),cs_other (by intro e;injection e with e1 e2;omega)];exact cs_same ((cs_other (by intro e;injection e with e1 e2;omega)).trans ((cs_other (by intro e;injection e with e1 e2;omega)).trans r1))
 · rw [cs_other (by intro e;injection e with e1 e2;omega)];exact cs_same ((cs_other (by intro e;injection e with e1 e2;omega)).trans ((cs_other (by intro e;injection e with e1 e2;omega)).trans ((cs_other (by intro e;injection e with e1 e2;omega)).trans r2)))
 · exact cs_same ((cs_other (by intro e;injection e with e1 e2;omega)).trans ((cs_other (by intro e;injection e with e1 e2;omega)).trans ((cs_other (by intro e;injection e with e1 e2;omega)).trans ((cs_other (by intro e;injection e with e1 e2;omega)).trans r3))))
 · exact ((((HB.out.setCell (Nat.le_refl _) _).setCell (by show w.heap.size≤w.heap.size+1+1;omega) _).setCell (by show w.heap.size≤w.heap.size+1+1;omega) _).setCell (by show w.heap.size≤w.heap.size+1+1;omega) _).setCell (by show w.heap.size≤w.heap.size+1+1;omega) _
variable {w0 : World}
variable {m0 : Im}
variable {K0 : Kd}
theorem Step.aside {S:Nat→Prop} (h:Step w0 w m0 K0 m K) (hc:Chg w w' S) (hS:∀ k,S k→w0.heap.size≤k∧¬ Foot m K k) (hg:∀ k,Gl k→k < w0.heap.size):Step w0 w' m0 K0 m K :=
 ⟨h.kim.chg hc (fun k e e'=>(hS k e').2 e) (fun k e e'=>by have:=(hS k e').1;have:=hg k e;omega),h.b,h.np,h.chg.then hc (fun k hk e=>by have:=(hS k e).1;omega),h.foot,h.len,h.cb,h.md⟩
theorem KIm.rmb (h:KIm w m K) {looks climbs:Nat}{pm:Nat→Mm}{R:Nat→Rw4} (hl:climbs≤looks)
 (hP:Pls K.k.np w' K.k.L pm (SdI m K)) (hT:TabAt w' K.b K.k.n R) (hr:∀ i,i < K.k.n→SrI m K (R i))
 (ho:∀ p s,(p,s)∈K.k.L→K.k.pm p=.only→pm p=.only) (ha:∀ p s q,(p,s)∈K.k.L→(pm p).arr=some q→(K.k.pm p).arr=some q∨w.heap.size≤q)
 (hch:Chg w w' (fun k=>k=K.b∨PlBlk K.k.L K.k.pm k)) (htyp:∃ cur,w'.heap[K.b]?=some (.cells cur 70))
 (hc:∀ o,o < 6→o≠2→o≠3→w'.cell? ⟨K.b,o,none⟩=w.cell? ⟨K.b,o,none⟩) (c2:w'.cell? ⟨K.b,2,none⟩=some (.int .i64 (Go.RowKit.wrap64 (looks:Nat)))) (c3:w'.cell? ⟨K.b,3,none⟩=some (.int .i64 (Go.RowKit.wrap64 (climbs:Nat)))) :
 Step w w' m K { m with looks:=looks } { K with climbs:=climbs,k:={ K.k with pm:=pm,R:=R } }:=by
 obtain ⟨n1,n2,n3,n4⟩:=h.forgotNot
 have hcc:=h.cor
 have hmap:∀ (k:Nat) (es:Array MapEntry) (ck:Nat),w.heap[k]?=some (.map es ck)→w'.heap[k]?=w.heap[k]?:=fun k es ck hk=>hch.block k (Array.getElem?_eq_some_iff.1 hk).1 (fun e=>by
  rcases e with e | e
  · obtain ⟨cur,hcur⟩:=hcc.img
    rw [← e,hk] at hcur;cases hcur
  · exact not_plBlk_map hcc.pls hk e)
 have hpb:∀ j,PlBlk K.k.L pm j→PlBlk K.k.L K.k.pm j∨w.heap.size≤j:=by
  rintro j ⟨p,s,hps,e | e⟩
  · exact .inl ⟨p,s,hps,.inl e⟩
  · rcases ha p s j hps e with e | e
    · exact .inl ⟨p,s,hps,.inr e⟩
    · exact .inr e
 have hcor:Cor w' K.b { K.k with pm:=pm,R:=R } (fun _=>False) (SdI m K) (SrI m K):=by
  refine ⟨htyp,(hc 5 (by omega) (by omega) (by omega)).trans hcc.b5,⟨?_,fun s v hv=>?_,hcc.snd.inj,fun s ib p hs hp=>hP.cel (hcc.reg s p ⟨ib,hs,hp⟩)⟩,hP,hcc.reg,fun p s hps=>?_,hT,hr,fun k hk=>?_,fun k hk h1 e=>?_⟩
  · obtain ⟨es,ck,hm,_⟩:=hcc.snd.map
    exact hcc.snd.map.same (hmap _ _ _ hm)
  · obtain ⟨ib,rfl,h4,h5⟩:=hcc.snd.inn s v hv
    obtain ⟨es,ck,hm,hx⟩:=id h4
    exact ⟨ib,rfl,h4.same (hmap _ _ _ hm),h5⟩
  · rcases hcc.told p s hps with e | e | e
    · exact .inl e
    · exact .inr (.inl (ho p s hps e))
    · exact e.elim
  · have hm:=hcc.mt k hk
    obtain ⟨n,hb⟩:=hm.blk
    refine hm.same (hch.block k hm.cel.lt (fun e=>?_)) (fun h1=>hch.block _ (hm.mat.cel h1).lt (fun e=>?_))
    · rcases e with e | e
      · exact hcc.bn (by rw [← e];exact .inr (.inr (.inr hk)))
      · exact not_plBlk hcc.pls hb (by decide) (by decide) e
    · rcases e with e | e
      · exact (hcc.gn hk h1).2 e
      · exact hcc.gfr k hk h1 e
  · rcases hpb _ e with e | e
    · exact hcc.gfr k hk h1 e
    · have:=((hcc.mt k hk).mat.cel h1).lt
      have e:w.heap.size≤(K.k.md k).g:=e
      omega
 have hfoot:∀ k,Foot { m with looks:=looks } { K with climbs:=climbs,k:={ K.k with pm:=pm,R:=R } } k→Foot m K k∨w.heap.size≤k:=fun k e=>by
  rcases e with e | e | e | e | e | e
  · exact .inl (.inl e)
  · exact .inl (.inr (.inl e))
  · exact .inl (.inr (.inr (.inl e)))
  · rcases e with e | e | e | e
    · exact .inl (.inr (.inr (.inr (.inl (.inl e)))))
    · exact .inl (.inr (.inr (.inr (.inl (.inr (.inl e))))))
    · rcases hpb k e with e | e
      · exact .inl (.inr (.inr (.inr (.inl (.inr (.inr (.inl e)))))))
      · exact .inr e
    · exact .inl (.inr (.inr (.inr (.inl (.inr (.inr (.inr e)))))))
  · exact .inl (.inr (.inr (.inr (.inr (.inl e)))))
  · exact .inl (.inr (.inr (.inr (.inr (.inr e)))))
 have hchF:Chg w w' (Foot m K):=hch.mono (fun k _ e=>h.forgotFoot e)
 have hh:=h.hd
 refine ⟨⟨h.ok.looks _,hcor,⟨(hc 0 (by omega) (by omega) (by omega)).trans hh.c0,(hc 1 (by omega) (by omega) (by omega)).trans hh.c1,c2,c3,(hc 4 (by omega) (by omega) (by omega)).trans hh.c4⟩,h.np6,hl,h.lc.same (hch.block _ h.lc.lt n3),h.lcl,h.lcn,⟨(h.cls.chg hch n1).at_,h.cls.inj⟩,fun c hc=>(h.lm c hc).same (hch.block _ (h.lm c hc).lt (n2 c hc)),h.mid,h.own,h.isM,⟨h.ap.mb_sb,h.ap.mb_ib,h.ap.cm_mb,h.ap.cm_sb,h.ap.cm_ib,h.ap.cm_inj⟩,h.obs.same (fun k hk=>hch.block k (h.obs.lt hk) (n4 k hk)),h.glo.chg hchF (fun k hg e=>h.gl k e hg),fun k hk hg=>?_⟩,rfl,rfl,hchF,hfoot,Nat.le_refl _,fun _ _=>rfl,fun k hk=>⟨hk,rfl⟩⟩
 rcases hfoot k hk with e | e
 · exact h.gl k e hg
 · have:=h.glo.lt hg;omega
theorem KIm.looked (h:KIm w m K):Step w (w.setCell ⟨K.b,2,none⟩ (.int .i64 (Go.RowKit.wrap64 ((m.looks+1:Nat):Int)))) m K { m with looks:=m.looks+1 } K:=by
 have hP:=h.cor.pls
 have hb:∀ k,k≠K.b→(w.setCell ⟨K.b,2,none⟩ (.int .i64 (Go.RowKit.wrap64 ((m.looks+1:Nat):Int)))).heap[k]?=w.heap[k]?:=fun k hk=>Below.heap_setCell _ _ _ _ hk
 have ho:∀ o,o≠2→(w.setCell ⟨K.b,2,none⟩ (.int .i64 (Go.RowKit.wrap64 ((m.looks+1:Nat):Int)))).cell? ⟨K.b,o,none⟩=w.cell? ⟨K.b,o,none⟩:=fun o hne=>cs_other (by intro e;injection e with e1 e2;omega)
 have hT:=h.cor.tab
 refine h.rmb (looks:=m.looks+1) (climbs:=K.climbs) (pm:=K.k.pm) (R:=K.k.R) (Nat.le_succ_of_le h.cll) (hP.same (fun k hk=>hb k (fun e=>h.cor.bn (by rw [← e];exact .inr (.inr (.inl hk)))))) ?_ h.cor.rows (fun _ _ _ e=>e) (fun _ _ _ _ e=>.inl e) ((Chg.refl w _).setCell _ _ (fun _=>.inl rfl)) ?_ (fun o _ h2 _=>ho o h2) (cs_same h.hd.c2) ((ho 3 (by omega)).trans h.hd.c3)
 · exact ⟨hT.cel.setCell _ _,hT.n1,hT.n64,(ho _ (by omega)).trans hT.sz,fun i hi=>(ho _ (by omega)).trans (hT.c0 i hi),fun i hi=>(ho _ (by omega)).trans (hT.c1 i hi),fun i hi=>(ho _ (by omega)).trans (hT.c2 i hi),fun i hi=>(ho _ (by omega)).trans (hT.c3 i hi)⟩
 · obtain ⟨cur,hcur⟩:=h.cor.img
   exact ⟨_,by simp only [World.setCell,Array.getElem?_modify,if_pos,hcur];rfl⟩
theorem typ_set {b:Nat} (o:Nat) (v:Value) (h:∃ cur,w.heap[b]?=some (.cells cur 70)):∃ cur,(w.setCell ⟨b,o,none⟩ v).heap[b]?=some (.cells cur 70):=by
 obtain ⟨cur,hcur⟩:=h
 exact ⟨_,by simp only [World.setCell,Array.getElem?_modify,if_pos,hcur];rfl⟩
theorem KIm.climbed (h:KIm w m K) (hl:K.climbs < m.looks):Step w (w.setCell ⟨K.b,3,none⟩ (.int .i64 (Go.RowKit.wrap64 ((K.climbs+1:Nat):Int)))) m K m { K with climbs:=K.climbs+1 }:=by
 have hP:=h.cor.pls
 have hT:=h.cor.tab
 have ho1:∀ o,o≠3→(w.setCell ⟨K.b,3,none⟩ (.int .i64 (Go.RowKit.wrap64 ((K.climbs+1:Nat):Int)))).cell? ⟨K.b,o,none⟩=w.cell? ⟨K.b,o,none⟩:=fun o hne=>cs_other (by intro e;injection e with e1 e2;omega)
 have hT1:TabAt (w.setCell ⟨K.b,3,none⟩ (.int .i64 (Go.RowKit.wrap64 ((K.climbs+1:Nat):Int)))) K.b K.k.n K.k.R :=
  ⟨hT.cel.setCell _ _,hT.n1,hT.n64,(ho1 _ (by omega)).trans hT.sz,fun i hi=>(ho1 _ (by omega)).trans (hT.c0 i hi),fun i hi=>(ho1 _ (by omega)).trans (hT.c1 i hi),fun i hi=>(ho1 _ (by omega)).trans (hT.c2 i hi),fun i hi=>(ho1 _ (by omega)).trans (hT.c3 i hi)⟩
 exact h.rmb (looks:=m.looks) (climbs:=K.climbs+1) (pm:=K.k.pm) (R:=K.k.R) hl (hP.same (fun k hk=>Below.heap_setCell _ _ _ _ (fun e:k=K.b=>h.cor.bn (by rw [← e];exact .inr (.inr (.inl hk)))))) hT1 h.cor.rows (fun _ _ _ e=>e) (fun _ _ _ _ e=>.inl e) ((Chg.refl w _).setCell _ _ (fun _=>.inl rfl)) (typ_set _ _ h.cor.img) (fun o h6 _ h3=>ho1 o h3) ((ho1 2 (by omega)).trans h.hd.c2) (cs_same h.hd.c3)
def Kd.row (K:Kd) (i:Nat) (r:Rw4):Kd:={ K with k:={ K.k with R:=fun j=>if j=i then r else K.k.R j } }
theorem KIm.rowed (h:KIm w m K) {i:Nat} (hi:i < K.k.n) {r:Rw4} (hr:Ans m K.cb K.mid r) :
 Step w ((((w.setCell ⟨K.b,6+i*4,none⟩ (.pointer r.fr)).setCell ⟨K.b,6+i*4+1,none⟩ (.string r.sel)).setCell ⟨K.b,6+i*4+2,none⟩ (.pointer r.hm)).setCell ⟨K.b,6+i*4+3,none⟩ (.pointer r.mt)) m K m (K.row i r):=by
 have hP:=h.cor.pls
 have hT:=h.cor.tab
 have h64:=hT.n64
 have ho:∀ o,o < 6→((((w.setCell ⟨K.b,6+i*4,none⟩ (.pointer r.fr)).setCell ⟨K.b,6+i*4+1,none⟩ (.string r.sel)).setCell ⟨K.b,6+i*4+2,none⟩ (.pointer r.hm)).setCell ⟨K.b,6+i*4+3,none⟩ (.pointer r.mt)).cell? ⟨K.b,o,none⟩=w.cell? ⟨K.b,o,none⟩:=fun o h6=>by
  rw [cs_other (by intro e;injection e with e1 e2;omega),cs_other (by intro e;injection e with e1 e2;omega),cs_other (by intro e;injection e with e1 e2;omega),cs_other (by intro e;injection e with e1 e2;omega)]
 refine h.rmb (looks:=m.looks) (climbs:=K.climbs) (pm:=K.k.pm) (R:=fun j=>if j=i then r else K.k.R j) h.cll (hP.same (fun k hk=>?_)) (hT.put (by omega) r) (fun j hj=>?_) (fun _ _ _ e=>e) (fun _ _ _ _ e=>.inl e) ?_ (typ_set _ _ (typ_set _ _ (typ_set _ _ (typ_set _ _ h.cor.img)))) (fun o h6 _ _=>ho o h6) ((ho 2 (by omega)).trans h.hd.c2) ((ho 3 (by omega)).trans h.hd.c3)
 · have hk:k≠K.b:=fun e=>h.cor.bn (by rw [← e];exact .inr (.inr (.inl hk)))
   rw [Below.heap_setCell _ _ _ _ hk,Below.heap_setCell _ _ _ _ hk,Below.heap_setCell _ _ _ _ hk,Below.heap_setCell _ _ _ _ hk]
 · by_cases e:j=i
   · simp only [e,if_true];exact .inl hr
   · simp only [e,if_false];exact h.cor.rows j hj
 · exact (((((Chg.refl w _).setCell _ _ (fun _=>.inl rfl)).setCell _ _ (fun _=>.inl rfl)).setCell _ _ (fun _=>.inl rfl)).setCell _ _ (fun _=>.inl rfl))
structure Lrn (np:Nat) (mm:Mm) (r:Rw4) (mm':Mm):Prop where
 only:mm=.only→mm'=.only
 rows:∀ x,x∈mm'.rows→x∈mm.rows∨x=r
 few:mm.rows.length≤np→mm'.rows.length≤np
def Kd.learnt (K:Kd) (p:Nat) (mm:Mm):Kd:={ K with k:={ K.k with pm:=fun k=>if k=p then mm else K.k.pm k } }
theorem KIm.learnt {w w3:World} (h:KIm w m K) {p:Nat}{s:ByteArray} (hp:(p,s)∈K.k.L) {r:Rw4}{mm:Mm} (hl:Lrn K.np (K.k.pm p) r mm) (hr:SdI m K s r) (hok:mm.Ok w3) (hq:∀ q,mm.arr=some q→(K.k.pm p).arr=some q∨w.heap.size≤q)
 (hqp:∀ q,mm.arr=some q→q≠p) (hch:Chg w w3 (fun k=>(K.k.pm p).arr=some k)):Step w (w3.setCell ⟨p,0,none⟩ mm.val) m K m (K.learnt p mm):=by
 have hP:=h.cor.pls
 have hpb:p≠K.b:=fun e=>h.cor.bn (by rw [← e];exact .inr (.inr (.inl ⟨p,s,hp,.inl rfl⟩)))
 have hab:∀ q,(K.k.pm p).arr=some q→q≠K.b:=fun q e e'=>h.cor.bn (by rw [← e'];exact .inr (.inr (.inl ⟨p,s,hp,.inr e⟩)))
 have hb:(w3.setCell ⟨p,0,none⟩ mm.val).heap[K.b]?=w.heap[K.b]?:=(Below.heap_setCell _ _ _ _ (fun e=>hpb e.symm)).trans (hch.block K.b h.cor.tab.cel.lt (fun e=>hab _ e rfl))
 refine h.rmb (looks:=m.looks) (climbs:=K.climbs) (pm:=fun k=>if k=p then mm else K.k.pm k) (R:=K.k.R) h.cll (hP.store hp hch hok (hl.few (hP.ok p s hp).2) (fun x hx=>?_) hq hqp) (h.cor.tab.same hb) h.cor.rows (fun p' s' hp' e=>?_) (fun p' s' q hp' e=>?_) ?_ ?_ (fun o _ _ _=>World.cell?_of_block hb) ((World.cell?_of_block hb).trans h.hd.c2) ((World.cell?_of_block hb).trans h.hd.c3)
 · rcases hl.rows x hx with e | e
   · exact hP.rows p s x hp e
   · rw [e];exact hr
 · by_cases e1:p'=p
   · subst e1;simp only [if_true];exact hl.only e
   · simp only [e1,if_false];exact e
 · by_cases e1:p'=p
   · subst e1
     simp only [if_true] at e
     exact hq q e
   · simp only [e1,if_false] at e;exact .inl e
 · exact (hch.mono (fun k _ e=>.inr ⟨p,s,hp,.inr e⟩)).setCell _ _ (fun _=>.inr ⟨p,s,hp,.inl rfl⟩)
 · obtain ⟨cur,hcur⟩:=h.cor.img
   exact ⟨cur,hb.trans hcur⟩
def Kd.nowhere (K:Kd) (p:Nat) (s:ByteArray):Kd:={ K with k:={ K.k with L:=(p,s)::K.k.L,pm:=fun k=>if k=p then .only else K.k.pm k } }
theorem KIm.nowhere (h:KIm w m K) (s:ByteArray):Step w (w.alloc (.cells #[Mm.only.val] 198)) m K m (K.nowhere w.heap.size s):=by
 have hbel:Below w.heap.size w (w.alloc (.cells #[Mm.only.val] 198)):=(Below.refl _ w).alloc (Nat.le_refl _) _
 have h':=h.below hbel
 have hcc:=h'.cor
 have hP:=hcc.pls
 have hold:∀ q t,(q,t)∈K.k.L→q≠w.heap.size:=fun q t hq e=>by
  have:=h.cor.lt (.inr (.inr (.inl ⟨q,t,hq,.inl rfl⟩)):CBlk K.k q)
  omega
 have hpmo:∀ q t,(q,t)∈K.k.L→(if q=w.heap.size then Mm.only else K.k.pm q)=K.k.pm q:=fun q t hq=>if_neg (hold q t hq)
 have hmem:∀ q t,(q,t)∈(w.heap.size,s)::K.k.L→(q=w.heap.size∧t=s)∨(q,t)∈K.k.L:=fun q t hq=>by
  rcases List.mem_cons.1 hq with e | e
  · injection e with e1 e2;exact .inl ⟨e1,e2⟩
  · exact .inr e
 have hpb:∀ k,PlBlk ((w.heap.size,s)::K.k.L) (fun k=>if k=w.heap.size then .only else K.k.pm k) k→PlBlk K.k.L K.k.pm k∨w.heap.size≤k:=by
  rintro k ⟨q,t,hq,e⟩
  rcases hmem q t hq with ⟨e1,e2⟩ | hq
  · rcases e with e | e
    · exact .inr (by omega)
    · simp only [e1,if_true] at e;cases e
  · simp only [hpmo q t hq] at e
    exact .inl ⟨q,t,hq,e⟩
 have hcor:Cor (w.alloc (.cells #[Mm.only.val] 198)) K.b (K.nowhere w.heap.size s).k (fun _=>False) (SdI m K) (SrI m K):=by
  refine ⟨hcc.img,hcc.b5,hcc.snd,⟨hP.b6,?_,fun q t hq=>?_,fun q t hq=>?_,fun q t r hq hr=>?_,fun q t q' t' a hq hq' ha ha'=>?_⟩,fun t q hr=>List.mem_cons_of_mem _ (hcc.reg t q hr),fun q t hq=>?_,hcc.tab,hcc.rows,fun k hk=>?_,fun k hk h1 e=>?_⟩
  · show ((w.heap.size,s)::K.k.L |>.map (·.1)).Nodup
    rw [List.map_cons,List.nodup_cons]
    refine ⟨fun e=>?_,hP.nd⟩
    obtain ⟨⟨q,t⟩,hq,e⟩:=List.mem_map.1 e
    exact hold q t hq e
  · rcases hmem q t hq with ⟨e1,e2⟩ | hq
    · subst e1
      show _=some (Obj.cells #[(if w.heap.size=w.heap.size then Mm.only else K.k.pm w.heap.size).val] _)
      rw [if_pos rfl]
      exact (MapKept.heap_alloc w _).1
    · show _=some (Obj.cells #[(if q=w.heap.size then Mm.only else K.k.pm q).val] _)
      rw [hpmo q t hq]
      exact hP.at_ q t hq
  · rcases hmem q t hq with ⟨e1,e2⟩ | hq
    · subst e1
      show (if w.heap.size=w.heap.size then Mm.only else K.k.pm w.heap.size).Ok _∧(if w.heap.size=w.heap.size then Mm.only else K.k.pm w.heap.size).rows.length≤_
      rw [if_pos rfl]
      exact ⟨trivial,Nat.zero_le _⟩
    · show (if q=w.heap.size then Mm.only else K.k.pm q).Ok _∧(if q=w.heap.size then Mm.only else K.k.pm q).rows.length≤_
      rw [hpmo q t hq]
      exact hP.ok q t hq
  · have hr:r∈(if q=w.heap.size then Mm.only else K.k.pm q).rows:=hr
    rcases hmem q t hq with ⟨e1,e2⟩ | hq
    · subst e1
      rw [if_pos rfl] at hr
      cases hr
    · rw [hpmo q t hq] at hr
      exact hP.rows q t r hq hr
  · have ha:(if q=w.heap.size then Mm.only else K.k.pm q).arr=some a:=ha
    have ha':(if q'=w.heap.size then Mm.only else K.k.pm q').arr=some a:=ha'
    rcases hmem q t hq with ⟨e1,e2⟩ | hq
    · subst e1
      rw [if_pos rfl] at ha
      cases ha
    · rcases hmem q' t' hq' with ⟨e1,e2⟩ | hq'
      · subst e1
        rw [if_pos rfl] at ha'
        cases ha'
      · rw [hpmo q t hq] at ha
        rw [hpmo q' t' hq'] at ha'
        exact hP.arr q t q' t' a hq hq' ha ha'
  · rcases hmem q t hq with ⟨e1,e2⟩ | hq
    · exact .inr (.inl (if_pos e1))
    · rcases hcc.told q t hq with e | e | e
      · exact .inl e
      · exact .inr (.inl (((if_neg (hold q t hq)).trans e)))
      · exact e.elim
  · have hm:=hcc.mt k hk
    exact ⟨hm.blk,hm.mat,hm.len,fun i x hx hs=>List.mem_cons_of_mem _ (hm.pls i x hx hs)⟩
  · rcases hpb _ e with e | e
    · exact hcc.gfr k hk h1 e
    · have:=((h.cor.mt k hk).mat.cel h1).lt
      have e:w.heap.size≤(K.k.md k).g:=e
      omega
 have hfoot:∀ k,Foot m (K.nowhere w.heap.size s) k→Foot m K k∨w.heap.size≤k:=fun k e=>by
  rcases e with e | e | e | e | e | e
  · exact .inl (.inl e)
  · exact .inl (.inr (.inl e))
  · exact .inl (.inr (.inr (.inl e)))
  · rcases e with e | e | e | e
    · exact .inl (.inr (.inr (.inr (.inl (.inl e)))))
    · exact .inl (.inr (.inr (.inr (.inl (.inr (.inl e))))))
    · rcases hpb k e with e | e
      · exact .inl (.inr (.inr (.inr (.inl (.inr (.inr (.inl e)))))))
      · exact .inr e
    · exact .inl (.inr (.inr (.inr (.inl (.inr (.inr (.inr e)))))))
  · exact .inl (.inr (.inr (.inr (.inr (.inl e)))))
  · exact .inl (.inr (.inr (.inr (.inr (.inr e)))))
 refine ⟨⟨h.ok,hcor,⟨h'.hd.c0,h'.hd.c1,h'.hd.c2,h'.hd.c3,h'.hd.c4⟩,h.np6,h.cll,h'.lc,h.lcl,h.lcn,h'.cls,h'.lm,h.mid,h.own,h.isM,⟨h.ap.mb_sb,h.ap.mb_ib,h.ap.cm_mb,h.ap.cm_sb,h.ap.cm_ib,h.ap.cm_inj⟩,h'.obs,h'.glo,fun k hk hg=>?_⟩,rfl,rfl,Chg.of_below hbel _,hfoot,Nat.le_refl _,fun _ _=>rfl,fun k hk=>⟨hk,rfl⟩⟩
 rcases hfoot k hk with e | e
 · exact h.gl k e hg
 · have:=h.glo.lt hg;omega
theorem is_gaveUp (v:Value) (w:World):(Instr.typeAssert (.iface 167 v) 20 167 true).run Tryz.prog w=.ok (.tuple #[v,.bool true]) w:=by
 simp [Instr.typeAssert,run_underlying Tryz.underlying167]
theorem caught (p:Addr) (x n:Int) (older:List PanicEntry) (w:World) (hc:w.cell? p=some (.int .i64 x)) (hz:w.frozen? p=false) :
 CallsD Tryz.prog 87 #[.pointer (some p)] (.panicking ({ v:=.iface 167 (.int .i64 n),recovered:=false }::older)) w fun e u' w' =>
  e=.returned (.tuple #[])∧u'=.panicking ({ v:=.iface 167 (.int .i64 n),recovered:=true }::older)∧w'=w.setCell p (.int .i64 n):=by
 refine callsD_of_wpS Tryz.func87 rfl fun c₀ cs hu=>?_
 apply wpS_seq
 apply wpS_region
 simp [wpOpsS,go_sem,recoverD,hu,Tryz.ntmps87,Exit.thenS]
 refine wpS_of_wp ?_
 rw [show #[Value.pointer (some p)]++(Array.replicate 10 undef).setIfInBounds 3 (.iface 167 (.int .i64 n))=#[.pointer (some p),undef,undef,undef,(.iface 167 (.int .i64 n)),undef,undef,undef,undef,undef,undef] from rfl]
 have hta:=is_gaveUp (.int .i64 n)
 go_wp2
 simp [bodyPostS,results,Tryz.results87]
theorem idle (p:Addr) (w:World) :
 CallsD Tryz.prog 87 #[.pointer (some p)] .returning w fun e u' w'=>e=.returned (.tuple #[])∧u'=.returning∧w'=w:=by
 refine callsD_of_wpS Tryz.func87 rfl fun c₀ cs hu=>?_
 apply wpS_seq
 apply wpS_region
 simp [wpOpsS,go_sem,recoverD,hu,Tryz.ntmps87,Exit.thenS]
 refine wpS_of_wp ?_
 rw [show #[Value.pointer (some p)]++(Array.replicate 10 undef).setIfInBounds 3 .nilIface=#[.pointer (some p),undef,undef,undef,.nilIface,undef,undef,undef,undef,undef,undef] from rfl]
 go_wp2
 cases c₀
 simp_all [bodyPostS,results,Tryz.results87]
end Go.Proofs.YtkghmgoefiepeaaGreatDoor.reads
