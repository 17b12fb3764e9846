import Derived.Test.YtkghmgoefiepeaaGreatDoorQ0
import Derived.Test.YtkghmgoefiepeaaGreatDoorQ21
set_option linter.unusedSimpArgs false
set_option linter.unusedVariables false
set_option maxHeartbeats 4000000
set_option maxRecDepth 100000
namespace Go.Proofs.YtkghmgoefiepeaaGreatDoor.reads
open Go.ChangeShapes Go.WideShapes Go.ChangeAt Go.RowKit Kn Go.Proofs.YtkghmgoefiepeaaGreatDoor.img
variable {bd : Nat}
structure ThI (bd:Nat) (w0 W:World) (sb:Nat) (l0:List (ByteArray×Value)) (ps0:Nat→List Nat) (pm0:Nat→Mm) (L:List (Nat×ByteArray)) (Sd:ByteArray→Rw4→Prop) (ws:List (Kn.W×Nat)) (pl:Nat→Nat) (k:Nat) (l:List (ByteArray×Value)) (ps:Nat→List Nat) (pm:Nat→Mm):Prop where
 snd:SndAt W sb l ps
 sub:∀ s ib,l.lookup s=some (.map (some ib))→l0.lookup s=some (.map (some ib))
 reg:∀ s q,Reg l ps s q ↔ Reg l0 ps0 s q∧¬ Sends ws pl k s q
 pls:Pls bd W L pm Sd
 only:∀ s q,Sends ws pl k s q→pm q=.only
 keep:∀ q,(∀ s,¬ Sends ws pl k s q)→pm q=pm0 q
 chg:Chg w0 W (fun k=>k=sb∨(∃ s,l0.lookup s=some (.map (some k)))∨∃ s,(k,s)∈L)
theorem Pls.lt {w:World}{L:List (Nat×ByteArray)}{pm:Nat→Mm}{Sd:ByteArray→Rw4→Prop} (hP:Pls bd w L pm Sd):∀ k,PlBlk L pm k→k < w.heap.size:=by
 rintro k ⟨p,s,hps,e | e⟩
 · subst e;exact (hP.cel hps).lt
 · obtain ⟨cr,hcr⟩:=hP.arrCel hps e;exact (Array.getElem?_eq_some_iff.1 hcr).1
theorem SndAt.ne {w:World}{sb:Nat}{l:List (ByteArray×Value)}{ps:Nat→List Nat} (h:SndAt w sb l ps) {k:Nat} (hk:Cel w k):¬ (k=sb∨∃ s,l.lookup s=some (.map (some k))):=by
 rintro (e | ⟨s,e⟩)
 · exact cel_ne_map hk h.map e
 · obtain ⟨ib,e1,e2,_⟩:=h.inn s _ e
   injection e1 with e1;injection e1 with e1
   subst e1
   exact cel_ne_set hk e2 rfl
theorem Pls.drew {w:World}{L:List (Nat×ByteArray)}{pm:Nat→Mm}{Sd:ByteArray→Rw4→Prop} (h:Pls bd w L pm Sd):Pls bd w.drew L pm Sd:=h.same (fun _ _=>rfl)
theorem Pls.alloc {w:World}{L:List (Nat×ByteArray)}{pm:Nat→Mm}{Sd:ByteArray→Rw4→Prop} (h:Pls bd w L pm Sd) (o:Obj):Pls bd (w.alloc o) L pm Sd:=h.same (fun k hk=>Below.heap_alloc _ _ _ (h.lt k hk))
theorem SndAt.alloc {w:World}{sb:Nat}{l:List (ByteArray×Value)}{ps:Nat→List Nat} (h:SndAt w sb l ps) (o:Obj):SndAt (w.alloc o) sb l ps:=h.chg ((Chg.refl w (fun _=>False)).alloc _) (fun h=>h) (fun _ _ _ h=>h) (fun _ _ _ _ _ h=>h.elim)
theorem Pls.beside {w w':World}{L:List (Nat×ByteArray)}{pm:Nat→Mm}{Sd:ByteArray→Rw4→Prop} (h:Pls bd w L pm Sd) (hk:∀ j,Cel w j→w'.heap[j]?=w.heap[j]?):Pls bd w' L pm Sd:=h.same (fun k hb=>by
 rcases hb with ⟨p,s,hps,e | e⟩
 · subst e;exact hk _ (h.cel hps)
 · obtain ⟨cr,hcr⟩:=h.arrCel hps e;exact hk _ ⟨_,_,hcr⟩)
theorem cel_same' {w w':World}{p m o:Nat}{v:Value} (h:Cel w p) (e:w'.heap[p]?=(w.setCell ⟨m,o,none⟩ v).heap[p]?) (hne:p≠m):Cel w' p:=h.same (e.trans (Below.heap_setCell w _ _ p hne))
section
variable {w0 : World} {sb : Nat} {l0 : List (ByteArray × Value)} {ps0 : Nat → List Nat} {pm0 : Nat → Mm} {L : List (Nat × ByteArray)} {Sd : ByteArray → Rw4 → Prop} {ws : List (Kn.W × Nat)} {pl : Nat → Nat}
theorem ThI.alloc {W:World}{k:Nat}{l:List (ByteArray×Value)}{ps:Nat→List Nat}{pm:Nat→Mm} (h:ThI bd w0 W sb l0 ps0 pm0 L Sd ws pl k l ps pm) (o:Obj):ThI bd w0 (W.alloc o) sb l0 ps0 pm0 L Sd ws pl k l ps pm :=
 ⟨h.snd.alloc o,h.sub,h.reg,h.pls.alloc o,h.only,h.keep,h.chg.alloc o⟩
theorem ThI.drew {W:World}{k:Nat}{l:List (ByteArray×Value)}{ps:Nat→List Nat}{pm:Nat→Mm} (h:ThI bd w0 W sb l0 ps0 pm0 L Sd ws pl k l ps pm):ThI bd w0 W.drew sb l0 ps0 pm0 L Sd ws pl k l ps pm :=
 ⟨h.snd.drew,h.sub,h.reg,h.pls.drew,h.only,h.keep,h.chg.drew⟩
theorem ThI.pass {W:World}{k:Nat}{l:List (ByteArray×Value)}{ps:Nat→List Nat}{pm:Nat→Mm}{x:Kn.W×Nat} (h:ThI bd w0 W sb l0 ps0 pm0 L Sd ws pl k l ps pm) (hx:ws[k]?=some x) (hs:sendsW x.1=false):ThI bd w0 W sb l0 ps0 pm0 L Sd ws pl (k+1) l ps pm :=
 ⟨h.snd,h.sub,fun s q=>by rw [h.reg s q,sends_pass hx hs],h.pls,fun s q hsq=>h.only s q ((sends_pass hx hs s q).1 hsq),fun q hq=>h.keep q (fun s hsq=>hq s ((sends_pass hx hs s q).2 hsq)),h.chg⟩
theorem set_kinds:Tryz.prog.underlying 138=some (.map (Tryz.prog.mapKeyOf 138) (Tryz.prog.mapElemOf 138)):=by kernel_rfl
theorem ThI.go {W:World}{k:Nat}{l:List (ByteArray×Value)}{ps:Nat→List Nat}{pm:Nat→Mm}{x:Kn.W×Nat} (h:ThI bd w0 W sb l0 ps0 pm0 L Sd ws pl k l ps pm) (hx:ws[k]?=some x) (hs:sendsW x.1=true) (hL:(pl k,ofL x.1.sel)∈L) :
 ∃ v W2 v2 n,(Instr.lookup 56 (.map (some sb)) (.string (ofL x.1.sel)) false).run Tryz.prog (W.setCell ⟨pl k,0,none⟩ Mm.only.val).drew=.ok v (W.setCell ⟨pl k,0,none⟩ Mm.only.val).drew ∧
  (∀ t2 ty,(Builtin.delete_ #[138,t2] ty #[v,pkey (pl k)]).run Tryz.prog (W.setCell ⟨pl k,0,none⟩ Mm.only.val).drew=.ok (.tuple #[]) W2) ∧
  (Instr.lookup 56 (.map (some sb)) (.string (ofL x.1.sel)) false).run Tryz.prog W2.drew=.ok v2 W2.drew ∧
  (∀ ty,(Builtin.len_ #[138] ty #[v2]).run Tryz.prog W2.drew=.ok (.int .i64 ((n:Nat):Int)) W2.drew) ∧
  (∃ l ps pm,ThI bd w0 W2 sb l0 ps0 pm0 L Sd ws pl (k+1) l ps pm)∧(∀ j,Cel W j→j≠pl k→W2.heap[j]?=W.heap[j]?) ∧
  (n=0→∃ W3,(∀ t2 ty,(Builtin.delete_ #[56,t2] ty #[.map (some sb),.string (ofL x.1.sel)]).run Tryz.prog W2.drew.drew=.ok (.tuple #[]) W3)∧∃ l ps pm,ThI bd w0 W3 sb l0 ps0 pm0 L Sd ws pl (k+1) l ps pm):=by
 have hc1:Chg W (W.setCell ⟨pl k,0,none⟩ Mm.only.val) (fun j=>j=pl k):=(Chg.refl W _).setCell _ _ (fun _=>rfl)
 have hcq:=h.pls.cel hL
 have hne:=h.snd.ne hcq
 have hs1:SndAt (W.setCell ⟨pl k,0,none⟩ Mm.only.val).drew sb l ps:=(h.snd.chg hc1 (fun e=>hne (.inl e.symm)) (fun s ib hi e=>hne (.inr ⟨s,by rw [← e];exact hi⟩)) (fun s ib p hi hp e=>by subst e;exact hcq.setCell _ _)).drew
 have hp1:Pls bd (W.setCell ⟨pl k,0,none⟩ Mm.only.val).drew L (fun j=>if j=pl k then .only else pm j) Sd:=(Pls.store (W3:=W) h.pls hL (m:=.only) (Chg.refl _ _) trivial (by simp [Mm.rows]) (fun r hr=>by cases hr) (fun q hq=>by cases hq) (fun q hq=>by cases hq)).drew
 generalize hW1:(W.setCell ⟨pl k,0,none⟩ Mm.only.val).drew=W1 at hs1 hp1 ⊢
 have hW1k:∀ j,j≠pl k→W1.heap[j]?=W.heap[j]?:=fun j hj=>by rw [← hW1];exact Below.heap_setCell W ⟨pl k,0,none⟩ _ j hj
 have hW1c:∀ j,Cel W j→Cel W1 j:=fun j hj=>by rw [← hW1];exact (hj.setCell _ _).same rfl
 have hch1:Chg w0 W1 (fun k=>k=sb∨(∃ s,l0.lookup s=some (.map (some k)))∨∃ s,(k,s)∈L):=by rw [← hW1];exact (h.chg.trans (hc1.mono (fun j _ e=>by subst e;exact .inr (.inr ⟨_,hL⟩)))).drew
 clear hW1 hc1
 have hq1:Cel W1 (pl k):=hW1c _ hcq
 -- what is known of any world in which this set alone has turned
 have key:∀ (W2:World) (l2:List (ByteArray×Value)) (ps2:Nat→List Nat),SndAt W2 sb l2 ps2→(∀ s ib,l2.lookup s=some (.map (some ib))→l.lookup s=some (.map (some ib)))→(∀ t r,Reg l2 ps2 t r ↔ Reg l ps t r∧¬ (t=ofL x.1.sel∧r=pl k))→Chg W1 W2 (fun j=>j=sb∨∃ s,l.lookup s=some (.map (some j))) →
  ThI bd w0 W2 sb l0 ps0 pm0 L Sd ws pl (k+1) l2 ps2 (fun j=>if j=pl k then .only else pm j):=by
  intro W2 l2 ps2 hs2 hsub hreg hc2
  refine ⟨hs2,fun s ib e=>h.sub s ib (hsub s ib e),fun s q=>?_,hp1.beside (fun j hj=>hc2.block j hj.lt (hs1.ne hj)),fun s q hsq=>?_,fun q hq=>?_,hch1.trans (hc2.mono (fun j _ e=>?_))⟩
  · rw [hreg s q,h.reg s q,sends_step hx hs]
    constructor
    · rintro ⟨⟨h1,h2⟩,h3⟩;exact ⟨h1,fun e=>e.elim h2 h3⟩
    · rintro ⟨h1,h2⟩;exact ⟨⟨h1,fun e=>h2 (.inl e)⟩,fun e=>h2 (.inr e)⟩
  · by_cases e:q=pl k
    · simp [e]
    · simp only [e,if_false]
      rcases (sends_step hx hs s q).1 hsq with h1 | ⟨_,h1⟩
      · exact h.only s q h1
      · exact absurd h1 e
  · have e:q≠pl k:=fun e=>hq (ofL x.1.sel) ((sends_step hx hs _ _).2 (.inr ⟨rfl,e⟩))
    simp only [e,if_false]
    exact h.keep q (fun s hsq=>hq s ((sends_step hx hs s q).2 (.inl hsq)))
  · rcases e with e | ⟨s,e⟩
    · exact .inl e
    · exact .inr (.inl ⟨s,h.sub s _ e⟩)
 cases hl:l.lookup (ofL x.1.sel) with
 | none =>
  have hno:∀ r,¬ Reg l ps (ofL x.1.sel) r:=fun r ⟨ib,e,_⟩=>by rw [hl] at e;cases e
  have hk2:ThI bd w0 W1 sb l0 ps0 pm0 L Sd ws pl (k+1) l ps (fun j=>if j=pl k then .only else pm j):=key W1 l ps hs1 (fun _ _ e=>e) (fun t r=>⟨fun e=>⟨e,fun e2=>hno r (by rw [← e2.1];exact e)⟩,fun e=>e.1⟩) (Chg.refl _ _)
  refine ⟨.map none,W1,.map none,0,by rw [lookup_snd W1 sb l hs1.map,hl];rfl,fun t2 ty=>del_nil _ _ _ _,by rw [lookup_snd W1.drew sb l hs1.drew.map,hl];rfl,fun ty=>len_nilset _ _,⟨_,_,_,hk2⟩,fun j _ hj=>hW1k j hj,fun _=>?_⟩
  obtain ⟨W3,hrun,hs3,hreg3,hg3⟩:=snd_drop hs1.drew.drew (ofL x.1.sel) hno 0 0
  refine ⟨W3,fun t2 ty=>?_,_,_,_,key W3 _ ps hs3 (fun s ib e=>?_) (fun t r=>by rw [hreg3 t r];exact ⟨fun e=>⟨e,fun e2=>hno r (by rw [← e2.1];exact e)⟩,fun e=>e.1⟩) ((Chg.refl W1 _).drew.drew.trans ((Chg.of_grown hg3).mono (fun j _ e=>.inl e)))⟩
  · obtain ⟨W4,hrun4,_⟩:=snd_drop hs1.drew.drew (ofL x.1.sel) hno t2 ty
    exact hrun
  · rw [lookup_del] at e
    by_cases e2:s=ofL x.1.sel
    · rw [if_pos e2] at e;cases e
    · rw [if_neg e2] at e;exact e
 | some v =>
  obtain ⟨ib,rfl,hset,hibs⟩:=hs1.inn _ v hl
  obtain ⟨W2,ps2,hrun,hs2,hreg2,hg2⟩:=snd_del hs1 hl hq1 0 0
  obtain ⟨ib',e,hset2,_⟩:=hs2.inn _ _ hl
  injection e with e;injection e with e;subst e
  have hc2:Chg W1 W2 (fun j=>j=sb∨∃ s,l.lookup s=some (.map (some j))):=(Chg.of_grown hg2).mono (fun j _ e=>.inr ⟨ofL x.1.sel,by subst e;exact hl⟩)
  refine ⟨.map (some ib),W2,.map (some ib),(ps2 ib).length,by rw [lookup_snd W1 sb l hs1.map,hl];rfl,fun t2 ty=>hrun,by rw [lookup_snd W2.drew sb l hs2.drew.map,hl];rfl,fun ty=>run_plen (P:=Tryz.prog) (w:=W2.drew) (b:=ib) (ps:=ps2 ib) (t:=138) (hset2.same rfl) set_kinds ty,⟨_,_,_,key W2 l ps2 hs2 (fun _ _ e=>e) hreg2 hc2⟩,fun j hj hjp=>(hc2.block j (hW1c j hj).lt (hs1.ne (hW1c j hj))).trans (hW1k j hjp),fun hn=>?_⟩
  have hno:∀ r,¬ Reg l ps2 (ofL x.1.sel) r:=fun r ⟨jb,e,hm⟩=>by
   rw [hl] at e
   have:=mapv_inj e
   subst this
   rw [List.eq_nil_of_length_eq_zero hn] at hm
   cases hm
  obtain ⟨W3,hrun3,hs3,hreg3,hg3⟩:=snd_drop hs2.drew.drew (ofL x.1.sel) hno 0 0
  refine ⟨W3,fun t2 ty=>hrun3,_,_,_,key W3 _ ps2 hs3 (fun s ib e=>?_) (fun t r=>by rw [hreg3 t r];exact hreg2 t r) (hc2.drew.drew.trans ((Chg.of_grown hg3).mono (fun j _ e=>.inl e)))⟩
  rw [lookup_del] at e
  by_cases e2:s=ofL x.1.sel
  · rw [if_pos e2] at e;cases e
  · rw [if_neg e2] at e;exact e
end
theorem takeHome_last (b m sb g cap:Nat) (p:Option Addr) (ws:List (Kn.W×Nat)) (pl:Nat→Nat) (l0:List (ByteArray×Value)) (ps0:Nat→List Nat) (L:List (Nat×ByteArray)) (pm0:Nat→Mm) (Sd:ByteArray→Rw4→Prop) (h:Int) (w:World) (hn:ws.length≤40) (hh:Go.RowKit.wrap64 (h - 1)≤0)
 (hb:w.cell? ⟨b,5,none⟩=some (.map (some sb))) (hbc:Cel w b) (hm:w.heap[m]?=some (.cells #[.slice p ws.length cap,.int .i64 h] 165)) (hbm:b≠m) (hgm:1≤ws.length→g≠m)
 (hw:MAt w p g ws pl ws.length) (hpl:∀ i x,ws[i]?=some x→sendsW x.1=true→(pl i,ofL x.1.sel)∈L) (hs:SndAt w sb l0 ps0) (hP:Pls bd w L pm0 Sd) :
 Calls Tryz.prog 83 #[.pointer (some ⟨b,0,none⟩),.pointer (some ⟨m,0,none⟩)] w fun e w'=>e=.returned (.tuple #[])∧(∃ l ps pm,ThI bd (w.setCell ⟨m,1,none⟩ (.int .i64 (Go.RowKit.wrap64 (h - 1)))) w' sb l0 ps0 pm0 L Sd ws pl ws.length l ps pm) ∧
  w'.heap[m]?=some (.cells #[.slice p ws.length cap,.int .i64 (Go.RowKit.wrap64 (h - 1))] 165):=by
 have hmc:Cel w m:=⟨_,_,hm⟩
 have m0:w.cell? ⟨m,0,none⟩=some (.slice p ws.length cap):=by simp only [World.cell?,hm];rfl
 have m1:w.cell? ⟨m,1,none⟩=some (.int .i64 h):=by simp only [World.cell?,hm];rfl
 have mf:=fun o=>hmc.free o
 have hgc:1≤ws.length→Cel w g:=hw.cel
 -- blocks that are no places
 have hbL:∀ s,(b,s) ∉ L:=fun s hx=>by
  have:=hP.at_ b s hx
  rw [World.cell?,this] at hb
  simp at hb
 have hmL:∀ s,(m,s) ∉ L:=fun s hx=>by
  have:=hP.at_ m s hx
  rw [World.cell?,this] at m1
  simp at m1
 have hgL:1≤ws.length→∀ s,(g,s) ∉ L:=fun h1 s hx=>by
  have:=hP.at_ g s hx
  obtain ⟨x,hx0⟩:∃ x,ws[0]?=some x:=⟨_,List.getElem?_eq_getElem (by omega)⟩
  have h2:=hw.c1 0 x hx0
  rw [World.cell?,this] at h2
  simp at h2
 have hblk:∀ wr,Chg (w.setCell ⟨m,1,none⟩ (.int .i64 (Go.RowKit.wrap64 (h - 1)))) wr (fun k=>k=sb∨(∃ s,l0.lookup s=some (.map (some k)))∨∃ s,(k,s)∈L)→∀ j,Cel w j→(∀ s,(j,s) ∉ L)→wr.heap[j]?=(w.setCell ⟨m,1,none⟩ (.int .i64 (Go.RowKit.wrap64 (h - 1)))).heap[j]?:=fun wr hch j hj hjL =>
  hch.block j (by simp only [World.setCell,Array.size_modify];exact hj.lt) (fun e=>by
   rcases e with e | e | ⟨s,e⟩
   · exact hs.ne hj (.inl e)
   · exact hs.ne hj (.inr e)
   · exact hjL s e)
 have HI:Hid (MAt w p g ws pl ws.length∧(∀ i x,ws[i]?=some x→sendsW x.1=true→(pl i,ofL x.1.sel)∈L)∧SndAt w sb l0 ps0∧Cel w b∧w.heap[m]?=some (.cells #[.slice p ws.length cap,.int .i64 h] 165)∧Pls bd w L pm0 Sd):=⟨hw,hpl,hs,hbc,hm,hP⟩
 have HL:Hid ((∀ s,(b,s) ∉ L)∧(∀ s,(m,s) ∉ L)∧(1≤ws.length→∀ s,(g,s) ∉ L)):=⟨hbL,hmL,hgL⟩
 have HB:Hid _:=hblk
 have hbl:=hbc.lt
 have hml:=hmc.lt
 clear hw hpl hs hbc hm hmc hgc hP hbL hmL hgL hblk
 go_enter Tryz.func83,Tryz.ntmps83
 go_wp2
 go_loopw [23] (fun i wr=>∃ (k:Nat) (l:List (ByteArray×Value)) (ps:Nat→List Nat) (pm:Nat→Mm),i=.int .i64 k∧k≤ws.length∧ThI bd (w.setCell ⟨m,1,none⟩ (.int .i64 (Go.RowKit.wrap64 (h - 1)))) wr sb l0 ps0 pm0 L Sd ws pl k l ps pm) (fun i _=>ws.length - (intOf i).toNat)
 case atStart =>
  obtain ⟨hw,hpl,hs0,hbc,hm,hP⟩:=HI.out
  have hmc:Cel w m:=⟨_,_,hm⟩
  have hne:=hs0.ne hmc
  refine ⟨0,l0,ps0,pm0,rfl,by omega,⟨hs0.chg ((Chg.refl w (fun k=>k=m)).setCell _ _ (fun _=>rfl)) (fun e=>hne (.inl e.symm)) (fun s ib hs e=>hne (.inr ⟨s,by subst e;exact hs⟩)) (fun s ib q hs hq e=>by subst e;exact hmc.setCell _ _),fun _ _ e=>e,fun s q=>⟨fun h=>⟨h,fun ⟨i,x,hi,_⟩=>by omega⟩,fun h=>h.1⟩,?_,fun s q ⟨i,x,hi,_⟩=>by omega,fun _ _=>rfl,Chg.refl _ _⟩⟩
  refine hP.same (fun k hk=>Below.heap_setCell _ _ _ _ (fun e=>?_))
  subst e
  exact not_plBlk hP hm (by decide) (by decide) hk
 case round =>
  obtain ⟨k,l,ps,pm,rfl,hk,hth⟩:=hrel
  obtain ⟨hw,hpl,hs0,hbc,hm,hP⟩:=HI.out
  have hblk:=HB.out wr hth.chg
  have hbr:wr.cell? ⟨b,5,none⟩=some (.map (some sb)):=(World.cell?_of_block (a:=⟨b,5,none⟩) ((hblk b hbc HL.out.1).trans (Below.heap_setCell w _ _ b hbm))).trans hb
  have hbrl:b < wr.heap.size:=World.block_lt_of_cell? wr ⟨b,5,none⟩ hbr
  have HR:Hid _:=hth
  clear hth
  by_cases hkn:k < ws.length
  · obtain ⟨x,hx⟩:∃ x,ws[k]?=some x:=⟨_,List.getElem?_eq_getElem hkn⟩
    obtain rfl:p=some ⟨g,0,none⟩:=hw.head (by omega)
    have hwr:=hw.same ((hblk g (hw.cel (by omega)) (HL.out.2.2 (by omega))).trans (Below.heap_setCell w _ _ g (hgm (by omega))))
    have hgl:=(hwr.cel (by omega)).lt
    have c0:=hwr.c0 k x hx
    have c1:=hwr.c1 k x hx
    have c2:=hwr.c2 k x hx
    have c3:=hwr.c3 k x hx
    have c4:=hwr.c4 k x hx
    have c5:=hwr.c5 k x hx
    have HX:Hid _:=hx
    cases hsd:sendsW x.1
    · have HS:Hid (sendsW x.1=false):=hsd
      rw [hsd,if_neg (by simp)] at c5
      clear hwr hw hpl hs0 hbc hm hblk hx hsd hb m0 m1 mf hP
      go_wp2
      go_roundw
      case rel=>exact ⟨k+1,l,ps,pm,by go_num,by omega,(HR.out.alloc _).pass HX.out HS.out⟩
      case measure=>simp [intOf] <;> omega
    · have HS:Hid (sendsW x.1=true):=hsd
      rw [hsd,if_pos ⟨hkn,rfl⟩] at c5
      have hpL:=hpl k x hx hsd
      have hq:=HR.out.pls.at_ _ _ hpL
      have q0:wr.cell? ⟨pl k,0,none⟩=some (pm (pl k)).val:=by simp only [World.cell?,hq];rfl
      have hqr:Cel wr (pl k):=⟨_,_,hq⟩
      have hqf:=fun o=>hqr.free o
      have hql:=hqr.lt
      have hqb:pl k≠b:=fun e=>HL.out.1 _ (by rw [← e];exact hpL)
      have hqg:pl k≠g:=fun e=>HL.out.2.2 (by omega) _ (by rw [← e];exact hpL)
      clear hwr hw hpl hs0 hbc hm hblk hx hsd hb m0 m1 mf hP hqr hq
      have HT:=HR.out.alloc (.cells #[.int .i64 (kindOf x.1.k:Nat),.int .i64 x.1.n,.string (ofL x.1.a),.string (ofL x.1.sel),.string (ofL x.1.b),.pointer (some ⟨pl k,0,none⟩)] 146)
      obtain ⟨v,W2,v2,n,lk1,dl1,lk2,ln2,hth2,hcel2,hzero⟩:=HT.go HX.out HS.out hpL
      have hz:=(MapKept.heap_alloc wr (.cells #[.int .i64 (kindOf x.1.k:Nat),.int .i64 x.1.n,.string (ofL x.1.a),.string (ofL x.1.sel),.string (ofL x.1.b),.pointer (some ⟨pl k,0,none⟩)] 146)).1
      have hz0:∀ j,wr.heap.size≠j→∀ v,((wr.alloc (.cells #[.int .i64 (kindOf x.1.k:Nat),.int .i64 x.1.n,.string (ofL x.1.a),.string (ofL x.1.sel),.string (ofL x.1.b),.pointer (some ⟨pl k,0,none⟩)] 146)).setCell ⟨j,0,none⟩ v).heap[wr.heap.size]?=_:=fun j hj v=>(Below.heap_setCell _ ⟨j,0,none⟩ v _ hj).trans hz
      have hzW2:=(hcel2 wr.heap.size ⟨_,_,hz⟩ (by omega)).trans hz
      have hbA:(wr.alloc (.cells #[.int .i64 (kindOf x.1.k:Nat),.int .i64 x.1.n,.string (ofL x.1.a),.string (ofL x.1.sel),.string (ofL x.1.b),.pointer (some ⟨pl k,0,none⟩)] 146)).cell? ⟨b,5,none⟩=some (.map (some sb)):=by go_keep
      have hb1:((wr.alloc (.cells #[.int .i64 (kindOf x.1.k:Nat),.int .i64 x.1.n,.string (ofL x.1.a),.string (ofL x.1.sel),.string (ofL x.1.b),.pointer (some ⟨pl k,0,none⟩)] 146)).setCell ⟨pl k,0,none⟩ Mm.only.val).cell? ⟨b,5,none⟩=some (.map (some sb)):=(World.cell?_of_block (a:=⟨b,5,none⟩) (Below.heap_setCell _ ⟨pl k,0,none⟩ _ b hqb.symm)).trans hbA
      have hbcW:Cel wr b:=cel_same' HI.out.2.2.2.1 (HB.out wr HR.out.chg b HI.out.2.2.2.1 HL.out.1) hbm
      have hb2:W2.cell? ⟨b,5,none⟩=some (.map (some sb)):=(World.cell?_of_block (a:=⟨b,5,none⟩) (hcel2 b (hbcW.alloc _) hqb.symm)).trans hbA
      have hz1:=hz0 (pl k) (by omega) Mm.only.val
      unfold pkey at dl1
      have HZ:Hid _:=hzero
      have HTH:Hid _:=hth2
      clear hzero hth2 hz0 hcel2 hz HT hbA hbcW
      have hov:Mm.only.val=.iface 206 (.agg #[]):=rfl
      have hpa:=World.setCell_alloc_past (w:=wr) (.cells #[.int .i64 (kindOf x.1.k:Nat),.int .i64 x.1.n,.string (ofL x.1.a),.string (ofL x.1.sel),.string (ofL x.1.b),.pointer (some ⟨pl k,0,none⟩)] 146) (pl k) 0 (.iface 206 (.agg #[])) hql
      rw [hov] at lk1 dl1 hb1 hz1
      rw [hpa] at lk1 dl1 hb1 hz1
      clear hpa
      go_wp2_with fail
      revert lk1 dl1 hb1 hz1
      generalize (wr.setCell ⟨pl k,0,none⟩ (.iface 206 (.agg #[]))).alloc (.cells #[.int .i64 (kindOf x.1.k:Nat),.int .i64 x.1.n,.string (ofL x.1.a),.string (ofL x.1.sel),.string (ofL x.1.b),.pointer (some ⟨pl k,0,none⟩)] 146)=W1
      clear c0 c1 c2 c3 c4 c5 hbr hbrl hgl q0 hqf hql hqg hqb
      revert hzW2
      generalize wr.heap.size=z
      intro hzW2 lk1 dl1 hb1 hz1
      have z3:W1.cell? ⟨z,3,none⟩=some (.string (ofL x.1.sel)):=by simp only [World.cell?,hz1];rfl
      have z5:W1.cell? ⟨z,5,none⟩=some (.pointer (some ⟨pl k,0,none⟩)):=by simp only [World.cell?,hz1];rfl
      have z3':W2.cell? ⟨z,3,none⟩=some (.string (ofL x.1.sel)):=by simp only [World.cell?,hzW2];rfl
      clear hz1 hzW2
      go_region
      clear lk1 dl1 z3 z5 hb1
      go_wp2_with fail
      go_region
      clear lk2 ln2
      by_cases hn0:n=0
      · obtain ⟨W3,hrun,hth3⟩:=HZ.out hn0
        have HTH3:Hid _:=hth3
        subst hn0
        clear hth3
        go_wp2_with fail
        go_region
        go_wp2
        go_roundw
        case rel =>
         obtain ⟨l',ps',pm',h3⟩:=HTH3.out
         exact ⟨k+1,l',ps',pm',by go_num,by omega,h3⟩
        case measure=>simp [intOf] <;> omega
      · have hn1:((n:Int)==0)=false:=beq_eq_false_iff_ne.2 (by omega)
        go_wp2
        go_roundw
        case rel =>
         obtain ⟨l',ps',pm',h3⟩:=HTH.out
         exact ⟨k+1,l',ps',pm',by go_num,by omega,h3.drew⟩
        case measure=>simp [intOf] <;> omega
  · obtain rfl:k=ws.length:=by omega
    clear hblk hw hpl hs0 hbc hbr hb m0 m1 mf hP hm
    go_wp2
    go_end0
    refine ⟨rfl,⟨l,ps,pm,HR.out⟩,?_⟩
    obtain ⟨hw,hpl,hs0,hbc,hm,hP⟩:=HI.out
    refine (HB.out _ HR.out.chg m ⟨_,_,hm⟩ HL.out.2.1).trans ?_
    simp only [World.setCell,Array.getElem?_modify,if_pos,hm];rfl
end Go.Proofs.YtkghmgoefiepeaaGreatDoor.reads
namespace Go.Proofs.YtkghmgoefiepeaaGreatDoor.reads
open Go.ChangeShapes Go.WideShapes Go.ChangeAt Go.RowKit Kn Go.Proofs.YtkghmgoefiepeaaGreatDoor.img
structure Md where
 ws:List (Kn.W×Nat)
 p:Option Addr
 g:Nat
 cap:Nat
 pl:Nat→Nat
structure Kc where
 np:Nat
 sb:Nat
 n:Nat
 l:List (ByteArray×Value)
 ps:Nat→List Nat
 L:List (Nat×ByteArray)
 pm:Nat→Mm
 R:Nat→Rw4
 Mk:Nat→Prop
 md:Nat→Md
structure MtAt (w:World) (L:List (Nat×ByteArray)) (k:Nat) (d:Md):Prop where
 blk:∃ h:Int,w.heap[k]?=some (.cells #[.slice d.p d.ws.length d.cap,.int .i64 h] 165)
 mat:MAt w d.p d.g d.ws d.pl d.ws.length
 len:d.ws.length≤40
 pls:∀ i x,d.ws[i]?=some x→sendsW x.1=true→(d.pl i,ofL x.1.sel)∈L
variable {w : World}
theorem MtAt.cel {L:List (Nat×ByteArray)}{k:Nat}{d:Md} (h:MtAt w L k d):Cel w k:=by obtain ⟨h,e⟩:=h.blk;exact ⟨_,_,e⟩
theorem MtAt.gk {L:List (Nat×ByteArray)}{k j:Nat}{d d':Md} (h:MtAt w L k d) (h':MtAt w L j d') (h1:1≤d'.ws.length):d'.g≠k:=by
 intro e
 obtain ⟨n,hb⟩:=h.blk
 obtain ⟨x,hx⟩:∃ x,d'.ws[0]?=some x:=⟨_,List.getElem?_eq_getElem (by omega)⟩
 have h0:=h'.mat.c0 0 x hx
 rw [e] at h0
 simp only [World.cell?,Nat.zero_mul,hb] at h0
 cases h0
theorem Pls.weaken {bd:Nat}{L:List (Nat×ByteArray)}{pm:Nat→Mm}{Sd Sd':ByteArray→Rw4→Prop} (h:Pls bd w L pm Sd) (hS:∀ p s r,(p,s)∈L→r∈(pm p).rows→Sd s r→Sd' s r):Pls bd w L pm Sd' :=
 ⟨h.b6,h.nd,h.at_,h.ok,fun p s r hp hr=>hS p s r hp hr (h.rows p s r hp hr),h.arr⟩
variable {w' : World}
theorem MtAt.same {L:List (Nat×ByteArray)}{k:Nat}{d:Md} (h:MtAt w L k d) (hk:w'.heap[k]?=w.heap[k]?) (hg:1≤d.ws.length→w'.heap[d.g]?=w.heap[d.g]?):MtAt w' L k d:=by
 obtain ⟨n,hb⟩:=h.blk
 refine ⟨⟨n,hk.trans hb⟩,?_,h.len,h.pls⟩
 by_cases h1:1≤d.ws.length
 · exact h.mat.same (hg h1)
 · have hno:∀ (i:Nat) (x:Kn.W×Nat),d.ws[i]?≠some x:=fun i x hx=>by have:=(List.getElem?_eq_some_iff.1 hx).1;omega
   exact ⟨fun h=>absurd h h1,fun h=>absurd h h1,fun i x hx=>absurd hx (hno i x),fun i x hx=>absurd hx (hno i x),fun i x hx=>absurd hx (hno i x),fun i x hx=>absurd hx (hno i x),fun i x hx=>absurd hx (hno i x),fun i x hx=>absurd hx (hno i x)⟩
structure Cor (w:World) (b:Nat) (K:Kc) (X:Nat→Prop) (Sd:ByteArray→Rw4→Prop) (Sr:Rw4→Prop):Prop where
 img:∃ cur,w.heap[b]?=some (.cells cur 70)
 b5:w.cell? ⟨b,5,none⟩=some (.map (some K.sb))
 snd:SndAt w K.sb K.l K.ps
 pls:Pls K.np w K.L K.pm Sd
 reg:∀ s p,Reg K.l K.ps s p→(p,s)∈K.L
 told:∀ p s,(p,s)∈K.L→Reg K.l K.ps s p∨K.pm p=.only∨X p
 tab:TabAt w b K.n K.R
 rows:∀ i,i < K.n→Sr (K.R i)
 mt:∀ k,K.Mk k→MtAt w K.L k (K.md k)
 gfr:∀ k,K.Mk k→1≤(K.md k).ws.length→¬ PlBlk K.L K.pm (K.md k).g
def CBlk (K:Kc) (k:Nat):Prop:=k=K.sb∨(∃ s,K.l.lookup s=some (.map (some k)))∨PlBlk K.L K.pm k∨K.Mk k
theorem Cor.lt {b:Nat}{K:Kc}{X:Nat→Prop}{Sd:ByteArray→Rw4→Prop}{Sr:Rw4→Prop} (h:Cor w b K X Sd Sr) {k:Nat} (hk:CBlk K k):k < w.heap.size:=by
 rcases hk with rfl | ⟨s,e⟩ | e | e
 · exact h.snd.map.lt
 · obtain ⟨ib,e1,e2,_⟩:=h.snd.inn s _ e
   injection e1 with e1;injection e1 with e1
   subst e1
   exact e2.lt
 · exact h.pls.lt k e
 · exact (h.mt k e).cel.lt
theorem Cor.weaken {b:Nat}{K:Kc}{X:Nat→Prop}{Sd Sd':ByteArray→Rw4→Prop}{Sr Sr':Rw4→Prop} (h:Cor w b K X Sd Sr) (h1:∀ s r,Sd s r→Sd' s r) (h2:∀ r,Sr r→Sr' r):Cor w b K X Sd' Sr' :=
 ⟨h.img,h.b5,h.snd,h.pls.weaken (fun _ s r _ _=>h1 s r),h.reg,h.told,h.tab,fun i hi=>h2 _ (h.rows i hi),h.mt,h.gfr⟩
theorem Cor.other {b:Nat}{K:Kc}{X:Nat→Prop}{Sd:ByteArray→Rw4→Prop}{Sr:Rw4→Prop} (h:Cor w b K X Sd Sr) {k:Nat}{cs:Array Value}{t:TypeId}{fz:Nat×Nat} (hk:w.heap[k]?=some (.cells cs t fz)) (h1:t≠198) (h2:t≠64) (h3:t≠165):¬ CBlk K k:=by
 rintro (e | ⟨s,e⟩ | e | e)
 · obtain ⟨_,_,hm,_⟩:=h.snd.map
   rw [← e,hk] at hm;cases hm
 · obtain ⟨ib,e1,e2,_⟩:=h.snd.inn s _ e
   injection e1 with e1;injection e1 with e1
   subst e1
   obtain ⟨_,_,hm,_⟩:=e2
   rw [hk] at hm;cases hm
 · exact not_plBlk h.pls hk h1 h2 e
 · obtain ⟨n,hb⟩:=(h.mt k e).blk
   rw [hk] at hb
   injection hb with hb
   injection hb with _ hb _
   exact h3 hb
theorem Cor.bn {b:Nat}{K:Kc}{X:Nat→Prop}{Sd:ByteArray→Rw4→Prop}{Sr:Rw4→Prop} (h:Cor w b K X Sd Sr):¬ CBlk K b:=by
 obtain ⟨cur,hc⟩:=h.img
 exact h.other hc (by decide) (by decide) (by decide)
theorem Cor.gn {b:Nat}{K:Kc}{X:Nat→Prop}{Sd:ByteArray→Rw4→Prop}{Sr:Rw4→Prop} (h:Cor w b K X Sd Sr) {k:Nat} (hk:K.Mk k) (h1:1≤(K.md k).ws.length):¬ CBlk K (K.md k).g∧(K.md k).g≠b:=by
 have hm:=h.mt k hk
 have hc:=hm.mat.cel h1
 refine ⟨?_,fun e=>?_⟩
 · rintro (e | e | e | e)
   · exact h.snd.ne hc (.inl e)
   · exact h.snd.ne hc (.inr e)
   · exact h.gfr k hk h1 e
   · exact (h.mt _ e).gk hm h1 rfl
 · obtain ⟨x,hx⟩:∃ x,(K.md k).ws[0]?=some x:=⟨_,List.getElem?_eq_getElem (by omega)⟩
   have h0:=hm.mat.c5 0 x hx
   rw [e] at h0
   simp only [Nat.zero_mul,Nat.zero_add] at h0
   rw [h.b5] at h0
   cases h0
theorem Cor.mapn {b:Nat}{K:Kc}{X:Nat→Prop}{Sd:ByteArray→Rw4→Prop}{Sr:Rw4→Prop} (h:Cor w b K X Sd Sr) {k:Nat}{es:Array MapEntry}{ck:Nat} (hk:w.heap[k]?=some (.map es ck)) (h1:k≠K.sb) (h2:∀ s,K.l.lookup s≠some (.map (some k))):¬ CBlk K k∧k≠b:=by
 refine ⟨?_,fun e=>?_⟩
 · rintro (e | ⟨s,e⟩ | e | e)
   · exact h1 e
   · exact h2 s e
   · exact not_plBlk_map h.pls hk e
   · obtain ⟨n,hb⟩:=(h.mt k e).blk
     rw [hk] at hb;cases hb
 · obtain ⟨cur,hc⟩:=h.img
   rw [← e,hk] at hc;cases hc
theorem Cor.same {b:Nat}{K:Kc}{X:Nat→Prop}{Sd:ByteArray→Rw4→Prop}{Sr:Rw4→Prop} (h:Cor w b K X Sd Sr) (hb:w'.heap[b]?=w.heap[b]?) (hk:∀ k,CBlk K k→w'.heap[k]?=w.heap[k]?) (hg:∀ k,K.Mk k→1≤(K.md k).ws.length→w'.heap[(K.md k).g]?=w.heap[(K.md k).g]?):Cor w' b K X Sd Sr:=by
 obtain ⟨cur,hc⟩:=h.img
 refine ⟨⟨cur,hb.trans hc⟩,(World.cell?_of_block hb).trans h.b5,⟨h.snd.map.same (hk _ (.inl rfl)),fun s v hv=>?_,h.snd.inj,fun s ib p hs hp=>?_⟩,h.pls.same (fun k e=>hk k (.inr (.inr (.inl e)))),h.reg,h.told,h.tab.same hb,h.rows,fun k e=>(h.mt k e).same (hk k (.inr (.inr (.inr e)))) (hg k e),h.gfr⟩
 · obtain ⟨ib,rfl,h4,h5⟩:=h.snd.inn s v hv
   exact ⟨ib,rfl,h4.same (hk _ (.inr (.inl ⟨s,hv⟩))),h5⟩
 · exact (h.snd.cel s ib p hs hp).same (hk p (.inr (.inr (.inl ⟨p,s,h.reg s p ⟨ib,hs,hp⟩,.inl rfl⟩))))
theorem Cor.chg {b:Nat}{K:Kc}{X:Nat→Prop}{Sd:ByteArray→Rw4→Prop}{Sr:Rw4→Prop}{S:Nat→Prop} (h:Cor w b K X Sd Sr) (hc:Chg w w' S) (hb:¬ S b) (hk:∀ k,CBlk K k→¬ S k) (hg:∀ k,K.Mk k→1≤(K.md k).ws.length→¬ S (K.md k).g):Cor w' b K X Sd Sr :=
 h.same (hc.block b h.tab.cel.lt hb) (fun k e=>hc.block k (h.lt e) (hk k e)) (fun k e h1=>hc.block _ ((h.mt k e).mat.cel h1).lt (hg k e h1))
theorem Cor.below {b:Nat}{K:Kc}{X:Nat→Prop}{Sd:ByteArray→Rw4→Prop}{Sr:Rw4→Prop} (h:Cor w b K X Sd Sr) (hb:Below w.heap.size w w'):Cor w' b K X Sd Sr :=
 h.chg (Chg.of_below hb (fun _=>False)) (fun e=>e) (fun _ _ e=>e) (fun _ _ _ e=>e)
theorem wrap_one:Go.RowKit.wrap64 (0+1)≤1:=by unfold Go.RowKit.wrap64;omega
theorem addHome_cor {b:Nat}{K:Kc}{X:Nat→Prop}{Sd:ByteArray→Rw4→Prop}{Sr:Rw4→Prop} (h:Cor w b K X Sd Sr) {k:Nat} (hk:K.Mk k)
 (hX:(∀ p,¬ X p)∨(w.cell? ⟨k,1,none⟩=some (.int .i64 0)∧∀ p,X p→∃ i x,(K.md k).ws[i]?=some x∧sendsW x.1=true∧p=(K.md k).pl i)) :
 Calls Tryz.prog 82 #[.pointer (some ⟨b,0,none⟩),.pointer (some ⟨k,0,none⟩)] w fun e w'=>e=.returned (.tuple #[])∧∃ l ps,Cor w' b { K with l:=l,ps:=ps } (fun _=>False) Sd Sr ∧
  (∀ s ib,l.lookup s=some (.map (some ib))→K.l.lookup s=some (.map (some ib))∨w.heap.size≤ib)∧Chg w w' (CBlk K):=by
 have hm:=h.mt k hk
 obtain ⟨n,hb⟩:=hm.blk
 have hbk:b≠k:=fun e=>h.bn (by rw [e];exact .inr (.inr (.inr hk)))
 have hg1:1≤(K.md k).ws.length→(K.md k).g≠k:=fun h1 e=>(h.gn hk h1).1 (by rw [e];exact .inr (.inr (.inr hk)))
 by_cases hh:Go.RowKit.wrap64 (n+1)≤1
 · refine (addHome_first b k K.sb (K.md k).g (K.md k).cap (K.md k).p (K.md k).ws (K.md k).pl K.l K.ps n w hm.len hh h.b5 h.tab.cel hb hbk hg1 hm.mat (fun i x hx hs=>h.pls.cel (hm.pls i x hx hs)) h.snd).mono ?_
   rintro e w' ⟨rfl,l,ps,hs',hnew,hreg,hm',hch⟩
   have hch':Chg w w' (CBlk K):=hch.mono (fun j _ e=>by
    rcases e with e | e | e
    · subst e;exact .inr (.inr (.inr hk))
    · exact .inl e
    · exact .inr (.inl e))
   have hblk:∀ j,Cel w j→j≠k→w'.heap[j]?=w.heap[j]?:=fun j hj hjk=>hch.block j hj.lt (fun e=>by
    rcases e with e | e | e
    · exact hjk e
    · exact h.snd.ne hj (.inl e)
    · exact h.snd.ne hj (.inr e))
   have hbb:=hblk b h.tab.cel hbk
   have hkp:¬ PlBlk K.L K.pm k:=not_plBlk h.pls hb (by decide) (by decide)
   obtain ⟨cur,hcur⟩:=h.img
   refine ⟨rfl,l,ps,⟨⟨cur,hbb.trans hcur⟩,(World.cell?_of_block hbb).trans h.b5,hs',h.pls.same (fun j hj=>hblk j ?_ (fun e=>hkp (by rw [← e];exact hj))),fun s p hr=>?_,fun p s hps=>?_,h.tab.same hbb,h.rows,fun j hj=>?_,h.gfr⟩,hnew,hch'⟩
   · rcases hj with ⟨p,s,hps,e | e⟩
     · subst e;exact h.pls.cel hps
     · obtain ⟨cr,hcr⟩:=h.pls.arrCel hps e;exact ⟨_,_,hcr⟩
   · rcases (hreg s p).1 hr with e | ⟨i,x,hx,hsx,e1,e2⟩
     · exact h.reg s p e
     · subst e1 e2;exact hm.pls i x hx hsx
   · rcases h.told p s hps with e | e | e
     · exact .inl ((hreg s p).2 (.inl e))
     · exact .inr (.inl e)
     · rcases hX with hX | ⟨_,hX⟩
       · exact absurd e (hX p)
       · obtain ⟨i,x,hx,hsx,rfl⟩:=hX p e
         exact .inl ((hreg s _).2 (.inr ⟨i,x,hx,hsx,h.pls.one (hm.pls i x hx hsx) hps,rfl⟩))
   · by_cases e:j=k
     · subst e
       have hgb:1≤(K.md j).ws.length→w'.heap[(K.md j).g]?=w.heap[(K.md j).g]?:=fun h1=>hblk _ (hm.mat.cel h1) (hg1 h1)
       have:=hm.same (w':=w') (k:=j) (d:=K.md j)
       refine ⟨⟨_,hm'⟩,?_,hm.len,hm.pls⟩
       by_cases h1:1≤(K.md j).ws.length
       · exact hm.mat.same (hgb h1)
       · have hno:∀ (i:Nat) (x:Kn.W×Nat),(K.md j).ws[i]?≠some x:=fun i x hx=>by have:=(List.getElem?_eq_some_iff.1 hx).1;omega
         exact ⟨fun h=>absurd h h1,fun h=>absurd h h1,fun i x hx=>absurd hx (hno i x),fun i x hx=>absurd hx (hno i x),fun i x hx=>absurd hx (hno i x),fun i x hx=>absurd hx (hno i x),fun i x hx=>absurd hx (hno i x),fun i x hx=>absurd hx (hno i x)⟩
     · exact (h.mt j hj).same (hblk j (h.mt j hj).cel e) (fun h1=>hblk _ ((h.mt j hj).mat.cel h1) (fun e'=>(h.gn hj h1).1 (by rw [e'];exact .inr (.inr (.inr hk)))))
 · have hX0:∀ p,¬ X p:=by
    rcases hX with hX | ⟨h0,_⟩
    · exact hX
    · have:w.cell? ⟨k,1,none⟩=some (.int .i64 n):=by simp only [World.cell?,hb];rfl
      rw [this] at h0
      injection h0 with h0
      injection h0 with _ h0
      subst h0
      exact absurd wrap_one hh
   refine (homes_add b k _ n w (by omega) hb).mono ?_
   rintro e w' ⟨rfl,rfl⟩
   have hsk:∀ j,j≠k→(w.setCell ⟨k,1,none⟩ (.int .i64 (Go.RowKit.wrap64 (n+1)))).heap[j]?=w.heap[j]?:=fun j hj=>Below.heap_setCell _ _ _ _ hj
   have hmk:MtAt (w.setCell ⟨k,1,none⟩ (.int .i64 (Go.RowKit.wrap64 (n+1)))) K.L k (K.md k):=by
    have h2:=hm.mat
    refine ⟨⟨Go.RowKit.wrap64 (n+1),by simp only [World.setCell,Array.getElem?_modify,if_pos,hb];rfl⟩,?_,hm.len,hm.pls⟩
    by_cases h1:1≤(K.md k).ws.length
    · exact hm.mat.same (hsk _ (hg1 h1))
    · have hno:∀ (i:Nat) (x:Kn.W×Nat),(K.md k).ws[i]?≠some x:=fun i x hx=>by have:=(List.getElem?_eq_some_iff.1 hx).1;omega
      exact ⟨fun h=>absurd h h1,fun h=>absurd h h1,fun i x hx=>absurd hx (hno i x),fun i x hx=>absurd hx (hno i x),fun i x hx=>absurd hx (hno i x),fun i x hx=>absurd hx (hno i x),fun i x hx=>absurd hx (hno i x),fun i x hx=>absurd hx (hno i x)⟩
   obtain ⟨cur,hcur⟩:=h.img
   have hkp:¬ PlBlk K.L K.pm k:=not_plBlk h.pls hb (by decide) (by decide)
   have hkc:Cel w k:=⟨_,_,hb⟩
   refine ⟨rfl,K.l,K.ps,⟨⟨cur,(hsk b hbk).trans hcur⟩,(World.cell?_of_block (hsk b hbk)).trans h.b5,h.snd.chg ((Chg.refl w (fun j=>j=k)).setCell _ _ (fun _=>rfl)) (fun e=>h.snd.ne hkc (.inl e.symm)) (fun s ib hs e=>h.snd.ne hkc (.inr ⟨s,by subst e;exact hs⟩)) (fun s ib q hs hq e=>by subst e;exact hkc.setCell _ _),h.pls.same (fun j hj=>hsk j (fun e=>hkp (by rw [← e];exact hj))),h.reg,fun p s hps=>?_,h.tab.same (hsk b hbk),h.rows,fun j hj=>?_,h.gfr⟩,fun s ib e=>.inl e,(Chg.refl w _).setCell _ _ (fun _=>.inr (.inr (.inr hk)))⟩
   · rcases h.told p s hps with e | e | e
     · exact .inl e
     · exact .inr (.inl e)
     · exact absurd e (hX0 p)
   · by_cases e:j=k
     · subst e;exact hmk
     · exact (h.mt j hj).same (hsk j e) (fun h1=>hsk _ (fun e'=>(h.gn hj h1).1 (by rw [e'];exact .inr (.inr (.inr hk)))))
theorem MtAt.homes {L:List (Nat×ByteArray)}{k:Nat}{d:Md} (hm:MtAt w L k d) {n:Int} (hb:w'.heap[k]?=some (.cells #[.slice d.p d.ws.length d.cap,.int .i64 n] 165)) (hg:1≤d.ws.length→w'.heap[d.g]?=w.heap[d.g]?):MtAt w' L k d:=by
 refine ⟨⟨n,hb⟩,?_,hm.len,hm.pls⟩
 by_cases h1:1≤d.ws.length
 · exact hm.mat.same (hg h1)
 · have hno:∀ (i:Nat) (x:Kn.W×Nat),d.ws[i]?≠some x:=fun i x hx=>by have:=(List.getElem?_eq_some_iff.1 hx).1;omega
   exact ⟨fun h=>absurd h h1,fun h=>absurd h h1,fun i x hx=>absurd hx (hno i x),fun i x hx=>absurd hx (hno i x),fun i x hx=>absurd hx (hno i x),fun i x hx=>absurd hx (hno i x),fun i x hx=>absurd hx (hno i x),fun i x hx=>absurd hx (hno i x)⟩
theorem takeHome_cor {b:Nat}{K:Kc}{Sd:ByteArray→Rw4→Prop}{Sr:Rw4→Prop} (h:Cor w b K (fun _=>False) Sd Sr) {k:Nat} (hk:K.Mk k) :
 Calls Tryz.prog 83 #[.pointer (some ⟨b,0,none⟩),.pointer (some ⟨k,0,none⟩)] w fun e w'=>e=.returned (.tuple #[])∧∃ l ps pm,Cor w' b { K with l:=l,ps:=ps,pm:=pm } (fun _=>False) Sd Sr ∧
  (∀ s ib,l.lookup s=some (.map (some ib))→K.l.lookup s=some (.map (some ib)))∧(∀ p q,(pm p).arr=some q→(K.pm p).arr=some q)∧Chg w w' (CBlk K):=by
 have hm:=h.mt k hk
 obtain ⟨n,hb⟩:=hm.blk
 have hkC:CBlk K k:=.inr (.inr (.inr hk))
 have hbk:b≠k:=fun e=>h.bn (by rw [e];exact hkC)
 have hg1:1≤(K.md k).ws.length→(K.md k).g≠k:=fun h1 e=>(h.gn hk h1).1 (by rw [e];exact hkC)
 have hkp:¬ PlBlk K.L K.pm k:=not_plBlk h.pls hb (by decide) (by decide)
 have hkc:Cel w k:=⟨_,_,hb⟩
 have hsk:∀ v j,j≠k→(w.setCell ⟨k,1,none⟩ v).heap[j]?=w.heap[j]?:=fun v j hj=>Below.heap_setCell _ _ _ _ hj
 obtain ⟨cur,hcur⟩:=h.img
 by_cases hh:Go.RowKit.wrap64 (n - 1)≤0
 · refine (takeHome_last b k K.sb (K.md k).g (K.md k).cap (K.md k).p (K.md k).ws (K.md k).pl K.l K.ps K.L K.pm Sd n w hm.len hh h.b5 h.tab.cel hb hbk hg1 hm.mat hm.pls h.snd h.pls).mono ?_
   rintro e w' ⟨rfl,⟨l,ps,pm,ht⟩,hm'⟩
   have hch:Chg w w' (fun j=>j=k∨j=K.sb∨(∃ s,K.l.lookup s=some (.map (some j)))∨∃ s,(j,s)∈K.L):=((Chg.refl w (fun j=>j=k∨j=K.sb∨(∃ s,K.l.lookup s=some (.map (some j)))∨∃ s,(j,s)∈K.L)).setCell _ _ (fun _=>.inl rfl)).then ht.chg (fun j _ e=>.inr e)
   have hch':Chg w w' (CBlk K):=hch.mono (fun j _ e=>by
    rcases e with e | e | e | ⟨s,e⟩
    · subst e;exact hkC
    · exact .inl e
    · exact .inr (.inl e)
    · exact .inr (.inr (.inl ⟨j,s,e,.inl rfl⟩)))
   have hbb:w'.heap[b]?=w.heap[b]?:=hch'.block b h.tab.cel.lt h.bn
   have hpm:∀ p,pm p=.only∨pm p=K.pm p:=fun p=>by
    by_cases e:∃ s,Sends (K.md k).ws (K.md k).pl (K.md k).ws.length s p
    · obtain ⟨s,e⟩:=e;exact .inl (ht.only s p e)
    · exact .inr (ht.keep p (fun s e'=>e ⟨s,e'⟩))
   have harr:∀ p q,(pm p).arr=some q→(K.pm p).arr=some q:=fun p q e=>by
    rcases hpm p with e' | e'
    · rw [e'] at e;cases e
    · rw [e'] at e;exact e
   have hpb:∀ j,PlBlk K.L pm j→PlBlk K.L K.pm j:=by
    rintro j ⟨p,s,hps,e | e⟩
    · exact ⟨p,s,hps,.inl e⟩
    · exact ⟨p,s,hps,.inr (harr p j e)⟩
   refine ⟨rfl,l,ps,pm,⟨⟨cur,hbb.trans hcur⟩,(World.cell?_of_block hbb).trans h.b5,ht.snd,ht.pls,fun s p hr=>h.reg s p ((ht.reg s p).1 hr).1,fun p s hps=>?_,h.tab.same hbb,h.rows,fun j hj=>?_,fun j hj h1 e=>h.gfr j hj h1 (hpb _ e)⟩,ht.sub,harr,hch'⟩
   · by_cases e:∃ t,Sends (K.md k).ws (K.md k).pl (K.md k).ws.length t p
     · obtain ⟨t,e⟩:=e;exact .inr (.inl (ht.only t p e))
     · rcases h.told p s hps with e1 | e1 | e1
       · exact .inl ((ht.reg s p).2 ⟨e1,fun e'=>e ⟨s,e'⟩⟩)
       · rcases hpm p with e' | e'
         · exact .inr (.inl e')
         · exact .inr (.inl (e'.trans e1))
       · exact e1.elim
   · have hgb:1≤(K.md j).ws.length→w'.heap[(K.md j).g]?=w.heap[(K.md j).g]?:=fun h1=>hch'.block _ ((h.mt j hj).mat.cel h1).lt (h.gn hj h1).1
     by_cases e:j=k
     · subst e;exact hm.homes hm' hgb
     · refine (h.mt j hj).same (hch.block j (h.mt j hj).cel.lt (fun e'=>?_)) hgb
       obtain ⟨n',hb'⟩:=(h.mt j hj).blk
       rcases e' with e' | e' | e' | ⟨s,e'⟩
       · exact e e'
       · exact h.snd.ne (h.mt j hj).cel (.inl e')
       · exact h.snd.ne (h.mt j hj).cel (.inr e')
       · exact not_plBlk h.pls hb' (by decide) (by decide) ⟨j,s,e',.inl rfl⟩
 · refine (homes_more b k 0 _ n w (by omega) hb).mono ?_
   rintro e w' ⟨rfl,rfl⟩
   have hmk:MtAt (w.setCell ⟨k,1,none⟩ (.int .i64 (Go.RowKit.wrap64 (n - 1)))) K.L k (K.md k):=hm.homes (n:=Go.RowKit.wrap64 (n - 1)) (by simp only [World.setCell,Array.getElem?_modify,if_pos,hb];rfl) (fun h1=>hsk _ _ (hg1 h1))
   refine ⟨rfl,K.l,K.ps,K.pm,⟨⟨cur,(hsk _ b hbk).trans hcur⟩,(World.cell?_of_block (hsk _ b hbk)).trans h.b5,h.snd.chg ((Chg.refl w (fun j=>j=k)).setCell _ _ (fun _=>rfl)) (fun e=>h.snd.ne hkc (.inl e.symm)) (fun s ib hs e=>h.snd.ne hkc (.inr ⟨s,by subst e;exact hs⟩)) (fun s ib q hs hq e=>by subst e;exact hkc.setCell _ _),h.pls.same (fun j hj=>hsk _ j (fun e=>hkp (by rw [← e];exact hj))),h.reg,h.told,h.tab.same (hsk _ b hbk),h.rows,fun j hj=>?_,h.gfr⟩,fun s ib e=>e,fun p q e=>e,(Chg.refl w _).setCell _ _ (fun _=>hkC)⟩
   by_cases e:j=k
   · subst e;exact hmk
   · exact (h.mt j hj).same (hsk _ j e) (fun h1=>hsk _ _ (fun e'=>(h.gn hj h1).1 (by rw [e'];exact hkC)))
theorem Cor.forgot {b:Nat}{K:Kc}{Sd Sd':ByteArray→Rw4→Prop}{Sr Sr':Rw4→Prop} (h:Cor w b K (fun _=>False) Sd Sr) {pm':Nat→Mm}{R':Nat→Rw4} (hP:Pls K.np w' K.L pm' Sd') (hT:TabAt w' b K.n R') (hr:∀ i,i < K.n→Sr' (R' i))
 (ho:∀ p s,(p,s)∈K.L→K.pm p=.only→Reg K.l K.ps s p∨pm' p=.only) (ha:∀ p q,(pm' p).arr=some q→(K.pm p).arr=some q) (hc:Chg w w' (fun k=>k=b∨PlBlk K.L K.pm k)) (hd:SameHd w w' b):Cor w' b { K with pm:=pm',R:=R' } (fun _=>False) Sd' Sr':=by
 have hpb:∀ j,PlBlk K.L pm' j→PlBlk K.L K.pm j:=by
  rintro j ⟨p,s,hps,e | e⟩
  · exact ⟨p,s,hps,.inl e⟩
  · exact ⟨p,s,hps,.inr (ha p j e)⟩
 have hmap:∀ (k:Nat) (es:Array MapEntry) (ck:Nat),w.heap[k]?=some (.map es ck)→w'.heap[k]?=w.heap[k]?:=fun k es ck hk=>hc.block k (Array.getElem?_eq_some_iff.1 hk).1 (fun e=>by
  rcases e with e | e
  · obtain ⟨cur,hcur⟩:=h.img
    rw [← e,hk] at hcur;cases hcur
  · exact not_plBlk_map h.pls hk e)
 refine ⟨hd.typ _ h.img,(hd.cell 5 (by omega)).trans h.b5,⟨?_,fun s v hv=>?_,h.snd.inj,fun s ib p hs hp=>hP.cel (h.reg s p ⟨ib,hs,hp⟩)⟩,hP,h.reg,fun p s hps=>?_,hT,hr,fun k hk=>?_,fun k hk h1 e=>h.gfr k hk h1 (hpb _ e)⟩
 · obtain ⟨es,ck,hm,_⟩:=h.snd.map
   exact h.snd.map.same (hmap _ _ _ hm)
 · obtain ⟨ib,rfl,h4,h5⟩:=h.snd.inn s v hv
   obtain ⟨es,ck,hm,hx⟩:=id h4
   exact ⟨ib,rfl,h4.same (hmap _ _ _ hm),h5⟩
 · rcases h.told p s hps with e | e | e
   · exact .inl e
   · rcases ho p s hps e with e | e
     · exact .inl e
     · exact .inr (.inl e)
   · exact e.elim
 · have hm:=h.mt k hk
   obtain ⟨n,hb⟩:=hm.blk
   refine hm.same (hc.block k hm.cel.lt (fun e=>?_)) (fun h1=>hc.block _ (hm.mat.cel h1).lt (fun e=>?_))
   · rcases e with e | e
     · exact h.bn (by rw [← e];exact .inr (.inr (.inr hk)))
     · exact not_plBlk h.pls hb (by decide) (by decide) e
   · rcases e with e | e
     · exact (h.gn hk h1).2 e
     · exact h.gfr k hk h1 e
theorem changed_cor {b:Nat}{K:Kc}{Sd:ByteArray→Rw4→Prop}{Sr:Rw4→Prop} (h:Cor w b K (fun _=>False) Sd Sr) (m:Im) (cb cm:Nat→Nat) (c0:Nat) (sel:ByteArray) (hm:ImOk m) (hc0:c0 < m.kl.length) (hcl:Cls w m cb cm)
 (hQ:∀ s r,Sd s r→RowQ m cb r∧r.sel=s) (hR:∀ r,Sr r→RowQ m cb r) :
 Calls Tryz.prog 84 #[.pointer (some ⟨b,0,none⟩),.pointer (some ⟨cb c0,0,none⟩),.string sel] w fun e w'=>e=.returned (.tuple #[])∧∃ pm R,Cor w' b { K with pm:=pm,R:=R } (fun _=>False) (fun s r=>Sd s r∧leanM m cb c0 sel r=false) (fun r=>(Sr r∧leanM m cb c0 sel r=false)∨r=noRow) ∧
  (∀ p q,(pm p).arr=some q→(K.pm p).arr=some q)∧Chg w w' (fun k=>k=b∨PlBlk K.L K.pm k)∧SameHd w w' b:=by
 obtain ⟨cur,hcur⟩:=h.img
 refine (changed_any m cb cm b c0 K.sb K.n cur K.l K.ps K.R K.L K.pm Sd sel w hm hc0 hcur h.b5 h.snd h.tab hcl h.pls h.reg (fun s r hr=>(hQ s r hr).1) (fun i hi=>hR _ (h.rows i hi))).mono ?_
 rintro e w' ⟨rfl,pm',hP,hf1,hf2,hT,hch,hd⟩
 have ha:∀ p q,(pm' p).arr=some q→(K.pm p).arr=some q:=fun p q e=>by
  by_cases hr:Reg K.l K.ps sel p
  · rw [hf1 p hr] at e
    rcases Mm.forget_arr (leanM m cb c0 sel) (K.pm p) with h1 | h1
    · rw [h1] at e;cases e
    · rw [h1] at e;exact e
  · rw [hf2 p hr] at e;exact e
 refine ⟨rfl,pm',_,h.forgot (hP.weaken (fun p s r hps hr hsd=>⟨hsd,?_⟩)) hT (fun i hi=>?_) (fun p s hps e=>.inr ?_) ha hch hd,ha,hch,hd⟩
 · by_cases hg:Reg K.l K.ps sel p
   · rw [hf1 p hg] at hr
     exact (Mm.forget_rows hr).2
   · rw [hf2 p hg] at hr
     rcases h.told p s hps with e | e | e
     · have hss:=(hQ s r hsd).2
       unfold leanM
       have:¬ r.sel=sel:=fun e'=>hg (by rw [← e',hss];exact e)
       simp [this]
     · rw [e] at hr;cases hr
     · exact e.elim
 · by_cases e:i < K.n∧leanM m cb c0 sel (K.R i)=true
   · rw [if_pos e];exact .inr rfl
   · rw [if_neg e]
     refine .inl ⟨h.rows i hi,?_⟩
     cases hl:leanM m cb c0 sel (K.R i) with
     | false=>rfl
     | true=>exact absurd ⟨hi,hl⟩ e
 · by_cases hg:Reg K.l K.ps sel p
   · rw [hf1 p hg];exact Mm.forget_only.2 e
   · rw [hf2 p hg];exact e
theorem give_wp (b c cm k:Nat) (had:Option Nat) (sel:ByteArray) (w w1:World) (P2 P3 R:World→Prop) (hc:w.cell? ⟨c,4,none⟩=some (.map (some cm)))
 (lk:(Instr.lookup 99 (.map (some cm)) (.string sel) false).run Tryz.prog w=.ok (.pointer (cptr had)) w)
 (hrun:(Instr.mapUpdate 99 (.map (some cm)) (.string sel) (.pointer (some ⟨k,0,none⟩))).run Tryz.prog w=.ok () w1)
 (hadd:Calls Tryz.prog 82 #[.pointer (some ⟨b,0,none⟩),.pointer (some ⟨k,0,none⟩)] w1 fun e w2=>e=.returned (.tuple #[])∧P2 w2)
 (h0:had=none→∀ w2,P2 w2→P3 w2)
 (h1:∀ k0,had=some k0→∀ w2,P2 w2→Calls Tryz.prog 83 #[.pointer (some ⟨b,0,none⟩),.pointer (some ⟨k0,0,none⟩)] w2 fun e w3=>e=.returned (.tuple #[])∧P3 w3)
 (hch:∀ w3,P3 w3→Calls Tryz.prog 84 #[.pointer (some ⟨b,0,none⟩),.pointer (some ⟨c,0,none⟩),.string sel] w3 fun e w'=>e=.returned (.tuple #[])∧R w') :
 Calls Tryz.prog 44 #[.pointer (some ⟨b,0,none⟩),.pointer (some ⟨c,0,none⟩),.string sel,.pointer (some ⟨k,0,none⟩)] w fun e w'=>e=.returned (.tuple #[])∧R w':=by
 go_enter Tryz.func44,Tryz.ntmps44
 go_wp2_with fail
 refine hadd.mono ?_
 rintro e w2 ⟨rfl,hP2⟩
 cases had with
 | none =>
  simp only [cptr,Option.map_none]
  have hcall:=hch w2 (h0 rfl w2 hP2)
  go_wp2_with fail
  refine hcall.mono ?_
  rintro e w3 ⟨rfl,hR⟩
  go_wp2
  go_end0
  exact ⟨rfl,hR⟩
 | some k0 =>
  simp only [cptr,Option.map_some]
  have hcall:=h1 k0 rfl w2 hP2
  go_wp2_with fail
  refine hcall.mono ?_
  rintro e w3 ⟨rfl,hP3⟩
  have hcall2:=hch w3 hP3
  go_wp2_with fail
  refine hcall2.mono ?_
  rintro e w4 ⟨rfl,hR⟩
  go_wp2
  go_end0
  exact ⟨rfl,hR⟩
theorem takeAway_wp (b c cm k:Nat) (sel:ByteArray) (w w1:World) (P3 R:World→Prop) (hc:w.cell? ⟨c,4,none⟩=some (.map (some cm)))
 (lk:(Instr.lookup 99 (.map (some cm)) (.string sel) false).run Tryz.prog w=.ok (.pointer (some ⟨k,0,none⟩)) w)
 (hrun:∀ t2 ty,(Builtin.delete_ #[99,t2] ty #[.map (some cm),.string sel]).run Tryz.prog w=.ok (.tuple #[]) w1)
 (h1:Calls Tryz.prog 83 #[.pointer (some ⟨b,0,none⟩),.pointer (some ⟨k,0,none⟩)] w1 fun e w3=>e=.returned (.tuple #[])∧P3 w3)
 (hch:∀ w3,P3 w3→Calls Tryz.prog 84 #[.pointer (some ⟨b,0,none⟩),.pointer (some ⟨c,0,none⟩),.string sel] w3 fun e w'=>e=.returned (.tuple #[])∧R w') :
 Calls Tryz.prog 49 #[.pointer (some ⟨b,0,none⟩),.pointer (some ⟨c,0,none⟩),.string sel] w fun e w'=>e=.returned (.tuple #[])∧R w':=by
 go_enter Tryz.func49,Tryz.ntmps49
 go_wp2_with fail
 refine h1.mono ?_
 rintro e w2 ⟨rfl,hP2⟩
 have hcall:=hch w2 hP2
 go_wp2_with fail
 refine hcall.mono ?_
 rintro e w3 ⟨rfl,hR⟩
 go_wp2
 go_end0
 exact ⟨rfl,hR⟩
theorem CBlk.old {K:Kc}{l:List (ByteArray×Value)}{ps:Nat→List Nat}{pm:Nat→Mm}{R:Nat→Rw4}{N j:Nat} (h:CBlk { K with l:=l,ps:=ps,pm:=pm,R:=R } j) (hl:∀ s ib,l.lookup s=some (.map (some ib))→K.l.lookup s=some (.map (some ib))∨N≤ib) (ha:∀ p q,(pm p).arr=some q→(K.pm p).arr=some q∨N≤q):CBlk K j∨N≤j:=by
 rcases h with e | ⟨s,e⟩ | ⟨p,s,hps,e | e⟩ | e
 · exact .inl (.inl e)
 · rcases hl s j e with e | e
   · exact .inl (.inr (.inl ⟨s,e⟩))
   · exact .inr e
 · exact .inl (.inr (.inr (.inl ⟨p,s,hps,.inl e⟩)))
 · rcases ha p j e with e | e
   · exact .inl (.inr (.inr (.inl ⟨p,s,hps,.inr e⟩)))
   · exact .inr e
 · exact .inl (.inr (.inr (.inr e)))
variable {m : Im}
theorem Cor.clsn {b:Nat}{K:Kc}{X:Nat→Prop}{Sd:ByteArray→Rw4→Prop}{Sr:Rw4→Prop} (h:Cor w b K X Sd Sr) {cb cm:Nat→Nat} (hcl:Cls w m cb cm) {c:Nat} (hc:c < m.kl.length):¬ CBlk K (cb c)∧cb c≠b:=by
 have h1:=hcl.at_ c _ (List.getElem?_eq_getElem hc)
 refine ⟨h.other h1 (by decide) (by decide) (by decide),fun e=>?_⟩
 obtain ⟨cur,hcur⟩:=h.img
 rw [e,hcur] at h1
 injection h1 with h1
 injection h1 with _ h1 _
 revert h1
 decide
theorem Cls.meth {cb cm:Nat→Nat} (h:Cls w m cb cm) {c:Nat} (hc:c < m.kl.length):w.cell? ⟨cb c,4,none⟩=some (.map (some (cm c))):=by
 have:=h.at_ c _ (List.getElem?_eq_getElem hc)
 simp only [World.cell?,this];rfl
theorem Cls.chg {cb cm:Nat→Nat}{S:Nat→Prop} (h:Cls w m cb cm) (hc:Chg w w' S) (hS:∀ c,c < m.kl.length→¬ S (cb c)):Cls w' m cb cm:=h.same (fun c hcl=>hc.block _ (h.cel hcl).lt (hS c hcl))
structure Kept (N:Nat) (K:Kc) (l:List (ByteArray×Value)) (pm:Nat→Mm):Prop where
 l:∀ s ib,l.lookup s=some (.map (some ib))→K.l.lookup s=some (.map (some ib))∨N≤ib
 arr:∀ p q,(pm p).arr=some q→(K.pm p).arr=some q∨N≤q
theorem give_cor {b:Nat}{K:Kc}{X:Nat→Prop}{Sd:ByteArray→Rw4→Prop}{Sr:Rw4→Prop} (h:Cor w b K X Sd Sr) (m:Im) (cb cm:Nat→Nat) (c0 k:Nat) (sel:ByteArray) (lm:List (ByteArray×Value)) (had:Option Nat) (hm:ImOk m) (hc0:c0 < m.kl.length) (hcl:Cls w m cb cm)
 (hlm:SMap w (cm c0) lm) (hcs:cm c0≠K.sb) (hci:∀ s,K.l.lookup s≠some (.map (some (cm c0)))) (hk:K.Mk k)
 (hX:(∀ p,¬ X p)∨(w.cell? ⟨k,1,none⟩=some (.int .i64 0)∧∀ p,X p→∃ i x,(K.md k).ws[i]?=some x∧sendsW x.1=true∧p=(K.md k).pl i))
 (hhad:lm.lookup sel=had.map (fun k=>.pointer (some ⟨k,0,none⟩))) (hhk:∀ k0,had=some k0→K.Mk k0) (hQ:∀ s r,Sd s r→RowQ m cb r∧r.sel=s) (hR:∀ r,Sr r→RowQ m cb r) :
 Calls Tryz.prog 44 #[.pointer (some ⟨b,0,none⟩),.pointer (some ⟨cb c0,0,none⟩),.string sel,.pointer (some ⟨k,0,none⟩)] w fun e w'=>e=.returned (.tuple #[])∧∃ l ps pm R,Cor w' b { K with l:=l,ps:=ps,pm:=pm,R:=R } (fun _=>False) (fun s r=>Sd s r∧leanM m cb c0 sel r=false) (fun r=>(Sr r∧leanM m cb c0 sel r=false)∨r=noRow) ∧
  SMap w' (cm c0) (put lm sel (.pointer (some ⟨k,0,none⟩)))∧Kept w.heap.size K l pm∧Chg w w' (fun j=>j=b∨j=cm c0∨CBlk K j)∧SameHd w w' b:=by
 have lk:=lookup_mth w (cm c0) lm hlm sel
 have hlk:((lm.lookup sel).getD (.pointer none))=.pointer (cptr had):=by rw [hhad];cases had <;> rfl
 rw [hlk] at lk
 obtain ⟨w1,hrun,hm1,hg1,hsz1⟩:=run_put (P:=Tryz.prog) hlm Tryz.underlying99 Tryz.underlying9 sel (.pointer (some ⟨k,0,none⟩))
 obtain ⟨es,ck,hmb,_⟩:=id hlm
 obtain ⟨hn1,hn2⟩:=h.mapn hmb hcs hci
 have hc1:Chg w w1 (fun j=>j=cm c0):=Chg.of_grown hg1
 have hK1:Cor w1 b K X Sd Sr:=h.chg hc1 (fun e=>hn2 e.symm) (fun j hj e=>hn1 (by rw [← e];exact hj)) (fun j hj h1 e=>cel_ne_map ((h.mt j hj).mat.cel h1) hlm e)
 have hkm:k≠cm c0:=fun e=>hn1 (by rw [← e];exact .inr (.inr (.inr hk)))
 have hcn:∀ c,c < m.kl.length→cb c≠cm c0:=fun c hc=>cel_ne_map (hcl.cel hc) hlm
 have hcl1:Cls w1 m cb cm:=hcl.chg hc1 hcn
 have hX1:(∀ p,¬ X p)∨(w1.cell? ⟨k,1,none⟩=some (.int .i64 0)∧∀ p,X p→∃ i x,(K.md k).ws[i]?=some x∧sendsW x.1=true∧p=(K.md k).pl i):=by
  rcases hX with hX | ⟨h1,h2⟩
  · exact .inl hX
  · exact .inr ⟨(World.cell?_of_block (a:=⟨k,1,none⟩) (hc1.block k (h.lt (.inr (.inr (.inr hk)))) hkm)).trans h1,h2⟩
 -- what holds behind addHome and takeHome
 have hmid:∀ W l ps pm,Cor W b { K with l:=l,ps:=ps,pm:=pm } (fun _=>False) Sd Sr→Kept w.heap.size K l pm→Chg w1 W (fun j=>CBlk K j)→Cls W m cb cm∧SMap W (cm c0) (put lm sel (.pointer (some ⟨k,0,none⟩))):=by
  intro W l ps pm hW hkp hcW
  exact ⟨hcl1.chg hcW (fun c hc=>(hK1.clsn hcl1 hc).1),hm1.same (hcW.block _ hm1.lt hn1)⟩
 refine give_wp b (cb c0) (cm c0) k had sel w w1
  (fun W=>∃ l ps,Cor W b { K with l:=l,ps:=ps } (fun _=>False) Sd Sr∧Kept w.heap.size K l K.pm∧Chg w1 W (fun j=>CBlk K j))
  (fun W=>∃ l ps pm,Cor W b { K with l:=l,ps:=ps,pm:=pm } (fun _=>False) Sd Sr∧Kept w.heap.size K l pm∧Chg w1 W (fun j=>CBlk K j)) _ (hcl.meth hc0) lk hrun ?_ ?_ ?_ ?_
 · refine (addHome_cor hK1 hk hX1).mono ?_
   rintro e W ⟨rfl,l,ps,hW,hl,hcW⟩
   exact ⟨rfl,l,ps,hW,⟨fun s ib e=>by rw [← hsz1];exact hl s ib e,fun p q e=>.inl e⟩,hcW⟩
 · rintro rfl W ⟨l,ps,hW,hkp,hcW⟩
   exact ⟨l,ps,K.pm,hW,hkp,hcW⟩
 · rintro k0 rfl W ⟨l,ps,hW,hkp,hcW⟩
   refine (takeHome_cor hW (k:=k0) (hhk k0 rfl)).mono ?_
   rintro e W3 ⟨rfl,l3,ps3,pm3,hW3,hl3,ha3,hc3⟩
   refine ⟨rfl,l3,ps3,pm3,hW3,⟨fun s ib e=>hkp.l s ib (hl3 s ib e),fun p q e=>.inl (ha3 p q e)⟩,hcW.then hc3 (fun j hj e=>?_)⟩
   have hx:=CBlk.old (K:=K) (N:=w.heap.size) (l:=l) (ps:=ps) (pm:=K.pm) (R:=K.R) e hkp.l hkp.arr
   rcases hx with hx | hx
   · exact hx
   · omega
 · rintro W ⟨l,ps,pm,hW,hkp,hcW⟩
   obtain ⟨hclW,hmW⟩:=hmid W l ps pm hW hkp hcW
   refine (changed_cor hW m cb cm c0 sel hm hc0 hclW hQ hR).mono ?_
   rintro e W4 ⟨rfl,pm4,R4,hW4,ha4,hc4,hd4⟩
   have hbW:W.heap[b]?=w.heap[b]?:=(hcW.block b hK1.tab.cel.lt h.bn).trans (hc1.block b h.tab.cel.lt (fun e=>hn2 e.symm))
   refine ⟨rfl,l,ps,pm4,R4,hW4,?_,⟨hkp.l,fun p q e=>hkp.arr p q (ha4 p q e)⟩,?_,(SameHd.of_block hbW).trans hd4⟩
   · obtain ⟨es',ck',hx,_⟩:=id hmW
     refine hmW.same (hc4.block _ hmW.lt (fun e=>?_))
     rcases e with e | e
     · exact hn2 e
     · exact not_plBlk_map hW.pls hx e
   · refine ((hc1.mono (fun j _ e=>.inr (.inl e))).then hcW (fun j _ e=>.inr (.inr e))).then hc4 (fun j hj e=>?_)
     rcases e with e | e
     · exact .inl e
     · have hx:=CBlk.old (K:=K) (N:=w.heap.size) (l:=l) (ps:=ps) (pm:=pm) (R:=K.R) (.inr (.inr (.inl e))) hkp.l hkp.arr
       rcases hx with hx | hx
       · exact .inr (.inr hx)
       · omega
theorem takeAway_cor {b:Nat}{K:Kc}{Sd:ByteArray→Rw4→Prop}{Sr:Rw4→Prop} (h:Cor w b K (fun _=>False) Sd Sr) (m:Im) (cb cm:Nat→Nat) (c0 k:Nat) (sel:ByteArray) (lm:List (ByteArray×Value)) (hm:ImOk m) (hc0:c0 < m.kl.length) (hcl:Cls w m cb cm)
 (hlm:SMap w (cm c0) lm) (hcs:cm c0≠K.sb) (hci:∀ s,K.l.lookup s≠some (.map (some (cm c0)))) (hk:K.Mk k)
 (hhad:lm.lookup sel=some (.pointer (some ⟨k,0,none⟩))) (hQ:∀ s r,Sd s r→RowQ m cb r∧r.sel=s) (hR:∀ r,Sr r→RowQ m cb r) :
 Calls Tryz.prog 49 #[.pointer (some ⟨b,0,none⟩),.pointer (some ⟨cb c0,0,none⟩),.string sel] w fun e w'=>e=.returned (.tuple #[])∧∃ l ps pm R,Cor w' b { K with l:=l,ps:=ps,pm:=pm,R:=R } (fun _=>False) (fun s r=>Sd s r∧leanM m cb c0 sel r=false) (fun r=>(Sr r∧leanM m cb c0 sel r=false)∨r=noRow) ∧
  SMap w' (cm c0) (del lm sel)∧Kept w.heap.size K l pm∧Chg w w' (fun j=>j=b∨j=cm c0∨CBlk K j)∧SameHd w w' b:=by
 have lk:=lookup_mth w (cm c0) lm hlm sel
 rw [hhad] at lk
 obtain ⟨w1,hrun,hm1,hg1,hsz1⟩:=run_del (P:=Tryz.prog) hlm Tryz.underlying99 Tryz.underlying9 sel 0 0
 obtain ⟨es,ck,hmb,_⟩:=id hlm
 obtain ⟨hn1,hn2⟩:=h.mapn hmb hcs hci
 have hc1:Chg w w1 (fun j=>j=cm c0):=Chg.of_grown hg1
 have hK1:Cor w1 b K (fun _=>False) Sd Sr:=h.chg hc1 (fun e=>hn2 e.symm) (fun j hj e=>hn1 (by rw [← e];exact hj)) (fun j hj h1 e=>cel_ne_map ((h.mt j hj).mat.cel h1) hlm e)
 have hcn:∀ c,c < m.kl.length→cb c≠cm c0:=fun c hc=>cel_ne_map (hcl.cel hc) hlm
 have hcl1:Cls w1 m cb cm:=hcl.chg hc1 hcn
 refine takeAway_wp b (cb c0) (cm c0) k sel w w1
  (fun W=>∃ l ps pm,Cor W b { K with l:=l,ps:=ps,pm:=pm } (fun _=>False) Sd Sr∧Kept w.heap.size K l pm∧Chg w1 W (fun j=>CBlk K j)) _ (hcl.meth hc0) lk (fun _ _=>hrun) ?_ ?_
 · refine (takeHome_cor hK1 hk).mono ?_
   rintro e W3 ⟨rfl,l3,ps3,pm3,hW3,hl3,ha3,hc3⟩
   exact ⟨rfl,l3,ps3,pm3,hW3,⟨fun s ib e=>.inl (hl3 s ib e),fun p q e=>.inl (ha3 p q e)⟩,hc3⟩
 · rintro W ⟨l,ps,pm,hW,hkp,hcW⟩
   have hclW:Cls W m cb cm:=hcl1.chg hcW (fun c hc=>(hK1.clsn hcl1 hc).1)
   have hmW:=hm1.same (hcW.block _ hm1.lt hn1)
   refine (changed_cor hW m cb cm c0 sel hm hc0 hclW hQ hR).mono ?_
   rintro e W4 ⟨rfl,pm4,R4,hW4,ha4,hc4,hd4⟩
   have hbW:W.heap[b]?=w.heap[b]?:=(hcW.block b hK1.tab.cel.lt h.bn).trans (hc1.block b h.tab.cel.lt (fun e=>hn2 e.symm))
   refine ⟨rfl,l,ps,pm4,R4,hW4,?_,⟨hkp.l,fun p q e=>hkp.arr p q (ha4 p q e)⟩,?_,(SameHd.of_block hbW).trans hd4⟩
   · obtain ⟨es',ck',hx,_⟩:=id hmW
     refine hmW.same (hc4.block _ hmW.lt (fun e=>?_))
     rcases e with e | e
     · exact hn2 e
     · exact not_plBlk_map hW.pls hx e
   · refine ((hc1.mono (fun j _ e=>.inr (.inl e))).then hcW (fun j _ e=>.inr (.inr e))).then hc4 (fun j hj e=>?_)
     rcases e with e | e
     · exact .inl e
     · have hx:=CBlk.old (K:=K) (N:=w.heap.size) (l:=l) (ps:=ps) (pm:=pm) (R:=K.R) (.inr (.inr (.inl e))) hkp.l hkp.arr
       rcases hx with hx | hx
       · exact .inr (.inr hx)
       · omega
end Go.Proofs.YtkghmgoefiepeaaGreatDoor.reads
