import Derived.Test.YtkghmgoefiepeaaGreatDoorQ0
import Derived.Test.YtkghmgoefiepeaaGreatDoorQ22
set_option linter.unusedSimpArgs false
set_option linter.unusedVariables false
set_option maxHeartbeats 4000000
set_option maxRecDepth 100000
namespace Go.Proofs.YtkghmgoefiepeaaGreatDoor.reads
open Go.ChangeShapes Go.WideShapes Go.ChangeAt Go.RowKit Kn Go.Proofs.YtkghmgoefiepeaaGreatDoor.img
variable {bd : Nat}
theorem ptr_neq {w:World}{p q:Nat} (hp:Cel w p) (hq:Cel w q):(binOp .neq 57 (.pointer (some ⟨p,0,none⟩)) (.pointer (some ⟨q,0,none⟩))).run Tryz.prog w=.ok (.bool (!decide (p=q))) w:=by
 have hs:=size_cls
 cases hi:Tryz.prog.info? 101 with
 | none=>rw [hi] at hs;cases hs
 | some i =>
  rw [hi] at hs
  simp at hs
  have h:=run_equal_ptr (P:=Tryz.prog) (w:=w) Tryz.underlying57 hi (by omega) hp hq
  simp only [binOp]
  simp [h]
theorem nil_neq (q:Nat) (w:World):(binOp .neq 57 (.pointer none) (.pointer (some ⟨q,0,none⟩))).run Tryz.prog w=.ok (.bool true) w:=by kernel_rfl
noncomputable def leanV (m:Im) (cb:Nat→Nat) (c0:Nat) (r:Rw4):Bool:=cameD m cb c0 r&&!decide (r.hm=some ⟨cb c0,0,none⟩)
theorem leansV (m:Im) (cb cm:Nat→Nat) (c0:Nat) (x:Nat) (hm:ImOk m) (hc0:c0 < m.kl.length) :
 Leans 103 #[.pointer (some ⟨x,0,none⟩)] (leanV m cb c0) (fun W=>W.cell? ⟨x,0,none⟩=some (.pointer (some ⟨cb c0,0,none⟩))∧Cls W m cb cm) (RowQ m cb):=by
 refine ⟨fun args W=>by simp [go_sem],fun W r hW hr=>?_⟩
 obtain ⟨hx,hw⟩:=hW
 have hxl:=World.block_lt_of_cell? W ⟨x,0,none⟩ hx
 show Calls _ _ #[_,_] _ _
 obtain ⟨v,hv⟩:∃ v,leanV m cb c0 r=v:=⟨_,rfl⟩
 rw [hv]
 have hcall:=cameTo_any m cb cm c0 r (W.alloc (.cells #[.pointer r.fr,.string r.sel,.pointer r.hm,.pointer r.mt] 64)) hm (hw.same (fun c hc=>Below.heap_alloc W _ _ (hw.cel hc).lt)) hr hc0
 cases hcd:cameD m cb c0 r with
 | false =>
  have hvf:v=false:=by rw [← hv];simp [leanV,hcd]
  subst hvf
  rw [hcd] at hcall
  unfold Rw4.val at hcall ⊢
  clear hv hw hr hcd
  go_enter Tryz.func103,Tryz.ntmps103
  go_wp2_with fail
  refine hcall.mono ?_
  rintro e w1 ⟨rfl,hb1⟩
  have HB:Hid (Below W.heap.size W w1):=((Below.refl _ W).alloc (Nat.le_refl _) _).trans (hb1.mono (by simp))
  clear hb1 hcall
  go_wp2
  go_ret
  exact ⟨by first | rfl | simp,HB.out⟩
 | true =>
  obtain ⟨d,hd,hhm⟩:∃ d:Option Nat,(∀ x,d=some x→x < m.kl.length)∧r.hm=cptr (d.map cb):=by
   rcases hr with h | rfl
   · exact h.hm
   · exact ⟨none,fun x hx=>(by cases hx),rfl⟩
  rw [hcd] at hcall
  have hvv:v=!decide (r.hm=some ⟨cb c0,0,none⟩):=by rw [← hv];simp [leanV,hcd]
  have hcc:=hw.cel hc0
  have hdc:∀ y,d=some y→Cel W (cb y):=fun y hy=>hw.cel (hd y hy)
  unfold Rw4.val at hcall ⊢
  rw [hhm] at hcall hvv ⊢
  have hcx:=(MapKept.heap_alloc W (.cells #[.pointer r.fr,.string r.sel,.pointer (cptr (d.map cb)),.pointer r.mt] 64)).1
  clear hv hw hr hcd hhm
  go_enter Tryz.func103,Tryz.ntmps103
  go_wp2_with fail
  refine hcall.mono ?_
  rintro e w1 ⟨rfl,hb1⟩
  have HB:Hid (Below W.heap.size W w1):=((Below.refl _ W).alloc (Nat.le_refl _) _).trans (hb1.mono (by simp))
  have z2:w1.cell? ⟨W.heap.size,2,none⟩=some (.pointer (cptr (d.map cb))):=by
   refine (hb1.cell (p:=⟨W.heap.size,2,none⟩) (by simp)).trans ?_
   simp only [World.cell?,hcx];rfl
  have x1:w1.cell? ⟨x,0,none⟩=some (.pointer (some ⟨cb c0,0,none⟩)):=(HB.out.cell (p:=⟨x,0,none⟩) hxl).trans hx
  have hc1:Cel w1 (cb c0):=hcc.same (HB.out.block _ hcc.lt)
  cases d with
  | none =>
   have hvt:v=true:=by rw [hvv];rfl
   subst hvt
   have hcp:cptr ((none:Option Nat).map cb)=none:=rfl
   rw [hcp] at z2 ⊢
   clear hb1 hcall hvv hx hcx
   have hnn:=nil_neq (cb c0) w1
   go_wp2
   go_ret
   exact ⟨by first | rfl | simp,HB.out⟩
  | some y =>
   have hy1:Cel w1 (cb y):=(hdc y rfl).same (HB.out.block _ (hdc y rfl).lt)
   have hcp:cptr ((some y:Option Nat).map cb)=some ⟨cb y,0,none⟩:=rfl
   have hpn:=ptr_neq hy1 hc1
   rw [hcp] at z2 hvv ⊢
   have hvd:v=!decide (cb y=cb c0):=by rw [hvv];simp
   rw [← hvd] at hpn
   clear hb1 hcall hvv hx hcx hvd hc1 hy1 hdc
   go_wp2
   go_ret
   exact ⟨by first | rfl | simp,HB.out⟩
theorem pnone_any (ib:Nat) (ps:List Nat) (L:List (Nat×ByteArray)) (pm:Nat→Mm) (Sd:ByteArray→Rw4→Prop) (w:World) (h:PSet w ib ps) (hL:∀ p∈ps,∃ s,(p,s)∈L) (hP:Pls bd w L pm Sd) :
 Calls Tryz.prog 69 #[.map (some ib)] w fun e w'=>e=.returned (.tuple #[])∧∃ pm',Pls bd w' L pm' Sd∧(∀ p∈ps,pm' p=.no)∧(∀ p,p ∉ ps→pm' p=pm p)∧Chg w w' (PlBlk L pm):=by
 obtain ⟨es,clock,hb,hkeys,hbn,hnd⟩:=h
 have hrg:=run_range_map (P:=Tryz.prog) w 138 _ _ ib es clock Tryz.underlying138 hb
 have hnb:¬ PlBlk L pm ib:=not_plBlk_map hP hb
 have hbl:=(Array.getElem?_eq_some_iff.1 hb).1
 have HP0:Hid _:=hP
 have HLT:Hid (∀ k,PlBlk L pm k→k < w.heap.size):=hP.lt
 clear hP
 go_enter Tryz.func69,Tryz.ntmps69
 go_wp2
 go_loopw [5] (fun _ wr=>∃ seen pm',wr.heap[w.heap.size]?=some (.mapIter (some ib) clock seen clock)∧Pls bd wr L pm' Sd∧(∀ e∈es.toList,∀ p,e.key=pkey p→seen.contains e.born=true→pm' p=.no)∧(∀ p,pm' p=pm p∨(p∈ps∧pm' p=.no))∧Chg w wr (PlBlk L pm)) (fun _ wr=>(leftOf es (wr.iterSeen w.heap.size)).size)
 case atStart =>
  refine ⟨#[],pm,(MapKept.heap_alloc w _).1,HP0.out.same (fun k hk=>Below.heap_alloc w _ k (HLT.out k hk)),fun e _ p _ hc=>by simp at hc,fun p=>.inl rfl,(Chg.refl w _).alloc _⟩
 case round =>
  obtain ⟨seen,pm',hit,hpl,hdone,heach,hch⟩:=hrel
  have hbr:wr.heap[ib]?=some (.map es clock):=(hch.block ib hbl hnb).trans hb
  rcases run_next_at (P:=Tryz.prog) wr 0 w.heap.size ib clock clock seen es clock hit hbr (fun x hx=>hbn.1 x hx) (Nat.le_refl _) with ⟨hl0,hnx⟩ | ⟨en,hen,w1,hw1,hnx⟩
  · have HC:Hid (∃ pm',Pls bd wr L pm' Sd∧(∀ p∈ps,pm' p=.no)∧(∀ p,p ∉ ps→pm' p=pm p)∧Chg w wr (PlBlk L pm)):=by
     have hx1:∃ pm',Pls bd wr L pm' Sd∧(∀ p∈ps,pm' p=.no)∧(∀ p,p ∉ ps→pm' p=pm p)∧Chg w wr (PlBlk L pm):=by
      refine ⟨pm',hpl,fun p hp=>?_,fun p hp=>?_,hch⟩
      · have:pkey p∈es.toList.map (·.key):=by rw [hkeys];exact List.mem_map.2 ⟨p,hp,rfl⟩
        obtain ⟨e,he,hek⟩:=List.mem_map.1 this
        exact hdone e he p hek (all_seen' hl0 he)
      · rcases heach p with h | h
        · exact h
        · exact absurd h.1 hp
     exact hx1
    clear hpl hdone heach hch hrg
    go_wp2
    go_end0
    exact ⟨rfl,HC.out⟩
  · have hem:=(mem_left hen).1
    obtain ⟨q,hq,hqk⟩:∃ q∈ps,en.key=pkey q:=by
     have:en.key∈es.toList.map (·.key):=List.mem_map.2 ⟨en,hem,rfl⟩
     rw [hkeys] at this
     obtain ⟨q,hq,e⟩:=List.mem_map.1 this
     exact ⟨q,hq,e.symm⟩
    obtain ⟨s,hqs⟩:=hL q hq
    obtain ⟨i1,i2,i3,i4⟩:=iter_step (o':=.mapIter (some ib) clock (seen.push en.born) clock) hw1 hit
    obtain ⟨W2,hW2⟩:∃ W2,W2=ChangeMaps.setBlock w1 w.heap.size (.mapIter (some ib) clock (seen.push en.born) clock):=⟨_,rfl⟩
    rw [← hW2] at i1 i2 i3 i4 hnx
    clear hW2
    have hib:ib≠w.heap.size:=by omega
    have hent:=run_entry_at (P:=Tryz.prog) W2 w.heap.size ib clock seen es clock en i1 ((i2 ib hib).trans hbr) hem hbn.2
    rw [hqk,pkey] at hnx hent
    have hblk':∀ k,PlBlk L pm' k→PlBlk L pm k:=by
     rintro k ⟨p,s',hps,e | e⟩
     · exact ⟨p,s',hps,.inl e⟩
     · refine ⟨p,s',hps,.inr ?_⟩
       rcases heach p with h | ⟨_,h⟩
       · rw [h] at e;exact e
       · rw [h] at e;cases e
    have hne:∀ k,PlBlk L pm' k→k≠w.heap.size:=fun k hk e=>by have:=HLT.out k (hblk' k hk);omega
    have HL:Hid ((leftOf es (seen.push en.born)).size < (leftOf es seen).size):=left_shrinks es seen en hen
    have HS:Hid (wr.iterSeen w.heap.size=seen):=by
     have hx1:wr.iterSeen w.heap.size=seen:=by unfold World.iterSeen;rw [hit]
     exact hx1
    have hpl2:Pls bd W2 L pm' Sd:=hpl.same (fun k hk=>i2 k (hne k hk))
    have hch2:Chg w W2 (PlBlk L pm):=hch.then i4 (fun k hk e=>by omega)
    have hqn:q≠w.heap.size:=hne q ⟨q,s,hqs,.inl rfl⟩
    have hat:=hpl2.at_ q s hqs
    have c0:W2.cell? ⟨q,0,none⟩=some (pm' q).val:=by simp only [World.cell?,hat];rfl
    have cf:=fun o=>(hpl2.cel hqs).free o
    have HF:Hid (∃ seen pm'',(W2.setCell ⟨q,0,none⟩ Mm.no.val).heap[w.heap.size]?=some (.mapIter (some ib) clock seen clock)∧Pls bd (W2.setCell ⟨q,0,none⟩ Mm.no.val) L pm'' Sd∧(∀ e∈es.toList,∀ p,e.key=pkey p→seen.contains e.born=true→pm'' p=.no)∧(∀ p,pm'' p=pm p∨(p∈ps∧pm'' p=.no))∧Chg w (W2.setCell ⟨q,0,none⟩ Mm.no.val) (PlBlk L pm)):=by
     have hx1:∃ seen pm'',(W2.setCell ⟨q,0,none⟩ Mm.no.val).heap[w.heap.size]?=some (.mapIter (some ib) clock seen clock)∧Pls bd (W2.setCell ⟨q,0,none⟩ Mm.no.val) L pm'' Sd∧(∀ e∈es.toList,∀ p,e.key=pkey p→seen.contains e.born=true→pm'' p=.no)∧(∀ p,pm'' p=pm p∨(p∈ps∧pm'' p=.no))∧Chg w (W2.setCell ⟨q,0,none⟩ Mm.no.val) (PlBlk L pm):=by
      refine ⟨seen.push en.born,fun k=>if k=q then .no else pm' k,(Below.heap_setCell _ _ _ _ (fun e=>hqn e.symm)).trans i1,Pls.store (W3:=W2) hpl2 hqs (m:=.no) (Chg.refl _ _) trivial (by simp [Mm.rows]) (fun r hr=>by cases hr) (fun a ha=>by cases ha) (fun a ha=>by cases ha),fun e he p hep hc=>?_,fun p=>?_,hch2.setCell _ _ (fun _=>⟨q,s,hqs,.inl rfl⟩)⟩
      · rw [contains_push] at hc
        by_cases e1:p=q
        · simp only [e1,if_true]
        · simp only [e1,if_false]
          refine hdone e he p hep ?_
          cases hcs:seen.contains e.born with
          | true=>rfl
          | false =>
           rw [hcs,Bool.false_or] at hc
           have hbe:e.born=en.born:=by simpa using hc
           have hee:e=en:=by
            have h1:=find_born e es.toList hbn.2 he
            have h2:=find_born en es.toList hbn.2 hem
            rw [hbe] at h1
            exact Option.some.inj (h1.symm.trans h2)
           rw [hee,hqk] at hep
           unfold pkey at hep
           injection hep with hep
           injection hep with hep
           injection hep with hep _ _
           exact absurd hep.symm e1
      · by_cases e1:p=q
        · simp only [e1,if_true];exact .inr ⟨hq,by trivial⟩
        · simp only [e1,if_false];exact heach p
     exact hx1
    have HI2:Hid ((W2.setCell ⟨q,0,none⟩ Mm.no.val).iterSeen w.heap.size=seen.push en.born):=by
     have hx1:(W2.setCell ⟨q,0,none⟩ Mm.no.val).iterSeen w.heap.size=seen.push en.born:=by
      unfold World.iterSeen
      rw [(Below.heap_setCell _ _ _ _ (fun e=>hqn e.symm)).trans i1]
     exact hx1
    unfold Mm.val at HF HI2
    clear hpl hdone heach hch hrg i2 i4 hbr hit hen hem hw1 hpl2 hch2 hblk' hne hat hqk
    go_wp2
    go_roundw
    case rel=>exact HF.out
    case measure =>
     rw [HI2.out,HS.out]
     exact HL.out
theorem pnone_nil (w:World):Calls Tryz.prog 69 #[.map none] w fun e w'=>e=.returned (.tuple #[])∧Below w.heap.size w w':=by
 have hrg:=run_range_nilMap (P:=Tryz.prog) w 138 _ _ Tryz.underlying138
 have hnx:=run_next_nilMap (P:=Tryz.prog) w 0 0 0 #[]
 go_enter Tryz.func69,Tryz.ntmps69
 go_wp2
 refine wp_loop_rounds 1 ?_
 rw [rounds_succ]
 go_wp2
 go_end0
 exact ⟨rfl,(Below.refl _ _).alloc (Nat.le_refl _) _⟩
structure Done (u:Mm→Mm) (es:Array MapEntry) (l:List (ByteArray×Value)) (ps:Nat→List Nat) (pm:Nat→Mm) (seen:Array Nat) (pm':Nat→Mm):Prop where
 all:∀ e∈es.toList,∀ ib,e.val=.map (some ib)→seen.contains e.born=true→∀ p∈ps ib,pm' p=u (pm p)
 each:∀ p,pm' p=pm p∨(pm' p=u (pm p)∧∃ s,Reg l ps s p)
theorem Done.start (u:Mm→Mm) (es:Array MapEntry) (l:List (ByteArray×Value)) (ps:Nat→List Nat) (pm:Nat→Mm):Done u es l ps pm #[] pm:=⟨fun e _ ib _ hc=>by simp at hc,fun p=>.inl rfl⟩
theorem Done.blk {u:Mm→Mm}{es:Array MapEntry}{l:List (ByteArray×Value)}{ps:Nat→List Nat}{pm pm':Nat→Mm}{seen:Array Nat} (h:Done u es l ps pm seen pm') (hu:∀ x q,(u x).arr=some q→x.arr=some q) {L:List (Nat×ByteArray)}{k:Nat} (hk:PlBlk L pm' k):PlBlk L pm k:=by
 obtain ⟨p,s,hps,e | e⟩:=hk
 · exact ⟨p,s,hps,.inl e⟩
 · refine ⟨p,s,hps,.inr ?_⟩
   rcases h.each p with h1 | ⟨h1,_⟩
   · rw [h1] at e;exact e
   · rw [h1] at e;exact hu _ _ e
theorem Done.step {u:Mm→Mm}{es:Array MapEntry}{clock:Nat}{l:List (ByteArray×Value)}{ps:Nat→List Nat}{pm pm' pm2:Nat→Mm}{seen:Array Nat} (h:Done u es l ps pm seen pm') (hu:∀ x,u (u x)=u x) (hbn:Born es clock) {en:MapEntry} (hem:en∈es.toList) {s:ByteArray}{ib:Nat} (hv:en.val=.map (some ib)) (hl:l.lookup s=some (.map (some ib)))
 (h1:∀ p∈ps ib,pm2 p=u (pm' p)) (h2:∀ p,p ∉ ps ib→pm2 p=pm' p):Done u es l ps pm (seen.push en.born) pm2:=by
 have hself:∀ p∈ps ib,pm2 p=u (pm p):=fun p hp=>by
  rw [h1 p hp]
  rcases h.each p with e | ⟨e,_⟩
  · rw [e]
  · rw [e,hu]
 refine ⟨fun e he jb hej hc p hp=>?_,fun p=>?_⟩
 · by_cases hpi:p∈ps ib
   · exact hself p hpi
   · rw [h2 p hpi]
     refine h.all e he jb hej ?_ p hp
     rw [contains_push] at hc
     cases hcs:seen.contains e.born with
     | true=>rfl
     | false =>
      rw [hcs,Bool.false_or] at hc
      have hbe:e.born=en.born:=by simpa using hc
      have hee:e=en:=by
       have h1:=find_born e es.toList hbn.2 he
       have h2:=find_born en es.toList hbn.2 hem
       rw [hbe] at h1
       exact Option.some.inj (h1.symm.trans h2)
      rw [hee,hv] at hej
      injection hej with hej
      injection hej with hej
      subst hej
      exact absurd hp hpi
 · by_cases hpi:p∈ps ib
   · exact .inr ⟨hself p hpi,s,ib,hl,hpi⟩
   · rw [h2 p hpi];exact h.each p
theorem Done.finish {u:Mm→Mm}{es:Array MapEntry}{l:List (ByteArray×Value)}{ps:Nat→List Nat}{pm pm':Nat→Mm}{seen:Array Nat} (h:Done u es l ps pm seen pm') (hl:Holds es l) (h0:(leftOf es seen).size=0):(∀ s p,Reg l ps s p→pm' p=u (pm p))∧(∀ p,(∀ s,¬ Reg l ps s p)→pm' p=pm p):=by
 refine ⟨fun s p ⟨ib,hs,hp⟩=>?_,fun p hp=>?_⟩
 · have hm:=lookup_mem hs
   have:(Value.string s,Value.map (some ib))∈es.toList.map (fun e=>(e.key,e.val)):=by rw [hl];exact List.mem_map.2 ⟨_,hm,rfl⟩
   obtain ⟨e,he,hev⟩:=List.mem_map.1 this
   injection hev with _ hev
   exact h.all e he ib hev (all_seen' h0 he) p hp
 · rcases h.each p with e | ⟨_,s,e⟩
   · exact e
   · exact absurd e (hp s)
theorem entry_set {w:World}{sb:Nat}{l:List (ByteArray×Value)}{ps:Nat→List Nat} (h:SndAt w sb l ps) {es:Array MapEntry} (hl:Holds es l) (hu:Uniq l) {en:MapEntry} (hem:en∈es.toList):∃ s ib,en.key=.string s∧en.val=.map (some ib)∧l.lookup s=some (.map (some ib))∧PSet w ib (ps ib):=by
 have:(en.key,en.val)∈l.map (fun p=>(Value.string p.1,p.2)):=by rw [← hl];exact List.mem_map.2 ⟨en,hem,rfl⟩
 obtain ⟨⟨s,v⟩,hm,e⟩:=List.mem_map.1 this
 injection e with e1 e2
 have hlk:=mem_lookup hu hm
 obtain ⟨ib,rfl,h4,_⟩:=h.inn s v hlk
 exact ⟨s,ib,e1.symm,e2.symm,hlk,h4⟩
theorem moves_any (m:Im) (cb cm:Nat→Nat) (b c0 sb n:Nat) (cur:Array Value) (l:List (ByteArray×Value)) (ps:Nat→List Nat) (R:Nat→Rw4) (L:List (Nat×ByteArray)) (pm:Nat→Mm) (Sd:ByteArray→Rw4→Prop) (w:World) (hm:ImOk m) (hc0:c0 < m.kl.length)
 (himg:w.heap[b]?=some (.cells cur 70)) (hb:w.cell? ⟨b,5,none⟩=some (.map (some sb))) (hs:SndAt w sb l ps) (ht:TabAt w b n R) (hcl:Cls w m cb cm) (hP:Pls bd w L pm Sd) (hreg:∀ s p,Reg l ps s p→(p,s)∈L)
 (hQ:∀ s r,Sd s r→RowQ m cb r) (hr:∀ i,i < n→RowQ m cb (R i)) :
 Calls Tryz.prog 66 #[.pointer (some ⟨b,0,none⟩),.pointer (some ⟨cb c0,0,none⟩)] w fun e w'=>e=.returned (.tuple #[])∧∃ pm',Pls bd w' L pm' Sd∧(∀ s p,Reg l ps s p→pm' p=(pm p).forget (leanV m cb c0))∧(∀ p,(∀ s,¬ Reg l ps s p)→pm' p=pm p) ∧
  TabAt w' b n (fun i=>if i < n∧leanV m cb c0 (R i)=true then noRow else R i)∧Chg w w' (fun k=>k=b∨PlBlk L pm k)∧SameHd w w' b:=by
 have hmf:∀ (fn:Fn) (first cap:Array Value) (w:World),(Instr.makeFunc fn first cap).run Tryz.prog w=.ok (.func fn first cap) w:=fun _ _ _ _=>rfl
 have hbl:=ht.cel.lt
 have hbn:¬ PlBlk L pm b:=not_plBlk hP himg (by decide) (by decide)
 have hcln:∀ c,c < m.kl.length→¬ PlBlk L pm (cb c)∧cb c≠b:=fun c hc=>by
  have h1:=hcl.at_ c _ (List.getElem?_eq_getElem hc)
  refine ⟨not_plBlk hP h1 (by decide) (by decide),fun e=>?_⟩
  rw [e,himg] at h1
  injection h1 with h1
  injection h1 with _ h1 _
  revert h1
  decide
 have hplt:=hP.lt
 obtain ⟨es,clock,hmb,hho,hbo,hun⟩:=id hs.map
 have hsl:=hs.map.lt
 have hsn:¬ PlBlk L pm sb:=not_plBlk_map hP hmb
 have HS:Hid (SndAt w sb l ps∧TabAt w b n R∧Cls w m cb cm∧Pls bd w L pm Sd∧(∀ s p,Reg l ps s p→(p,s)∈L)):=⟨hs,ht,hcl,hP,hreg⟩
 have HN:Hid (¬ PlBlk L pm b∧(∀ c,c < m.kl.length→¬ PlBlk L pm (cb c)∧cb c≠b)∧(∀ k,PlBlk L pm k→k < w.heap.size)):=⟨hbn,hcln,hplt⟩
 clear hs ht hcl hP hreg hbn hcln hplt himg
 go_enter Tryz.func66,Tryz.ntmps66
 have hz0:(w.alloc (.cells #[.pointer (some ⟨cb c0,0,none⟩)] 57)).heap[w.heap.size]?=some (.cells #[.pointer (some ⟨cb c0,0,none⟩)] 57):=(MapKept.heap_alloc w _).1
 have hb0:(w.alloc (.cells #[.pointer (some ⟨cb c0,0,none⟩)] 57)).cell? ⟨b,5,none⟩=some (.map (some sb)):=by go_keep
 have hch0:Chg w (w.alloc (.cells #[.pointer (some ⟨cb c0,0,none⟩)] 57)) (fun _=>False):=(Chg.refl w _).alloc _
 have hsz0:(w.alloc (.cells #[.pointer (some ⟨cb c0,0,none⟩)] 57)).heap.size=w.heap.size+1:=by simp
 have hmb0:(w.alloc (.cells #[.pointer (some ⟨cb c0,0,none⟩)] 57)).heap[sb]?=some (.map es clock):=(Below.heap_alloc _ _ _ hsl).trans hmb
 have hrg:=run_range_map (P:=Tryz.prog) (w.alloc (.cells #[.pointer (some ⟨cb c0,0,none⟩)] 57)) 56 _ _ sb es clock Tryz.underlying56 hmb0
 rw [hsz0] at hrg
 have HA0:Hid (Chg w ((w.alloc (.cells #[.pointer (some ⟨cb c0,0,none⟩)] 57)).alloc (.mapIter (some sb) clock #[] clock)) (PlBlk L pm)):=((Chg.refl w _).alloc _).alloc _
 have HA1:Hid (((w.alloc (.cells #[.pointer (some ⟨cb c0,0,none⟩)] 57)).alloc (.mapIter (some sb) clock #[] clock)).heap[w.heap.size+1]?=some (.mapIter (some sb) clock #[] clock)):=by
  have hx1:=(MapKept.heap_alloc (w.alloc (.cells #[.pointer (some ⟨cb c0,0,none⟩)] 57)) (.mapIter (some sb) clock #[] clock)).1
  rw [hsz0] at hx1
  exact hx1
 have HA2:Hid (((w.alloc (.cells #[.pointer (some ⟨cb c0,0,none⟩)] 57)).alloc (.mapIter (some sb) clock #[] clock)).cell? ⟨w.heap.size,0,none⟩=some (.pointer (some ⟨cb c0,0,none⟩))):=by
  have hx1:((w.alloc (.cells #[.pointer (some ⟨cb c0,0,none⟩)] 57)).alloc (.mapIter (some sb) clock #[] clock)).cell? ⟨w.heap.size,0,none⟩=some (.pointer (some ⟨cb c0,0,none⟩)):=by
   refine (World.cell?_of_block (a:=⟨w.heap.size,0,none⟩) (Below.heap_alloc _ _ _ (by simp))).trans ?_
   simp only [World.cell?,hz0];rfl
  exact hx1
 clear hz0 hch0 hsz0 hmb0
 go_wp2
 have huu:∀ x,Mm.forget (leanV m cb c0) (Mm.forget (leanV m cb c0) x)=Mm.forget (leanV m cb c0) x:=Mm.forget_twice _
 have hua:∀ x q,(Mm.forget (leanV m cb c0) x).arr=some q→x.arr=some q:=fun x q e=>by
  rcases Mm.forget_arr (leanV m cb c0) x with h1 | h1
  · rw [h1] at e;cases e
  · rw [h1] at e;exact e
 clear hrg hb0
 go_loopw [13] (fun _ wr=>∃ seen pm',wr.heap[w.heap.size+1]?=some (.mapIter (some sb) clock seen clock)∧Pls bd wr L pm' Sd∧Done (Mm.forget (leanV m cb c0)) es l ps pm seen pm'∧Chg w wr (PlBlk L pm)∧wr.cell? ⟨w.heap.size,0,none⟩=some (.pointer (some ⟨cb c0,0,none⟩))) (fun _ wr=>(leftOf es (wr.iterSeen (w.heap.size+1))).size)
 case atStart =>
  exact ⟨#[],pm,HA1.out,HS.out.2.2.2.1.same (fun k hk=>(Below.heap_alloc _ _ _ (by simp;have:=HN.out.2.2 k hk;omega)).trans (Below.heap_alloc _ _ _ (HN.out.2.2 k hk))),Done.start _ _ _ _ _,HA0.out,HA2.out⟩
 case round =>
  obtain ⟨seen,pm',hit,hpl,hdn,hch,hx0⟩:=hrel
  have hbr:wr.heap[sb]?=some (.map es clock):=(hch.block sb hsl hsn).trans hmb
  -- worlds that forgetting comes to
  have hgood:∀ W,Chg wr W (fun k=>k=b∨PlBlk L pm k∨k=w.heap.size+1)→W.cell? ⟨w.heap.size,0,none⟩=some (.pointer (some ⟨cb c0,0,none⟩))∧Cls W m cb cm:=by
   intro W hW
   have hxl:=World.block_lt_of_cell? wr ⟨w.heap.size,0,none⟩ hx0
   refine ⟨(World.cell?_of_block (a:=⟨w.heap.size,0,none⟩) (hW.block _ hxl (fun e=>?_))).trans hx0,?_⟩
   · rcases e with e | e | e
     · simp only at e;omega
     · have:=HN.out.2.2 _ e;simp only at this;omega
     · simp only at e;omega
   · refine HS.out.2.2.1.same (fun c hc=>?_)
     have hlt:=(HS.out.2.2.1.cel hc).lt
     refine (hW.block _ (Nat.lt_of_lt_of_le hlt hch.size) (fun e=>?_)).trans (hch.block _ hlt (HN.out.2.1 c hc).1)
     rcases e with e | e | e
     · exact (HN.out.2.1 c hc).2 e
     · exact (HN.out.2.1 c hc).1 e
     · omega
  rcases run_next_at (P:=Tryz.prog) wr 0 (w.heap.size+1) sb clock clock seen es clock hit hbr (fun x hx=>hbo.1 x hx) (Nat.le_refl _) with ⟨hl0,hnx⟩ | ⟨en,hen,w1,hw1,hnx⟩
  · have htr:TabAt wr b n R:=HS.out.2.1.same (hch.block b hbl HN.out.1)
    have htab:=tforget_h b n _ _ _ _ (RowQ m cb) R wr (leansV m cb cm c0 w.heap.size hm hc0) hr (fun W hW=>hgood W (hW.mono (fun k _ e=>.inl e))) htr
    have HC:Hid (Pls bd wr L pm' Sd∧Done (Mm.forget (leanV m cb c0)) es l ps pm seen pm'∧Chg w wr (PlBlk L pm)∧(leftOf es seen).size=0):=⟨hpl,hdn,hch,hl0⟩
    clear hpl hdn hch hgood htr hit hbr hx0
    go_wp2_with fail
    refine htab.mono ?_
    rintro e w3 ⟨rfl,ht3,hc3,hd3⟩
    have HE:Hid (TabAt w3 b n (fun i=>if i < n∧leanV m cb c0 (R i)=true then noRow else R i)∧Chg wr w3 (fun k=>k=b)∧SameHd wr w3 b):=⟨ht3,hc3,hd3⟩
    clear ht3 hc3 hd3 htab
    go_wp2
    go_end0
    obtain ⟨hpl,hdn,hch,hl0⟩:=HC.out
    obtain ⟨ht3,hc3,hd3⟩:=HE.out
    obtain ⟨hf1,hf2⟩:=hdn.finish hho hl0
    refine ⟨rfl,pm',hpl.same (fun k hk=>hc3.block k (Nat.lt_of_lt_of_le (HN.out.2.2 k (hdn.blk hua hk)) hch.size) (fun e=>?_)),hf1,hf2,ht3,(hch.mono (fun k _ e=>.inr e)).then hc3 (fun k _ e=>.inl e),(SameHd.of_block (hch.block b hbl HN.out.1)).trans hd3⟩
    subst e
    exact HN.out.1 (hdn.blk hua hk)
  · have hem:=(mem_left hen).1
    obtain ⟨s,ib,hek,hev,hls,hset0⟩:=entry_set HS.out.1 hho hun hem
    obtain ⟨i1,i2,i3,i4⟩:=iter_step (o':=.mapIter (some sb) clock (seen.push en.born) clock) hw1 hit
    obtain ⟨W2,hW2⟩:∃ W2,W2=ChangeMaps.setBlock w1 (w.heap.size+1) (.mapIter (some sb) clock (seen.push en.born) clock):=⟨_,rfl⟩
    rw [← hW2] at i1 i2 i3 i4 hnx
    clear hW2
    have hent:=run_entry_at (P:=Tryz.prog) W2 (w.heap.size+1) sb clock seen es clock en i1 ((i2 sb (by omega)).trans hbr) hem hbo.2
    rw [hek,hev] at hnx hent
    have hpl2:Pls bd W2 L pm' Sd:=hpl.same (fun k hk=>i2 k (fun e=>by have:=HN.out.2.2 k (hdn.blk hua hk);omega))
    have hset:PSet W2 ib (ps ib):=by
     obtain ⟨es',ck',hx,_⟩:=id hset0
     refine hset0.same ((i2 ib (fun e=>by have:=hset0.lt;omega)).trans (hch.block ib hset0.lt (not_plBlk_map HS.out.2.2.2.1 hx)))
    have hcall:=pforget_any ib 103 #[.pointer (some ⟨w.heap.size,0,none⟩)] (ps ib) (leanV m cb c0) _ (RowQ m cb) L pm' Sd W2 hset (fun p hp=>⟨s,HS.out.2.2.2.2 s p ⟨ib,hls,hp⟩⟩) hpl2 (leansV m cb cm c0 w.heap.size hm hc0) hQ (fun W hW=>hgood W ((i4.mono (fun k _ e=>.inr (.inr e))).then hW (fun k _ e=>.inr (.inl (hdn.blk hua e)))))
    have HL:Hid ((leftOf es (seen.push en.born)).size < (leftOf es seen).size):=left_shrinks es seen en hen
    have HSN:Hid (wr.iterSeen (w.heap.size+1)=seen):=by
     have hx1:wr.iterSeen (w.heap.size+1)=seen:=by unfold World.iterSeen;rw [hit]
     exact hx1
    have HC:Hid (Done (Mm.forget (leanV m cb c0)) es l ps pm seen pm'∧Chg w W2 (PlBlk L pm)∧W2.heap[w.heap.size+1]?=some (.mapIter (some sb) clock (seen.push en.born) clock)∧en∈es.toList∧en.val=.map (some ib)∧l.lookup s=some (.map (some ib))∧(∀ W,Chg wr W (fun k=>k=b∨PlBlk L pm k∨k=w.heap.size+1)→W.cell? ⟨w.heap.size,0,none⟩=some (.pointer (some ⟨cb c0,0,none⟩))∧Cls W m cb cm)∧Chg wr W2 (fun k=>k=w.heap.size+1)):=⟨hdn,hch.then i4 (fun k hk e=>by omega),i1,hem,hev,hls,hgood,i4⟩
    clear hpl hdn hch hgood hit hbr hx0 i1 i2 i3 i4 hpl2 hset hen hem hw1 hev hls hek hset0
    go_wp2_with fail
    refine hcall.mono ?_
    rintro e w3 ⟨rfl,pm2,hp2,hf1,hf2,hc3⟩
    have HE:Hid (∃ seen pm',w3.heap[w.heap.size+1]?=some (.mapIter (some sb) clock seen clock)∧Pls bd w3 L pm' Sd∧Done (Mm.forget (leanV m cb c0)) es l ps pm seen pm'∧Chg w w3 (PlBlk L pm)∧w3.cell? ⟨w.heap.size,0,none⟩=some (.pointer (some ⟨cb c0,0,none⟩))):=by
     obtain ⟨hdn,hch2,i1,hem,hev,hls,hgood,i4⟩:=HC.out
     have hx1:∃ seen pm',w3.heap[w.heap.size+1]?=some (.mapIter (some sb) clock seen clock)∧Pls bd w3 L pm' Sd∧Done (Mm.forget (leanV m cb c0)) es l ps pm seen pm'∧Chg w w3 (PlBlk L pm)∧w3.cell? ⟨w.heap.size,0,none⟩=some (.pointer (some ⟨cb c0,0,none⟩)):=⟨seen.push en.born,pm2,(hc3.block _ (Array.getElem?_eq_some_iff.1 i1).1 (fun e=>by have:=HN.out.2.2 _ (hdn.blk hua e);omega)).trans i1,hp2,hdn.step huu hbo hem hev hls hf1 hf2,hch2.then hc3 (fun k _ e=>hdn.blk hua e),(hgood w3 ((i4.mono (fun k _ e=>.inr (.inr e))).then hc3 (fun k _ e=>.inr (.inl (hdn.blk hua e))))).1⟩
     exact hx1
    have HI3:Hid (w3.iterSeen (w.heap.size+1)=seen.push en.born):=by
     have hx1:w3.iterSeen (w.heap.size+1)=seen.push en.born:=by
      obtain ⟨hdn,hch2,i1,_⟩:=HC.out
      unfold World.iterSeen
      rw [(hc3.block _ (Array.getElem?_eq_some_iff.1 i1).1 (fun e=>by have:=HN.out.2.2 _ (hdn.blk hua e);omega)).trans i1]
     exact hx1
    clear hp2 hf1 hf2 hc3 hcall hnx hent
    go_wp2
    go_roundw
    case rel=>exact HE.out
    case measure =>
     rw [HI3.out,HSN.out]
     exact HL.out
end Go.Proofs.YtkghmgoefiepeaaGreatDoor.reads
namespace Go.Proofs.YtkghmgoefiepeaaGreatDoor.reads
open Go.ChangeShapes Go.WideShapes Go.ChangeAt Go.RowKit Kn Go.Proofs.YtkghmgoefiepeaaGreatDoor.img
variable {bd : Nat}
theorem clear_tab (w:World) (b n:Nat) (R:Nat→Rw4) (cur:Array Value) (ty:TypeId) (h:TabAt w b n R) (h1:w.heap[b]?=some (.cells cur 70)) :
 ∃ w',(Builtin.clear_ #[139] ty #[.slice (some ⟨b,6,none⟩) n 64]).run Tryz.prog w=.ok (.tuple #[]) w'∧TabAt w' b n (fun i=>if i < n then noRow else R i)∧Chg w w' (fun k=>k=b)∧SameHd w w' b:=by
 have hn1:=h.n1
 have hn64:=h.n64
 have hsz:262 < cur.size:=by
  have:=h.sz
  simp only [World.cell?,h1] at this
  simp at this
  exact (Array.getElem?_eq_some_iff.1 this).1
 obtain ⟨m,hm⟩:∃ m,n=m+1:=⟨n - 1,by omega⟩
 have hzl:(Builtin.zeroCells #[Value.pointer none,.string ⟨#[]⟩,.pointer none,.pointer none] n).toList.length=n*4:=by simp [Builtin.zeroCells]
 have hzg:∀ k,k < n*4→(Builtin.zeroCells #[Value.pointer none,.string ⟨#[]⟩,.pointer none,.pointer none] n).toList[k]?=some (#[Value.pointer none,.string ⟨#[]⟩,.pointer none,.pointer none][k % 4]!):=fun k hk=>by
  simp [Builtin.zeroCells,hk]
 have hst:=run_storeCells_at (P:=Tryz.prog) b 6 70 (Builtin.zeroCells #[Value.pointer none,.string ⟨#[]⟩,.pointer none,.pointer none] n).toList 0 cur w h1 (by rw [hzl];omega) (by
  intro v hv
  simp only [Builtin.zeroCells,Array.toList_map,List.mem_map] at hv
  obtain ⟨k,_,rfl⟩:=hv
  have hk:k % 4=0∨k % 4=1∨k % 4=2∨k % 4=3:=by omega
  show (#[Value.pointer none,.string ⟨#[]⟩,.pointer none,.pointer none][k % 4]!).oneCell'=true
  rcases hk with e | e | e | e <;> rw [e] <;> rfl)
 obtain ⟨zs,hzs⟩:∃ zs,(Builtin.zeroCells #[Value.pointer none,.string ⟨#[]⟩,.pointer none,.pointer none] n).toList=zs:=⟨_,rfl⟩
 rw [hzs] at hst hzl hzg
 rw [Nat.add_zero,hzl] at hst
 have hheap:=setRow_heap w b cur (cur.toList.take 6++zs++cur.toList.drop (6+n*4)).toArray 70 (0,0) h1
 have hlo:∀ o,o < 6∨6+n*4≤o→(cur.toList.take 6++zs++cur.toList.drop (6+n*4)).toArray[o]?=cur[o]?:=fun o ho=>by
  simp only [List.getElem?_toArray]
  by_cases h6:o < 6
  · rw [List.append_assoc,List.getElem?_append_left (by simp;omega),List.getElem?_take_of_lt h6,Array.getElem?_toList]
  · rw [List.getElem?_append_right (by simp [hzl];omega),List.getElem?_drop]
    simp only [List.length_append,List.length_take,hzl,Array.length_toList]
    rw [show 6+n*4+(o - (min 6 cur.size+n*4))=o from by omega,Array.getElem?_toList]
 have hmi:∀ k,k < n*4→(cur.toList.take 6++zs++cur.toList.drop (6+n*4)).toArray[6+k]?=some (#[Value.pointer none,.string ⟨#[]⟩,.pointer none,.pointer none][k % 4]!):=fun k hk=>by
  simp only [List.getElem?_toArray]
  rw [List.append_assoc,List.getElem?_append_right (by simp;omega),List.getElem?_append_left (by simp [hzl];omega)]
  simp only [List.length_take,Array.length_toList]
  rw [show 6+k - min 6 cur.size=k from by omega]
  exact hzg k hk
 have hclo:∀ o,o < 6∨6+n*4≤o→(w.setRow b (cur.toList.take 6++zs++cur.toList.drop (6+n*4)).toArray).cell? ⟨b,o,none⟩=w.cell? ⟨b,o,none⟩:=fun o ho=>by
  simp only [World.cell?,hheap,h1]
  simpa using hlo o ho
 have hcmi:∀ k,k < n*4→(w.setRow b (cur.toList.take 6++zs++cur.toList.drop (6+n*4)).toArray).cell? ⟨b,6+k,none⟩=some (#[Value.pointer none,.string ⟨#[]⟩,.pointer none,.pointer none][k % 4]!):=fun k hk=>by
  simp only [World.cell?,hheap]
  simpa using hmi k hk
 refine ⟨w.setRow b (cur.toList.take 6++zs++cur.toList.drop (6+n*4)).toArray,?_,⟨⟨_,_,hheap⟩,hn1,hn64,?_,fun j hj=>?_,fun j hj=>?_,fun j hj=>?_,fun j hj=>?_⟩,⟨rfl,rfl,rfl,by simp [World.setRow],fun k _ hk=>setRow_other _ _ _ _ hk⟩,⟨fun o ho=>hclo o (.inl ho),fun t ⟨cs,hcs⟩=>?_⟩⟩
 · have hv:(zeroValue 64).run Tryz.prog w=.ok (.agg #[Value.pointer none,.string ⟨#[]⟩,.pointer none,.pointer none]) w:=Tryz.zeroValue64 w
   rw [hm] at hst hzs ⊢
   simp [Builtin.clear_,run_underlying Tryz.underlying139,hv,Value.cells,hzs,hst]
 · rw [hclo _ (by omega)];exact h.sz
 · by_cases e:j < n
   · rw [show 6+j*4=6+(j*4) from rfl,hcmi _ (by omega),show j*4 % 4=0 from by omega];simp [e,noRow]
   · rw [hclo _ (by omega),h.c0 j hj];simp [e]
 · by_cases e:j < n
   · rw [show 6+j*4+1=6+(j*4+1) from rfl,hcmi _ (by omega),show (j*4+1) % 4=1 from by omega];simp [e,noRow]
   · rw [hclo _ (by omega),h.c1 j hj];simp [e]
 · by_cases e:j < n
   · rw [show 6+j*4+2=6+(j*4+2) from rfl,hcmi _ (by omega),show (j*4+2) % 4=2 from by omega];simp [e,noRow]
   · rw [hclo _ (by omega),h.c2 j hj];simp [e]
 · by_cases e:j < n
   · rw [show 6+j*4+3=6+(j*4+3) from rfl,hcmi _ (by omega),show (j*4+3) % 4=3 from by omega];simp [e,noRow]
   · rw [hclo _ (by omega),h.c3 j hj];simp [e]
 · rw [h1] at hcs
   injection hcs with hcs
   injection hcs with _ hcs _
   subst hcs
   exact ⟨_,hheap⟩
theorem no_u:∀ (x:Mm) (q:Nat),((fun _=>Mm.no) x).arr=some q→x.arr=some q:=fun x q e=>by cases e
theorem forgetAll_any (b sb n:Nat) (cur:Array Value) (l:List (ByteArray×Value)) (ps:Nat→List Nat) (R:Nat→Rw4) (L:List (Nat×ByteArray)) (pm:Nat→Mm) (Sd:ByteArray→Rw4→Prop) (w:World)
 (himg:w.heap[b]?=some (.cells cur 70)) (hb:w.cell? ⟨b,5,none⟩=some (.map (some sb))) (hs:SndAt w sb l ps) (ht:TabAt w b n R) (hP:Pls bd w L pm Sd) (hreg:∀ s p,Reg l ps s p→(p,s)∈L) :
 Calls Tryz.prog 35 #[.pointer (some ⟨b,0,none⟩)] w fun e w'=>e=.returned (.tuple #[])∧∃ pm',Pls bd w' L pm' Sd∧(∀ s p,Reg l ps s p→pm' p=.no)∧(∀ p,(∀ s,¬ Reg l ps s p)→pm' p=pm p) ∧
  TabAt w' b n (fun i=>if i < n then noRow else R i)∧Chg w w' (fun k=>k=b∨PlBlk L pm k)∧SameHd w w' b:=by
 have hbl:=ht.cel.lt
 have hbn:¬ PlBlk L pm b:=not_plBlk hP himg (by decide) (by decide)
 have hplt:=hP.lt
 obtain ⟨es,clock,hmb,hho,hbo,hun⟩:=id hs.map
 have hsl:=hs.map.lt
 have hsn:¬ PlBlk L pm sb:=not_plBlk_map hP hmb
 have HS:Hid (SndAt w sb l ps∧TabAt w b n R∧Pls bd w L pm Sd∧(∀ s p,Reg l ps s p→(p,s)∈L)∧w.heap[b]?=some (.cells cur 70)):=⟨hs,ht,hP,hreg,himg⟩
 have HN:Hid (¬ PlBlk L pm b∧(∀ k,PlBlk L pm k→k < w.heap.size)):=⟨hbn,hplt⟩
 clear hs ht hP hreg hbn hplt himg
 have hrg:=run_range_map (P:=Tryz.prog) w 56 _ _ sb es clock Tryz.underlying56 hmb
 go_enter Tryz.func35,Tryz.ntmps35
 go_wp2
 clear hrg
 go_loopw [9] (fun _ wr=>∃ seen pm',wr.heap[w.heap.size]?=some (.mapIter (some sb) clock seen clock)∧Pls bd wr L pm' Sd∧Done (fun _=>.no) es l ps pm seen pm'∧Chg w wr (PlBlk L pm)) (fun _ wr=>(leftOf es (wr.iterSeen w.heap.size)).size)
 case atStart =>
  exact ⟨#[],pm,(MapKept.heap_alloc w _).1,HS.out.2.2.1.same (fun k hk=>Below.heap_alloc _ _ _ (HN.out.2 k hk)),Done.start _ _ _ _ _,(Chg.refl w _).alloc _⟩
 case round =>
  obtain ⟨seen,pm',hit,hpl,hdn,hch⟩:=hrel
  have hbr:wr.heap[sb]?=some (.map es clock):=(hch.block sb hsl hsn).trans hmb
  rcases run_next_at (P:=Tryz.prog) wr 0 w.heap.size sb clock clock seen es clock hit hbr (fun x hx=>hbo.1 x hx) (Nat.le_refl _) with ⟨hl0,hnx⟩ | ⟨en,hen,w1,hw1,hnx⟩
  · have hbb:=hch.block b hbl HN.out.1
    have htr:TabAt wr b n R:=HS.out.2.1.same hbb
    obtain ⟨w3,hrun3,ht3,hc3,hd3⟩:=clear_tab wr.drew b n R cur 0 (htr.same rfl) (hbb.trans HS.out.2.2.2.2)
    have hrun3':∀ ty,(Builtin.clear_ #[139] ty #[.slice (some ⟨b,6,none⟩) n 64]).run Tryz.prog wr.drew=.ok (.tuple #[]) w3:=fun ty=>hrun3
    have hcall:=entries_any b n R wr htr
    have HC:Hid (Pls bd wr L pm' Sd∧Done (fun _=>.no) es l ps pm seen pm'∧Chg w wr (PlBlk L pm)∧(leftOf es seen).size=0):=⟨hpl,hdn,hch,hl0⟩
    have HE:Hid (TabAt w3 b n (fun i=>if i < n then noRow else R i)∧Chg wr w3 (fun k=>k=b)∧SameHd wr w3 b):=⟨ht3,(Chg.refl wr _).drew.trans hc3,(SameHd.of_block (w:=wr) (w':=wr.drew) rfl).trans hd3⟩
    clear hpl hdn hch htr hit hbr ht3 hc3 hd3 hrun3
    go_wp2_with fail
    refine hcall.mono ?_
    rintro e w2 ⟨rfl,rfl⟩
    go_wp2
    go_end0
    obtain ⟨hpl,hdn,hch,hl0⟩:=HC.out
    obtain ⟨ht3,hc3,hd3⟩:=HE.out
    obtain ⟨hf1,hf2⟩:=hdn.finish hho hl0
    refine ⟨rfl,pm',hpl.same (fun k hk=>hc3.block k (Nat.lt_of_lt_of_le (HN.out.2 k (hdn.blk no_u hk)) hch.size) (fun e=>?_)),hf1,hf2,ht3,(hch.mono (fun k _ e=>.inr e)).then hc3 (fun k _ e=>.inl e),(SameHd.of_block (hch.block b hbl HN.out.1)).trans hd3⟩
    subst e
    exact HN.out.1 (hdn.blk no_u hk)
  · have hem:=(mem_left hen).1
    obtain ⟨s,ib,hek,hev,hls,hset0⟩:=entry_set HS.out.1 hho hun hem
    obtain ⟨i1,i2,i3,i4⟩:=iter_step (o':=.mapIter (some sb) clock (seen.push en.born) clock) hw1 hit
    obtain ⟨W2,hW2⟩:∃ W2,W2=ChangeMaps.setBlock w1 w.heap.size (.mapIter (some sb) clock (seen.push en.born) clock):=⟨_,rfl⟩
    rw [← hW2] at i1 i2 i3 i4 hnx
    clear hW2
    have hent:=run_entry_at (P:=Tryz.prog) W2 w.heap.size sb clock seen es clock en i1 ((i2 sb (by omega)).trans hbr) hem hbo.2
    rw [hek,hev] at hnx hent
    have hpl2:Pls bd W2 L pm' Sd:=hpl.same (fun k hk=>i2 k (fun e=>by have:=HN.out.2 k (hdn.blk no_u hk);omega))
    have hset:PSet W2 ib (ps ib):=by
     obtain ⟨es',ck',hx,_⟩:=id hset0
     refine hset0.same ((i2 ib (fun e=>by have:=hset0.lt;omega)).trans (hch.block ib hset0.lt (not_plBlk_map HS.out.2.2.1 hx)))
    have hcall:=pnone_any ib (ps ib) L pm' Sd W2 hset (fun p hp=>⟨s,HS.out.2.2.2.1 s p ⟨ib,hls,hp⟩⟩) hpl2
    have HL:Hid ((leftOf es (seen.push en.born)).size < (leftOf es seen).size):=left_shrinks es seen en hen
    have HSN:Hid (wr.iterSeen w.heap.size=seen):=by
     have hx1:wr.iterSeen w.heap.size=seen:=by unfold World.iterSeen;rw [hit]
     exact hx1
    have HC:Hid (Done (fun _=>.no) es l ps pm seen pm'∧Chg w W2 (PlBlk L pm)∧W2.heap[w.heap.size]?=some (.mapIter (some sb) clock (seen.push en.born) clock)∧en∈es.toList∧en.val=.map (some ib)∧l.lookup s=some (.map (some ib))∧Chg wr W2 (fun k=>k=w.heap.size)):=⟨hdn,hch.then i4 (fun k hk e=>by omega),i1,hem,hev,hls,i4⟩
    clear hpl hdn hch hit hbr i1 i2 i3 i4 hpl2 hset hen hem hw1 hev hls hek hset0
    go_wp2_with fail
    refine hcall.mono ?_
    rintro e w3 ⟨rfl,pm2,hp2,hf1,hf2,hc3⟩
    have HE:Hid (∃ seen pm',w3.heap[w.heap.size]?=some (.mapIter (some sb) clock seen clock)∧Pls bd w3 L pm' Sd∧Done (fun _=>.no) es l ps pm seen pm'∧Chg w w3 (PlBlk L pm)):=by
     obtain ⟨hdn,hch2,i1,hem,hev,hls,i4⟩:=HC.out
     have hx1:∃ seen pm',w3.heap[w.heap.size]?=some (.mapIter (some sb) clock seen clock)∧Pls bd w3 L pm' Sd∧Done (fun _=>.no) es l ps pm seen pm'∧Chg w w3 (PlBlk L pm):=⟨seen.push en.born,pm2,(hc3.block _ (Array.getElem?_eq_some_iff.1 i1).1 (fun e=>by have:=HN.out.2 _ (hdn.blk no_u e);omega)).trans i1,hp2,hdn.step (fun _=>rfl) hbo hem hev hls hf1 hf2,hch2.then hc3 (fun k _ e=>hdn.blk no_u e)⟩
     exact hx1
    have HI3:Hid (w3.iterSeen w.heap.size=seen.push en.born):=by
     have hx1:w3.iterSeen w.heap.size=seen.push en.born:=by
      obtain ⟨hdn,hch2,i1,_⟩:=HC.out
      unfold World.iterSeen
      rw [(hc3.block _ (Array.getElem?_eq_some_iff.1 i1).1 (fun e=>by have:=HN.out.2 _ (hdn.blk no_u e);omega)).trans i1]
     exact hx1
    clear hp2 hf1 hf2 hc3 hcall hnx hent
    go_wp2
    go_roundw
    case rel=>exact HE.out
    case measure =>
     rw [HI3.out,HSN.out]
     exact HL.out
def leanS (sel:ByteArray) (r:Rw4):Bool:=decide (r.sel=sel)
theorem leansS (sel:ByteArray) (x:Nat):Leans 72 #[.pointer (some ⟨x,0,none⟩)] (leanS sel) (fun W=>W.cell? ⟨x,0,none⟩=some (.string sel)) (fun _=>True):=by
 refine ⟨fun args W=>by simp [go_sem],fun W r hx _=>?_⟩
 have hxl:=World.block_lt_of_cell? W ⟨x,0,none⟩ hx
 show Calls _ _ #[_,_] _ _
 by_cases he:r.sel=sel
 · have htl:r.sel.toList=sel.toList:=by rw [he]
   rw [show leanS sel r=true from by simp [leanS,he]]
   unfold Rw4.val
   clear he
   go_enter Tryz.func72,Tryz.ntmps72
   go_wp2
   go_ret
   exact ⟨by first | rfl | simp,(Below.refl _ _).alloc (Nat.le_refl _) _⟩
 · have hne:=ba_apart he
   rw [show leanS sel r=false from by simp [leanS,he]]
   unfold Rw4.val
   clear he
   go_enter Tryz.func72,Tryz.ntmps72
   go_wp2
   go_ret
   exact ⟨rfl,(Below.refl _ _).alloc (Nat.le_refl _) _⟩
theorem forgetSel_any (b sb n:Nat) (cur:Array Value) (l:List (ByteArray×Value)) (ps:Nat→List Nat) (R:Nat→Rw4) (L:List (Nat×ByteArray)) (pm:Nat→Mm) (Sd:ByteArray→Rw4→Prop) (sel:ByteArray) (w:World)
 (himg:w.heap[b]?=some (.cells cur 70)) (hb:w.cell? ⟨b,5,none⟩=some (.map (some sb))) (hs:SndAt w sb l ps) (ht:TabAt w b n R) (hP:Pls bd w L pm Sd) (hreg:∀ s p,Reg l ps s p→(p,s)∈L) :
 Calls Tryz.prog 36 #[.pointer (some ⟨b,0,none⟩),.string sel] w fun e w'=>e=.returned (.tuple #[])∧∃ pm',Pls bd w' L pm' Sd∧(∀ p,Reg l ps sel p→pm' p=.no)∧(∀ p,¬ Reg l ps sel p→pm' p=pm p) ∧
  TabAt w' b n (fun i=>if i < n∧leanS sel (R i)=true then noRow else R i)∧Chg w w' (fun k=>k=b∨PlBlk L pm k)∧SameHd w w' b:=by
 have hmf:∀ (fn:Fn) (first cap:Array Value) (w:World),(Instr.makeFunc fn first cap).run Tryz.prog w=.ok (.func fn first cap) w:=fun _ _ _ _=>rfl
 have hbl:=ht.cel.lt
 have hbn:¬ PlBlk L pm b:=not_plBlk hP himg (by decide) (by decide)
 have hplt:=hP.lt
 have HS:Hid (SndAt w sb l ps∧TabAt w b n R∧Pls bd w L pm Sd∧(∀ s p,Reg l ps s p→(p,s)∈L)):=⟨hs,ht,hP,hreg⟩
 have HN:Hid (¬ PlBlk L pm b∧(∀ k,PlBlk L pm k→k < w.heap.size)):=⟨hbn,hplt⟩
 clear hs ht hP hreg hbn hplt himg
 go_enter Tryz.func36,Tryz.ntmps36
 go_wp2_with fail
 have hz0:(w.alloc (.cells #[.string sel] 9)).heap[w.heap.size]?=some (.cells #[.string sel] 9):=(MapKept.heap_alloc w _).1
 have hb0:(w.alloc (.cells #[.string sel] 9)).cell? ⟨b,5,none⟩=some (.map (some sb)):=by go_keep
 have hch0:Chg w (w.alloc (.cells #[.string sel] 9)) (fun _=>False):=(Chg.refl w _).alloc _
 revert hz0 hb0 hch0
 generalize w.alloc (.cells #[.string sel] 9)=W0
 intro hz0 hb0 hch0
 have zl:w.heap.size < W0.heap.size:=(Array.getElem?_eq_some_iff.1 hz0).1
 have zc:W0.cell? ⟨w.heap.size,0,none⟩=some (.string sel):=by simp only [World.cell?,hz0];rfl
 have hs0:SndAt W0 sb l ps:=HS.out.1.chg hch0 (fun h=>h) (fun _ _ _ h=>h) (fun _ _ _ _ _ h=>h.elim)
 have hP0:Pls bd W0 L pm Sd:=HS.out.2.2.1.same (fun k hk=>hch0.block k (HN.out.2 k hk) (fun h=>h))
 have HW0:Hid (SndAt W0 sb l ps∧Pls bd W0 L pm Sd∧Chg w W0 (fun _=>False)∧TabAt W0 b n R):=⟨hs0,hP0,hch0,HS.out.2.1.same (hch0.block b hbl (fun h=>h))⟩
 have hbw0:b < W0.heap.size:=Nat.lt_of_lt_of_le hbl hch0.size
 have HZC:Hid _:=zc
 -- the table's part,behind whatever the set's part has left
 have htail:∀ (w2:World) (pm':Nat→Mm),Pls bd w2 L pm' Sd→(∀ p,Reg l ps sel p→pm' p=.no)→(∀ p,¬ Reg l ps sel p→pm' p=pm p)→Chg W0 w2 (PlBlk L pm) →
  Calls Tryz.prog 71 #[.pointer (some ⟨b,6,none⟩),.func (.func 72) #[] #[.pointer (some ⟨w.heap.size,0,none⟩)]] w2 fun e w'=>e=.returned (.tuple #[])∧∃ pm',Pls bd w' L pm' Sd∧(∀ p,Reg l ps sel p→pm' p=.no)∧(∀ p,¬ Reg l ps sel p→pm' p=pm p) ∧
   TabAt w' b n (fun i=>if i < n∧leanS sel (R i)=true then noRow else R i)∧Chg w w' (fun k=>k=b∨PlBlk L pm k)∧SameHd w w' b:=by
  intro w2 pm' hP2 hf1 hf2 hc2
  obtain ⟨_,_,hc00,ht00⟩:=HW0.out
  have ht2:=ht00.same (hc2.block b hbw0 HN.out.1)
  refine (tforget_h b n _ _ _ _ _ R w2 (leansS sel w.heap.size) (fun _ _=>trivial) (fun W hW=>?_) ht2).mono ?_
  · refine (World.cell?_of_block (a:=⟨w.heap.size,0,none⟩) ((hW.block _ (Nat.lt_of_lt_of_le zl hc2.size) (fun e=>?_)).trans (hc2.block _ zl (fun e=>?_)))).trans HZC.out
    · omega
    · have:=HN.out.2 _ e;omega
  · rintro e w3 ⟨rfl,ht3,hc3,hd3⟩
    have hblk:∀ k,PlBlk L pm' k→PlBlk L pm k:=by
     rintro k ⟨p,s,hps,e | e⟩
     · exact ⟨p,s,hps,.inl e⟩
     · refine ⟨p,s,hps,.inr ?_⟩
       by_cases hreg:Reg l ps sel p
       · rw [hf1 p hreg] at e;cases e
       · rw [hf2 p hreg] at e;exact e
    refine ⟨rfl,pm',hP2.same (fun k hk=>hc3.block k ?_ (fun e=>?_)),hf1,hf2,ht3,?_,(SameHd.of_block ((hc2.block b hbw0 HN.out.1).trans (hc00.block b hbl (fun h=>h)))).trans hd3⟩
    · exact Nat.lt_of_lt_of_le (HN.out.2 k (hblk k hk)) (Nat.le_trans hc00.size hc2.size)
    · subst e;exact HN.out.1 (hblk _ hk)
    · exact ((hc00.mono (fun _ _ h=>h.elim)).then hc2 (fun k _ e=>.inr e)).then hc3 (fun k _ e=>.inl e)
 have HTL:Hid _:=htail
 clear hz0 hs0 hP0 hch0 htail hmf hb
 cases hl:l.lookup sel with
 | none =>
  have lk:(Instr.lookup 56 (.map (some sb)) (.string sel) false).run Tryz.prog W0.drew=.ok (.map none) W0.drew:=by rw [lookup_snd W0.drew sb l HW0.out.1.drew.map,hl];rfl
  have HNR:Hid (∀ p,¬ Reg l ps sel p):=by
   have hx1:∀ p,¬ Reg l ps sel p:=fun p ⟨ib,e,_⟩=>by rw [hl] at e;cases e
   exact hx1
  clear hl
  refine wp_region_noPanic ?_
  refine wp_region_held_drew (S:=(fun w'=>w'.cell? ⟨b,5,none⟩=some (.map (some sb))∧w'.cell? ⟨w.heap.size,0,none⟩=some (.string sel))) (by kernel_rfl) (by go_keep) (fun hHeld=>?_)
  refine tkH 0 ?_
  refine tkH 1 ?_
  refine tkH 2 ?_
  refine tkH 3 ?_
  refine tkL 4 ?_
  refine rdH 5 fun Kmac hKmac=>?_
  go_simp
  refine hKmac.go fun hHeld=>?_
  clear hKmac Kmac
  try refine lyH ?_
  refine rdH 6 fun Kmac hKmac=>?_
  go_simp
  refine (pnone_nil _).mono ?_;rintro e w2 ⟨rfl,hb2⟩;have hb3:w2.cell? ⟨b,5,none⟩=some (.map (some sb)):=(hb2.cell (p:=⟨b,5,none⟩) hbw0).trans hb0;have zc3:w2.cell? ⟨w.heap.size,0,none⟩=some (.string sel):=(hb2.cell (p:=⟨w.heap.size,0,none⟩) zl).trans zc
  try go_wp2_with fail
  refine hKmac.go fun hHeld=>?_
  clear hKmac Kmac
  try refine lyH ?_
  refine wpAnyH_done (by kernel_rfl) ?_ _
  refine NoPanic.normal ?_
  have HC2:Hid (Chg W0 w2 (PlBlk L pm)):=(Chg.refl W0 _).drew.trans (Chg.of_below hb2 _)
  have htab:=HTL.out w2 pm (HW0.out.2.1.same (fun k hk=>hb2.block k (Nat.lt_of_lt_of_le (HN.out.2 k hk) HW0.out.2.2.1.size))) (fun p h=>absurd h (HNR.out p)) (fun p _=>rfl) HC2.out
  clear hb2 hb0 zc lk
  clear hHeld
  clear hHeld
  clear hHeld
  go_wp2_with fail
  refine htab.mono ?_
  rintro e w3 ⟨rfl,hres⟩
  go_wp2
  go_end0
  exact ⟨rfl,hres⟩
 | some v =>
  obtain ⟨ib,rfl,hset,_⟩:=HW0.out.1.inn sel v hl
  have lk:(Instr.lookup 56 (.map (some sb)) (.string sel) false).run Tryz.prog W0.drew=.ok (.map (some ib)) W0.drew:=by rw [lookup_snd W0.drew sb l HW0.out.1.drew.map,hl];rfl
  have hcall:=pnone_any ib (ps ib) L pm Sd W0.drew (hset.same rfl) (fun p hp=>⟨sel,HS.out.2.2.2 sel p ⟨ib,hl,hp⟩⟩) (HW0.out.2.1.same (fun _ _=>rfl))
  have HRG:Hid (∀ p,Reg l ps sel p ↔ p∈ps ib):=by
   have hx1:∀ p,Reg l ps sel p ↔ p∈ps ib:=fun p=>⟨fun ⟨jb,e,h⟩=>by rw [hl] at e;have:=mapv_inj e;subst this;exact h,fun h=>⟨ib,hl,h⟩⟩
   exact hx1
  have hzn:¬ PlBlk L pm w.heap.size:=fun e=>by have:=HN.out.2 _ e;omega
  have hbn:=HN.out.1
  clear hset hl
  refine wp_region_noPanic ?_
  refine wp_region_held_drew (S:=(fun w'=>w'.cell? ⟨b,5,none⟩=some (.map (some sb))∧w'.cell? ⟨w.heap.size,0,none⟩=some (.string sel))) (by kernel_rfl) (by go_keep) (fun hHeld=>?_)
  refine tkH 0 ?_
  refine tkH 1 ?_
  refine tkH 2 ?_
  refine tkH 3 ?_
  refine tkL 4 ?_
  refine rdH 5 fun Kmac hKmac=>?_
  go_simp
  refine hKmac.go fun hHeld=>?_
  clear hKmac Kmac
  try refine lyH ?_
  refine rdH 6 fun Kmac hKmac=>?_
  go_simp
  refine hcall.mono ?_;rintro e w2 ⟨rfl,pm',hp2,hf1,hf2,hb2⟩;have hb3:w2.cell? ⟨b,5,none⟩=some (.map (some sb)):=(World.cell?_of_block (a:=⟨b,5,none⟩) (hb2.block b hbw0 hbn)).trans hb0;have zc3:w2.cell? ⟨w.heap.size,0,none⟩=some (.string sel):=(World.cell?_of_block (a:=⟨w.heap.size,0,none⟩) (hb2.block _ zl hzn)).trans zc
  try go_wp2_with fail
  refine hKmac.go fun hHeld=>?_
  clear hKmac Kmac
  try refine lyH ?_
  refine wpAnyH_done (by kernel_rfl) ?_ _
  refine NoPanic.normal ?_
  have HC2:Hid (Chg W0 w2 (PlBlk L pm)):=(Chg.refl W0 _).drew.trans hb2
  have htab:=HTL.out w2 pm' hp2 (fun p h=>hf1 p ((HRG.out p).1 h)) (fun p h=>hf2 p (fun h'=>h ((HRG.out p).2 h'))) HC2.out
  clear hb2 hb0 zc lk hp2 hf1 hf2 hcall
  clear hHeld
  clear hHeld
  clear hHeld
  go_wp2_with fail
  refine htab.mono ?_
  rintro e w3 ⟨rfl,hres⟩
  go_wp2
  go_end0
  exact ⟨rfl,hres⟩
theorem moves_cor {w:World}{b:Nat}{K:Kc}{Sd:ByteArray→Rw4→Prop}{Sr:Rw4→Prop} (h:Cor w b K (fun _=>False) Sd Sr) (m:Im) (cb cm:Nat→Nat) (c0:Nat) (hm:ImOk m) (hc0:c0 < m.kl.length) (hcl:Cls w m cb cm)
 (hQ:∀ s r,Sd s r→RowQ m cb r) (hR:∀ r,Sr r→RowQ m cb r) :
 Calls Tryz.prog 66 #[.pointer (some ⟨b,0,none⟩),.pointer (some ⟨cb c0,0,none⟩)] w fun e w'=>e=.returned (.tuple #[])∧∃ pm R,Cor w' b { K with pm:=pm,R:=R } (fun _=>False) (fun s r=>Sd s r∧leanV m cb c0 r=false) (fun r=>(Sr r∧leanV m cb c0 r=false)∨r=noRow) ∧
  (∀ p q,(pm p).arr=some q→(K.pm p).arr=some q)∧Chg w w' (fun k=>k=b∨PlBlk K.L K.pm k)∧SameHd w w' b:=by
 obtain ⟨cur,hcur⟩:=h.img
 refine (moves_any m cb cm b c0 K.sb K.n cur K.l K.ps K.R K.L K.pm Sd w hm hc0 hcur h.b5 h.snd h.tab hcl h.pls h.reg hQ (fun i hi=>hR _ (h.rows i hi))).mono ?_
 rintro e w' ⟨rfl,pm',hP,hf1,hf2,hT,hch,hd⟩
 have hcase:∀ p,(∃ s,Reg K.l K.ps s p∧pm' p=(K.pm p).forget (leanV m cb c0))∨((∀ s,¬ Reg K.l K.ps s p)∧pm' p=K.pm p):=fun p=>by
  by_cases e:∃ s,Reg K.l K.ps s p
  · obtain ⟨s,e⟩:=e;exact .inl ⟨s,e,hf1 s p e⟩
  · exact .inr ⟨fun s e'=>e ⟨s,e'⟩,hf2 p (fun s e'=>e ⟨s,e'⟩)⟩
 have ha:∀ p q,(pm' p).arr=some q→(K.pm p).arr=some q:=fun p q e=>by
  rcases hcase p with ⟨s,_,h1⟩ | ⟨_,h1⟩
  · rw [h1] at e
    rcases Mm.forget_arr (leanV m cb c0) (K.pm p) with h1 | h1
    · rw [h1] at e;cases e
    · rw [h1] at e;exact e
  · rw [h1] at e;exact e
 refine ⟨rfl,pm',_,h.forgot (hP.weaken (fun p s r hps hr hsd=>⟨hsd,?_⟩)) hT (fun i hi=>?_) (fun p s hps e=>.inr ?_) ha hch hd,ha,hch,hd⟩
 · rcases hcase p with ⟨s,_,h1⟩ | ⟨h0,h1⟩
   · rw [h1] at hr
     exact (Mm.forget_rows hr).2
   · rw [h1] at hr
     rcases h.told p s hps with e | e | e
     · exact absurd e (h0 s)
     · rw [e] at hr;cases hr
     · exact e.elim
 · by_cases e:i < K.n∧leanV m cb c0 (K.R i)=true
   · rw [if_pos e];exact .inr rfl
   · rw [if_neg e]
     refine .inl ⟨h.rows i hi,?_⟩
     cases hl:leanV m cb c0 (K.R i) with
     | false=>rfl
     | true=>exact absurd ⟨hi,hl⟩ e
 · rcases hcase p with ⟨s,_,h1⟩ | ⟨_,h1⟩
   · rw [h1];exact Mm.forget_only.2 e
   · rw [h1];exact e
theorem forgetAll_cor {w:World}{b:Nat}{K:Kc}{Sd:ByteArray→Rw4→Prop}{Sr:Rw4→Prop} (h:Cor w b K (fun _=>False) Sd Sr) (hR:Sr noRow) :
 Calls Tryz.prog 35 #[.pointer (some ⟨b,0,none⟩)] w fun e w'=>e=.returned (.tuple #[])∧∃ pm R,Cor w' b { K with pm:=pm,R:=R } (fun _=>False) Sd Sr ∧
  (∀ p q,(pm p).arr=some q→(K.pm p).arr=some q)∧Chg w w' (fun k=>k=b∨PlBlk K.L K.pm k)∧SameHd w w' b:=by
 obtain ⟨cur,hcur⟩:=h.img
 refine (forgetAll_any b K.sb K.n cur K.l K.ps K.R K.L K.pm Sd w hcur h.b5 h.snd h.tab h.pls h.reg).mono ?_
 rintro e w' ⟨rfl,pm',hP,hf1,hf2,hT,hch,hd⟩
 have hcase:∀ p,(∃ s,Reg K.l K.ps s p∧pm' p=.no)∨pm' p=K.pm p:=fun p=>by
  by_cases e:∃ s,Reg K.l K.ps s p
  · obtain ⟨s,e⟩:=e;exact .inl ⟨s,e,hf1 s p e⟩
  · exact .inr (hf2 p (fun s e'=>e ⟨s,e'⟩))
 have ha:∀ p q,(pm' p).arr=some q→(K.pm p).arr=some q:=fun p q e=>by
  rcases hcase p with ⟨s,_,h1⟩ | h1
  · rw [h1] at e;cases e
  · rw [h1] at e;exact e
 refine ⟨rfl,pm',_,h.forgot hP hT (fun i hi=>by rw [if_pos hi];exact hR) (fun p s hps e=>?_) ha hch hd,ha,hch,hd⟩
 by_cases hr:Reg K.l K.ps s p
 · exact .inl hr
 · rcases hcase p with ⟨t,ht,h1⟩ | h1
   · have:=h.pls.one hps (h.reg t p ht)
     subst this
     exact absurd ht hr
   · exact .inr (h1.trans e)
theorem forgetSel_cor {w:World}{b:Nat}{K:Kc}{Sd:ByteArray→Rw4→Prop}{Sr:Rw4→Prop} (h:Cor w b K (fun _=>False) Sd Sr) (hR:Sr noRow) (sel:ByteArray) :
 Calls Tryz.prog 36 #[.pointer (some ⟨b,0,none⟩),.string sel] w fun e w'=>e=.returned (.tuple #[])∧∃ pm R,Cor w' b { K with pm:=pm,R:=R } (fun _=>False) Sd Sr ∧
  (∀ p q,(pm p).arr=some q→(K.pm p).arr=some q)∧Chg w w' (fun k=>k=b∨PlBlk K.L K.pm k)∧SameHd w w' b:=by
 obtain ⟨cur,hcur⟩:=h.img
 refine (forgetSel_any b K.sb K.n cur K.l K.ps K.R K.L K.pm Sd sel w hcur h.b5 h.snd h.tab h.pls h.reg).mono ?_
 rintro e w' ⟨rfl,pm',hP,hf1,hf2,hT,hch,hd⟩
 have ha:∀ p q,(pm' p).arr=some q→(K.pm p).arr=some q:=fun p q e=>by
  by_cases hr:Reg K.l K.ps sel p
  · rw [hf1 p hr] at e;cases e
  · rw [hf2 p hr] at e;exact e
 refine ⟨rfl,pm',_,h.forgot hP hT (fun i hi=>?_) (fun p s hps e=>?_) ha hch hd,ha,hch,hd⟩
 · by_cases e:i < K.n∧leanS sel (K.R i)=true
   · rw [if_pos e];exact hR
   · rw [if_neg e];exact h.rows i hi
 · by_cases hr:Reg K.l K.ps sel p
   · have:=h.pls.one hps (h.reg sel p hr)
     subst this
     exact .inl hr
   · exact .inr ((hf2 p hr).trans e)
end Go.Proofs.YtkghmgoefiepeaaGreatDoor.reads
