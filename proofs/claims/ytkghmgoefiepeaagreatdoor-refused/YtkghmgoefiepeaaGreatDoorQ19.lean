import Derived.Test.YtkghmgoefiepeaaGreatDoorQ0
import Derived.Test.YtkghmgoefiepeaaGreatDoorQ18
set_option linter.unusedSimpArgs false
set_option linter.unusedVariables false
set_option maxHeartbeats 4000000
set_option maxRecDepth 100000
namespace Go.Proofs.YtkghmgoefiepeaaGreatDoor.reads
open Go.ChangeShapes Go.WideShapes Go.ChangeAt Go.RowKit Kn Go.Proofs.YtkghmgoefiepeaaGreatDoor.img
variable {bd : Nat}
def Mm.arr:Mm→Option Nat
 | .many q _ _=>some q
 | _=>none
def Mm.forget (φ:Rw4→Bool):Mm→Mm
 | .one r=>if φ r=true then .no else .one r
 | .many q cap rs=>.many q cap (rs.filter (fun r=>!φ r))
 | m=>m
theorem Mm.forget_rows {φ:Rw4→Bool}{m:Mm}{r:Rw4} (h:r∈(m.forget φ).rows):r∈m.rows∧φ r=false:=by
 cases m with
 | no=>cases h
 | only=>cases h
 | one o =>
  simp only [Mm.forget] at h
  by_cases e:φ o=true
  · rw [if_pos e] at h;cases h
  · rw [if_neg e] at h
    simp [Mm.rows] at h
    subst h
    exact ⟨by simp [Mm.rows],by simpa using e⟩
 | many q cap rs =>
  simp only [Mm.forget,Mm.rows,List.mem_filter] at h ⊢
  exact ⟨h.1,by simpa using h.2⟩
theorem Mm.forget_arr (φ:Rw4→Bool) (m:Mm):(m.forget φ).arr=none∨(m.forget φ).arr=m.arr:=by
 cases m with
 | no=>exact .inl rfl
 | only=>exact .inl rfl
 | one o=>unfold Mm.forget;by_cases e:φ o=true <;> simp [e,Mm.arr]
 | many q cap rs=>exact .inr rfl
theorem Mm.forget_twice (φ:Rw4→Bool) (m:Mm):(m.forget φ).forget φ=m.forget φ:=by
 cases m with
 | no=>rfl
 | only=>rfl
 | one o =>
  unfold Mm.forget
  by_cases e:φ o=true
  · simp [e]
  · simp [e]
 | many q cap rs=>simp [Mm.forget]
theorem Mm.forget_only {φ:Rw4→Bool}{m:Mm}:m.forget φ=.only ↔ m=.only:=by
 cases m with
 | no=>simp [Mm.forget]
 | only=>simp [Mm.forget]
 | one o=>unfold Mm.forget;by_cases e:φ o=true <;> simp [e]
 | many q cap rs=>simp [Mm.forget]
structure Pls (bd:Nat) (w:World) (L:List (Nat×ByteArray)) (pm:Nat→Mm) (Sd:ByteArray→Rw4→Prop):Prop where
 b6:bd≤6
 nd:(L.map (·.1)).Nodup
 at_:∀ p s,(p,s)∈L→w.heap[p]?=some (.cells #[(pm p).val] 198)
 ok:∀ p s,(p,s)∈L→(pm p).Ok w∧(pm p).rows.length≤bd
 rows:∀ p s r,(p,s)∈L→r∈(pm p).rows→Sd s r
 arr:∀ p s p' s' q,(p,s)∈L→(p',s')∈L→(pm p).arr=some q→(pm p').arr=some q→p=p'
def PlBlk (L:List (Nat×ByteArray)) (pm:Nat→Mm) (k:Nat):Prop:=∃ p s,(p,s)∈L∧(k=p∨(pm p).arr=some k)
theorem Pls.one {w:World}{L:List (Nat×ByteArray)}{pm:Nat→Mm}{Sd:ByteArray→Rw4→Prop} (h:Pls bd w L pm Sd) {p:Nat}{s s':ByteArray} (h1:(p,s)∈L) (h2:(p,s')∈L):s=s':=by
 have hnd:=h.nd
 clear h
 induction L with
 | nil=>cases h1
 | cons x l ih =>
  rw [List.map_cons,List.nodup_cons] at hnd
  rcases List.mem_cons.1 h1 with e1 | h1
  · rcases List.mem_cons.1 h2 with e2 | h2
    · rw [← e1] at e2;injection e2 with _ e2;exact e2.symm
    · exact absurd (List.mem_map.2 ⟨_,h2,by rw [← e1]⟩) hnd.1
  · rcases List.mem_cons.1 h2 with e2 | h2
    · exact absurd (List.mem_map.2 ⟨_,h1,by rw [← e2]⟩) hnd.1
    · exact ih h1 h2 hnd.2
theorem Pls.cel {w:World}{L:List (Nat×ByteArray)}{pm:Nat→Mm}{Sd:ByteArray→Rw4→Prop} (h:Pls bd w L pm Sd) {p:Nat}{s:ByteArray} (hp:(p,s)∈L):Cel w p:=⟨_,_,h.at_ p s hp⟩
theorem Pls.arrCel {w:World}{L:List (Nat×ByteArray)}{pm:Nat→Mm}{Sd:ByteArray→Rw4→Prop} (h:Pls bd w L pm Sd) {p q:Nat}{s:ByteArray} (hp:(p,s)∈L) (hq:(pm p).arr=some q):∃ cur,w.heap[q]?=some (.cells cur 64 (0,0)):=by
 have hok:=(h.ok p s hp).1
 cases hm:pm p with
 | no=>rw [hm] at hq;cases hq
 | only=>rw [hm] at hq;cases hq
 | one r=>rw [hm] at hq;cases hq
 | many q' cap rs =>
  rw [hm] at hq hok
  simp [Mm.arr] at hq
  subst hq
  obtain ⟨cur,h1,_⟩:=(RIn.of_ok hok).blk
  exact ⟨cur,h1⟩
theorem Mm.Ok.keep {w w':World}{m:Mm} (h:m.Ok w) (hq:∀ q,m.arr=some q→w'.heap[q]?=w.heap[q]?):m.Ok w':=by
 cases m with
 | no=>trivial
 | only=>trivial
 | one r=>trivial
 | many q cap rs=>exact Mm.Ok.same h (hq q rfl)
theorem Pls.same {w w':World}{L:List (Nat×ByteArray)}{pm:Nat→Mm}{Sd:ByteArray→Rw4→Prop} (h:Pls bd w L pm Sd) (hk:∀ k,PlBlk L pm k→w'.heap[k]?=w.heap[k]?):Pls bd w' L pm Sd :=
 ⟨h.b6,h.nd,fun p s hp=>(hk p ⟨p,s,hp,.inl rfl⟩).trans (h.at_ p s hp),fun p s hp=>⟨(h.ok p s hp).1.keep (fun q hq=>hk q ⟨p,s,hp,.inr hq⟩),(h.ok p s hp).2⟩,h.rows,h.arr⟩
theorem Pls.upd {w w':World}{L:List (Nat×ByteArray)}{pm:Nat→Mm}{Sd:ByteArray→Rw4→Prop} (h:Pls bd w L pm Sd) {p:Nat}{s:ByteArray} (hp:(p,s)∈L) {m:Mm}
 (hc:Chg w w' (fun k=>k=p∨(pm p).arr=some k)) (hat:w'.heap[p]?=some (.cells #[m.val] 198)) (hok:m.Ok w') (h6:m.rows.length≤bd) (hr:∀ r∈m.rows,Sd s r)
 (hq:∀ q,m.arr=some q→(pm p).arr=some q∨w.heap.size≤q):Pls bd w' L (fun k=>if k=p then m else pm k) Sd:=by
 have hplc:∀ p' s',(p',s')∈L→p'≠p→w'.heap[p']?=w.heap[p']?:=fun p' s' hp' hne=>hc.block p' (h.cel hp').lt (fun e=>by
  rcases e with e | e
  · exact hne e
  · obtain ⟨cur,hcur⟩:=h.arrCel hp e
    have:=h.at_ p' s' hp'
    rw [hcur] at this
    injection this with this
    injection this with _ this _
    revert this
    decide)
 have harr:∀ p' s' q,(p',s')∈L→p'≠p→(pm p').arr=some q→w'.heap[q]?=w.heap[q]?:=fun p' s' q hp' hne hq'=>by
  obtain ⟨cur,hcur⟩:=h.arrCel hp' hq'
  refine hc.block q (Array.getElem?_eq_some_iff.1 hcur).1 (fun e=>?_)
  rcases e with e | e
  · subst e
    have:=h.at_ _ s hp
    rw [hcur] at this
    injection this with this
    injection this with _ this _
    revert this
    decide
  · exact hne (h.arr p' s' p s q hp' hp hq' e)
 refine ⟨h.b6,h.nd,fun p' s' hp'=>?_,fun p' s' hp'=>?_,fun p' s' r hp' hr'=>?_,fun p1 s1 p2 s2 q h1 h2 hq1 hq2=>?_⟩
 · by_cases e:p'=p
   · subst e;simp only [if_true];exact hat
   · simp only [e,if_false];exact (hplc p' s' hp' e).trans (h.at_ p' s' hp')
 · by_cases e:p'=p
   · subst e;simp only [if_true];exact ⟨hok,h6⟩
   · simp only [e,if_false];exact ⟨(h.ok p' s' hp').1.keep (fun q hq'=>harr p' s' q hp' e hq'),(h.ok p' s' hp').2⟩
 · by_cases e:p'=p
   · subst e
     simp only [if_true] at hr'
     rw [h.one hp' hp]
     exact hr r hr'
   · simp only [e,if_false] at hr';exact h.rows p' s' r hp' hr'
 · have key:∀ p' s',(p',s')∈L→p'≠p→(pm p').arr=some q→m.arr=some q→False:=fun p' s' hp' hne h3 h4=>by
    rcases hq q h4 with h5 | h5
    · exact hne (h.arr p' s' p s q hp' hp h3 h5)
    · obtain ⟨cur,hcur⟩:=h.arrCel hp' h3
      have:=(Array.getElem?_eq_some_iff.1 hcur).1
      omega
   by_cases e1:p1=p
   · by_cases e2:p2=p
     · rw [e1,e2]
     · simp only [e1,e2,if_true,if_false] at hq1 hq2
       exact (key p2 s2 h2 e2 hq2 hq1).elim
   · by_cases e2:p2=p
     · simp only [e1,e2,if_true,if_false] at hq1 hq2
       exact (key p1 s1 h1 e1 hq1 hq2).elim
     · simp only [e1,e2,if_false] at hq1 hq2
       exact h.arr p1 s1 p2 s2 q h1 h2 hq1 hq2
theorem iter_step {wr w1:World}{r:Nat}{o o':Obj} (hw1:w1=wr∨w1=wr.drew) (hit:wr.heap[r]?=some o):(ChangeMaps.setBlock w1 r o').heap[r]?=some o'∧(∀ k,k≠r→(ChangeMaps.setBlock w1 r o').heap[k]?=wr.heap[k]?)∧(ChangeMaps.setBlock w1 r o').heap.size=wr.heap.size∧Chg wr (ChangeMaps.setBlock w1 r o') (fun k=>k=r):=by
 have hl:r < wr.heap.size:=(Array.getElem?_eq_some_iff.1 hit).1
 have hh:w1.heap=wr.heap∧w1.os=wr.os∧w1.tape=wr.tape∧w1.output=wr.output:=by rcases hw1 with h | h <;> subst h <;> exact ⟨rfl,rfl,rfl,rfl⟩
 have key:∀ k,k≠r→(ChangeMaps.setBlock w1 r o').heap[k]?=wr.heap[k]?:=by
  intro k hk
  show (w1.heap.setIfInBounds r o')[k]?=_
  rw [hh.1]
  simp [Array.getElem?_setIfInBounds,Ne.symm hk]
 have hsz:(ChangeMaps.setBlock w1 r o').heap.size=wr.heap.size:=by
  show (w1.heap.setIfInBounds r o').size=_
  rw [hh.1];simp
 refine ⟨?_,key,hsz,⟨hh.2.1,hh.2.2.1,hh.2.2.2,by omega,fun k _ hk=>key k hk⟩⟩
 show (w1.heap.setIfInBounds r o')[r]?=_
 rw [hh.1]
 simp [Array.getElem?_setIfInBounds,hl]
theorem setP {w:World}{p:Nat}{v:Value} (v':Value) (h:w.heap[p]?=some (.cells #[v] 198)):(w.setCell ⟨p,0,none⟩ v').heap[p]?=some (.cells #[v'] 198):=by
 simp only [World.setCell,Array.getElem?_modify,if_pos,h];rfl
theorem all_seen' {es:Array MapEntry}{seen:Array Nat} (h:(leftOf es seen).size=0) {e:MapEntry} (he:e∈es.toList):seen.contains e.born=true:=by
 cases hc:seen.contains e.born with
 | true=>rfl
 | false =>
  have:e∈leftOf es seen:=Array.mem_filter.2 ⟨Array.mem_toList_iff.1 he,by rw [hc];rfl⟩
  rw [Array.eq_empty_of_size_eq_zero h] at this
  simp at this
end Go.Proofs.YtkghmgoefiepeaaGreatDoor.reads
namespace Go.Proofs.YtkghmgoefiepeaaGreatDoor.reads
open Go.ChangeShapes Go.WideShapes Go.ChangeAt Go.RowKit Kn Go.Proofs.YtkghmgoefiepeaaGreatDoor.img
variable {bd : Nat}
theorem Mm.forget_len (φ:Rw4→Bool) (m:Mm):(m.forget φ).rows.length≤m.rows.length:=by
 cases m with
 | no=>exact Nat.le_refl _
 | only=>exact Nat.le_refl _
 | one o=>simp only [Mm.forget];by_cases e:φ o=true <;> simp [e,Mm.rows]
 | many q cap rs=>exact List.length_filter_le _ _
theorem Pls.store {W W3:World}{L:List (Nat×ByteArray)}{pm:Nat→Mm}{Sd:ByteArray→Rw4→Prop} (h:Pls bd W L pm Sd) {p:Nat}{s:ByteArray} (hp:(p,s)∈L) {m:Mm}
 (hc:Chg W W3 (fun k=>(pm p).arr=some k)) (hok:m.Ok W3) (h6:m.rows.length≤bd) (hr:∀ r∈m.rows,Sd s r) (hq:∀ q,m.arr=some q→(pm p).arr=some q∨W.heap.size≤q) (hqp:∀ q,m.arr=some q→q≠p) :
 Pls bd (W3.setCell ⟨p,0,none⟩ m.val) L (fun k=>if k=p then m else pm k) Sd:=by
 have hpn:¬ (pm p).arr=some p:=fun e=>by
  obtain ⟨cur,hcur⟩:=h.arrCel hp e
  have:=h.at_ p s hp
  rw [hcur] at this
  injection this with this
  injection this with _ this _
  revert this
  decide
 have hat:W3.heap[p]?=some (.cells #[(pm p).val] 198):=(hc.block p (h.cel hp).lt hpn).trans (h.at_ p s hp)
 refine h.upd hp ((hc.mono (fun k _ e=>.inr e)).setCell _ _ (fun _=>.inl rfl)) (setP _ hat) (hok.keep (fun q hq'=>Below.heap_setCell _ _ _ _ (hqp q hq'))) h6 hr hq
theorem pforget_any (ib f:Nat) (cp:Array Value) (ps:List Nat) (φ:Rw4→Bool) (I:World→Prop) (Q:Rw4→Prop) (L:List (Nat×ByteArray)) (pm:Nat→Mm) (Sd:ByteArray→Rw4→Prop) (w:World) (h:PSet w ib ps) (hL:∀ p∈ps,∃ s,(p,s)∈L) (hP:Pls bd w L pm Sd)
 (hf:Leans f cp φ I Q) (hQ:∀ s r,Sd s r→Q r) (hI:∀ W,Chg w W (PlBlk L pm)→I W) :
 Calls Tryz.prog 105 #[.map (some ib),.func (.func f) #[] cp] w fun e w'=>e=.returned (.tuple #[])∧∃ pm',Pls bd w' L pm' Sd∧(∀ p∈ps,pm' p=(pm p).forget φ)∧(∀ p,p ∉ ps→pm' p=pm p)∧Chg w w' (PlBlk L pm):=by
 obtain ⟨es,clock,hb,hkeys,hbn,hnd⟩:=h
 have hrg:=run_range_map (P:=Tryz.prog) w 138 _ _ ib es clock Tryz.underlying138 hb
 have hnb:¬ PlBlk L pm ib:=by
  rintro ⟨p,s,hps,e | e⟩
  · subst e
    have:=hP.at_ _ s hps
    rw [hb] at this;cases this
  · obtain ⟨cur,hcur⟩:=hP.arrCel hps e
    rw [hb] at hcur;cases hcur
 have hbl:=(Array.getElem?_eq_some_iff.1 hb).1
 have HP0:Hid _:=hP
 have hlt:∀ k,PlBlk L pm k→k < w.heap.size:=by
  rintro k ⟨p,s,hps,e | e⟩
  · subst e;exact (hP.cel hps).lt
  · obtain ⟨cur,hcur⟩:=hP.arrCel hps e;exact (Array.getElem?_eq_some_iff.1 hcur).1
 have HLT:Hid _:=hlt
 clear hP hlt
 go_enter Tryz.func105,Tryz.ntmps105
 go_wp2
 go_loopw [7] (fun _ wr=>∃ seen pm',wr.heap[w.heap.size]?=some (.mapIter (some ib) clock seen clock)∧Pls bd wr L pm' Sd∧(∀ e∈es.toList,∀ p,e.key=pkey p→seen.contains e.born=true→pm' p=(pm p).forget φ)∧(∀ p,pm' p=pm p∨(p∈ps∧pm' p=(pm p).forget φ))∧Chg w wr (PlBlk L pm)) (fun _ wr=>(leftOf es (wr.iterSeen w.heap.size)).size)
 case atStart =>
  refine ⟨#[],pm,(MapKept.heap_alloc w _).1,HP0.out.same (fun k hk=>Below.heap_alloc w _ k (HLT.out k hk)),fun e _ p _ hc=>by simp at hc,fun p=>.inl rfl,(Chg.refl w _).alloc _⟩
 case round =>
  obtain ⟨seen,pm',hit,hpl,hdone,heach,hch⟩:=hrel
  have hbr:wr.heap[ib]?=some (.map es clock):=(hch.block ib hbl hnb).trans hb
  rcases run_next_at (P:=Tryz.prog) wr 0 w.heap.size ib clock clock seen es clock hit hbr (fun x hx=>hbn.1 x hx) (Nat.le_refl _) with ⟨hl0,hnx⟩ | ⟨en,hen,w1,hw1,hnx⟩
  · have HC:Hid (∃ pm',Pls bd wr L pm' Sd∧(∀ p∈ps,pm' p=(pm p).forget φ)∧(∀ p,p ∉ ps→pm' p=pm p)∧Chg w wr (PlBlk L pm)):=by
     have hx1:∃ pm',Pls bd wr L pm' Sd∧(∀ p∈ps,pm' p=(pm p).forget φ)∧(∀ p,p ∉ ps→pm' p=pm p)∧Chg w wr (PlBlk L pm):=by
      refine ⟨pm',hpl,fun p hp=>?_,fun p hp=>?_,hch⟩
      · have:pkey p∈es.toList.map (·.key):=by rw [hkeys];exact List.mem_map.2 ⟨p,hp,rfl⟩
        obtain ⟨e,he,hek⟩:=List.mem_map.1 this
        exact hdone e he p hek (all_seen' hl0 he)
      · rcases heach p with h | h
        · exact h
        · exact absurd h.1 hp
     exact hx1
    clear hpl hdone heach hch hrg
    go_wp2
    go_end0
    exact ⟨rfl,HC.out⟩
  · have hem:=(mem_left hen).1
    obtain ⟨q,hq,hqk⟩:∃ q∈ps,en.key=pkey q:=by
     have:en.key∈es.toList.map (·.key):=List.mem_map.2 ⟨en,hem,rfl⟩
     rw [hkeys] at this
     obtain ⟨q,hq,e⟩:=List.mem_map.1 this
     exact ⟨q,hq,e.symm⟩
    obtain ⟨s,hqs⟩:=hL q hq
    obtain ⟨i1,i2,i3,i4⟩:=iter_step (o':=.mapIter (some ib) clock (seen.push en.born) clock) hw1 hit
    obtain ⟨W2,hW2⟩:∃ W2,W2=ChangeMaps.setBlock w1 w.heap.size (.mapIter (some ib) clock (seen.push en.born) clock):=⟨_,rfl⟩
    rw [← hW2] at i1 i2 i3 i4 hnx
    clear hW2
    have hib:ib≠w.heap.size:=by omega
    have hent:=run_entry_at (P:=Tryz.prog) W2 w.heap.size ib clock seen es clock en i1 ((i2 ib hib).trans hbr) hem hbn.2
    rw [hqk,pkey] at hnx hent
    have hblk':∀ k,PlBlk L pm' k→PlBlk L pm k:=by
     rintro k ⟨p,s',hps,e | e⟩
     · exact ⟨p,s',hps,.inl e⟩
     · refine ⟨p,s',hps,.inr ?_⟩
       rcases heach p with h | ⟨_,h⟩
       · rw [h] at e;exact e
       · rw [h] at e
         rcases Mm.forget_arr φ (pm p) with h' | h'
         · rw [h'] at e;cases e
         · rw [h'] at e;exact e
    have hne:∀ k,PlBlk L pm' k→k≠w.heap.size:=fun k hk e=>by have:=HLT.out k (hblk' k hk);omega
    have HL:Hid ((leftOf es (seen.push en.born)).size < (leftOf es seen).size):=left_shrinks es seen en hen
    have HS:Hid (wr.iterSeen w.heap.size=seen):=by
     have hx1:wr.iterSeen w.heap.size=seen:=by unfold World.iterSeen;rw [hit]
     exact hx1
    have hpl2:Pls bd W2 L pm' Sd:=hpl.same (fun k hk=>i2 k (hne k hk))
    have hch2:Chg w W2 (PlBlk L pm):=hch.then i4 (fun k hk e=>by omega)
    have HP:Hid (Pls bd W2 L pm' Sd∧(∀ e∈es.toList,∀ p,e.key=pkey p→seen.contains e.born=true→pm' p=(pm p).forget φ)∧(∀ p,pm' p=pm p∨(p∈ps∧pm' p=(pm p).forget φ))∧Chg w W2 (PlBlk L pm)):=⟨hpl2,hdone,heach,hch2⟩
    have HB:Hid _:=hblk'
    have HQ:Hid (q∈ps∧(q,s)∈L∧en.key=pkey q∧en∈es.toList∧q≠w.heap.size):=⟨hq,hqs,hqk,hem,hne q ⟨q,s,hqs,.inl rfl⟩⟩
    have hat:=hpl2.at_ q s hqs
    have c0:W2.cell? ⟨q,0,none⟩=some (pm' q).val:=by simp only [World.cell?,hat];rfl
    -- what is left to show behind the call: the new memory,and what the call has turned
    have hfin:∀ W3:World,(((pm' q).forget φ).Ok W3)→Chg W2 W3 (fun k=>(pm' q).arr=some k)→W3.heap[w.heap.size]?=some (.mapIter (some ib) clock (seen.push en.born) clock) →
     ∃ seen pm'',(W3.setCell ⟨q,0,none⟩ ((pm' q).forget φ).val).heap[w.heap.size]?=some (.mapIter (some ib) clock seen clock)∧Pls bd (W3.setCell ⟨q,0,none⟩ ((pm' q).forget φ).val) L pm'' Sd∧(∀ e∈es.toList,∀ p,e.key=pkey p→seen.contains e.born=true→pm'' p=(pm p).forget φ)∧(∀ p,pm'' p=pm p∨(p∈ps∧pm'' p=(pm p).forget φ))∧Chg w (W3.setCell ⟨q,0,none⟩ ((pm' q).forget φ).val) (PlBlk L pm):=by
     intro W3 hok hc3 hit3
     obtain ⟨hpl2,hdone,heach,hch2⟩:=HP.out
     obtain ⟨hq,hqs,hqk,hem,hqn⟩:=HQ.out
     have hself:(pm' q).forget φ=(pm q).forget φ:=by
      rcases heach q with h | h
      · rw [h]
      · rw [h.2,Mm.forget_twice]
     refine ⟨seen.push en.born,fun k=>if k=q then (pm' q).forget φ else pm' k,(Below.heap_setCell _ _ _ _ (fun e=>hqn e.symm)).trans hit3,hpl2.store hqs hc3 hok (Nat.le_trans (Mm.forget_len φ _) (hpl2.ok q s hqs).2) (fun r hr=>hpl2.rows q s r hqs (Mm.forget_rows hr).1) (fun a ha=>?_) (fun a ha e=>?_),fun e he p hep hc=>?_,fun p=>?_,(hch2.then hc3 (fun k _ e=>HB.out k ⟨q,s,hqs,.inr e⟩)).setCell _ _ (fun _=>⟨q,s,hqs,.inl rfl⟩)⟩
     · rcases Mm.forget_arr φ (pm' q) with h | h
       · rw [h] at ha;cases ha
       · left;rw [← h];exact ha
     · subst e
       rcases Mm.forget_arr φ (pm' a) with h | h
       · rw [h] at ha;cases ha
       · rw [h] at ha
         obtain ⟨cur,hcur⟩:=hpl2.arrCel hqs ha
         have:=hpl2.at_ a s hqs
         rw [hcur] at this
         injection this with this
         injection this with _ this _
         revert this
         decide
     · rw [contains_push] at hc
       by_cases e1:p=q
       · simp only [e1,if_true];exact hself
       · simp only [e1,if_false]
         refine hdone e he p hep ?_
         cases hcs:seen.contains e.born with
         | true=>rfl
         | false =>
          rw [hcs,Bool.false_or] at hc
          have hbe:e.born=en.born:=by simpa using hc
          have hee:e=en:=by
           have h1:=find_born e es.toList hbn.2 he
           have h2:=find_born en es.toList hbn.2 hem
           rw [hbe] at h1
           exact Option.some.inj (h1.symm.trans h2)
          rw [hee,hqk] at hep
          unfold pkey at hep
          injection hep with hep
          injection hep with hep
          injection hep with hep _ _
          exact absurd hep.symm e1
     · by_cases e1:p=q
       · simp only [e1,if_true];exact .inr ⟨hq,hself⟩
       · simp only [e1,if_false];exact heach p
    have HF:Hid _:=hfin
    have cf:=fun o=>(hpl2.cel hqs).free o
    have hok2:(pm' q).Ok W2∧(pm' q).rows.length≤6:=⟨(hpl2.ok q s hqs).1,Nat.le_trans (hpl2.ok q s hqs).2 hpl2.b6⟩
    have HRW:Hid (∀ r∈(pm' q).rows,Q r):=by
     have hx1:∀ r∈(pm' q).rows,Q r:=fun r hr=>hQ s r (hpl2.rows q s r hqs hr)
     exact hx1
    have hI2:∀ W,Chg W2 W (fun k=>(pm' q).arr=some k)→I W:=fun W hW=>hI W (hch2.then hW (fun k _ e=>hblk' k ⟨q,s,hqs,.inr e⟩))
    have hitl:w.heap.size < W2.heap.size:=(Array.getElem?_eq_some_iff.1 i1).1
    have hqn:=HQ.out.2.2.2.2
    have hir:¬ (pm' q).arr=some w.heap.size:=fun e=>hne _ ⟨q,s,hqs,.inr e⟩ rfl
    clear hpl hdone heach hch hrg i2 i4 hbr hit hen hem hw1 hpl2 hch2 hfin hblk' hne hat hqk
    have finish:∀ (W3:World) (v:Value),W3.heap[w.heap.size]?=some (.mapIter (some ib) clock (seen.push en.born) clock)→(W3.setCell ⟨q,0,none⟩ v).iterSeen w.heap.size=seen.push en.born:=fun W3 v h3=>by
     unfold World.iterSeen
     rw [(Below.heap_setCell _ _ _ _ (fun e=>hqn e.symm)).trans h3]
    have HFN:Hid _:=finish
    clear finish
    cases hmq:pm' q with
    | no =>
     rw [hmq] at c0 HF HRW hI2 hok2 hir
     simp only [Mm.val] at c0
     go_wp2_with fail
     refine (forget_no _ W2).mono ?_
     rintro e W3 ⟨rfl,hb3⟩
     have c3:W3.cell? ⟨q,0,none⟩=some (.iface 194 (.agg #[])):=(hb3.cell (p:=⟨q,0,none⟩) (World.block_lt_of_cell? W2 ⟨q,0,none⟩ c0)).trans c0
     have cf3:∀ o,W3.frozen? ⟨q,o,none⟩=false:=fun o=>(World.frozen?_of_block (a:=⟨q,o,none⟩) (hb3.block q (World.block_lt_of_cell? W2 ⟨q,0,none⟩ c0))).trans (cf o)
     have HB3:Hid (Chg W2 W3 (fun k=>Mm.no.arr=some k)∧W3.heap[w.heap.size]?=some (.mapIter (some ib) clock (seen.push en.born) clock)):=⟨Chg.of_below hb3 _,(hb3.block _ hitl).trans i1⟩
     clear hb3 c0 cf hnx hent i1
     unfold Mm.val
     go_wp2
     go_roundw
     case rel=>exact HF.out W3 trivial HB3.out.1 HB3.out.2
     case measure =>
      rw [HFN.out W3 _ HB3.out.2,HS.out]
      exact HL.out
    | only =>
     rw [hmq] at c0 HF HRW hI2 hok2 hir
     simp only [Mm.val] at c0
     go_wp2_with fail
     refine (forget_only _ W2).mono ?_
     rintro e W3 ⟨rfl,hb3⟩
     have c3:W3.cell? ⟨q,0,none⟩=some (.iface 206 (.agg #[])):=(hb3.cell (p:=⟨q,0,none⟩) (World.block_lt_of_cell? W2 ⟨q,0,none⟩ c0)).trans c0
     have cf3:∀ o,W3.frozen? ⟨q,o,none⟩=false:=fun o=>(World.frozen?_of_block (a:=⟨q,o,none⟩) (hb3.block q (World.block_lt_of_cell? W2 ⟨q,0,none⟩ c0))).trans (cf o)
     have HB3:Hid (Chg W2 W3 (fun k=>Mm.only.arr=some k)∧W3.heap[w.heap.size]?=some (.mapIter (some ib) clock (seen.push en.born) clock)):=⟨Chg.of_below hb3 _,(hb3.block _ hitl).trans i1⟩
     clear hb3 c0 cf hnx hent i1
     unfold Mm.val
     go_wp2
     go_roundw
     case rel=>exact HF.out W3 trivial HB3.out.1 HB3.out.2
     case measure =>
      rw [HFN.out W3 _ HB3.out.2,HS.out]
      exact HL.out
    | one r =>
     rw [hmq] at c0 HF HRW hI2 hok2 hir
     simp only [Mm.val] at c0
     have hcall:=forget_one r f cp φ I Q W2 hf (HRW.out r (by simp [Mm.rows])) (fun W hW=>hI2 W (hW.mono (fun _ _ h=>h.elim)))
     unfold Rw4.val at hcall c0
     go_wp2_with fail
     refine hcall.mono ?_
     rintro e W3 ⟨rfl,hb3⟩
     have hql3:=World.block_lt_of_cell? W2 ⟨q,0,none⟩ c0
     have c3:=(hb3.cell (p:=⟨q,0,none⟩) hql3).trans c0
     have cf3:∀ o,W3.frozen? ⟨q,o,none⟩=false:=fun o=>(World.frozen?_of_block (a:=⟨q,o,none⟩) (hb3.block q hql3)).trans (cf o)
     have HB3:Hid (Chg W2 W3 (fun k=>(Mm.one r).arr=some k)∧W3.heap[w.heap.size]?=some (.mapIter (some ib) clock (seen.push en.born) clock)):=⟨Chg.of_below hb3 _,(hb3.block _ hitl).trans i1⟩
     have hv:(if φ r=true then Mm.no else Mm.one r)=(Mm.one r).forget φ:=rfl
     rw [hv]
     have HOK:Hid (((Mm.one r).forget φ).Ok W3):=by
      have hx1:((Mm.one r).forget φ).Ok W3:=by
       unfold Mm.forget
       by_cases e:φ r=true
       · simp only [e,if_true];trivial
       · simp only [e];trivial
      exact hx1
     revert HF HOK
     generalize hvv:(Mm.one r).forget φ=mv
     intro HF HOK
     have hone:∃ t u,mv.val=.iface t u:=by
      rw [← hvv]
      unfold Mm.forget
      by_cases e:φ r=true
      · simp only [e,if_true];exact ⟨_,_,rfl⟩
      · simp only [e];exact ⟨_,_,rfl⟩
     obtain ⟨t,u,htu⟩:=hone
     rw [htu]
     have HTU:Hid _:=htu
     clear hb3 c0 cf hnx hent i1 hcall hv hvv htu
     go_wp2
     go_roundw
     case rel =>
      have:=HF.out W3 HOK.out HB3.out.1 HB3.out.2
      rw [HTU.out] at this
      exact this
     case measure =>
      rw [HFN.out W3 _ HB3.out.2,HS.out]
      exact HL.out
    | many a cap rs =>
     rw [hmq] at c0 HF HRW hI2 hok2 hir
     simp only [Mm.val] at c0
     have hcall:=forget_many a cap f cp φ I Q rs W2 hok2.1 hok2.2 hf HRW.out (fun W hW=>hI2 W (hW.mono (fun k _ e=>by rw [e];rfl)))
     have haq:a≠q:=fun e=>by
      obtain ⟨cur,hcur,_⟩:=(RIn.of_ok hok2.1).blk
      have h1:=HP.out.1.at_ q s HQ.out.2.1
      rw [← e,hcur] at h1
      injection h1 with h1
      injection h1 with _ h1 _
      revert h1
      decide
     go_wp2_with fail
     refine hcall.mono ?_
     rintro e W3 ⟨rfl,hok3,hb3⟩
     have hql3:=World.block_lt_of_cell? W2 ⟨q,0,none⟩ c0
     have hqb:=hb3.block q hql3 (fun e=>haq e.symm)
     have c3:=(World.cell?_of_block (a:=⟨q,0,none⟩) hqb).trans c0
     have cf3:∀ o,W3.frozen? ⟨q,o,none⟩=false:=fun o=>(World.frozen?_of_block (a:=⟨q,o,none⟩) hqb).trans (cf o)
     have HB3:Hid (((Mm.many a cap rs).forget φ).Ok W3∧Chg W2 W3 (fun k=>(Mm.many a cap rs).arr=some k)∧W3.heap[w.heap.size]?=some (.mapIter (some ib) clock (seen.push en.born) clock)):=⟨hok3,hb3.mono (fun k _ e=>by rw [e];rfl),(hb3.block _ hitl (fun e=>hir (by rw [e];rfl))).trans i1⟩
     clear hb3 c0 cf hnx hent i1 hcall hok3 hqb
     unfold Mm.val
     go_wp2
     go_roundw
     case rel=>exact HF.out W3 HB3.out.1 HB3.out.2.1 HB3.out.2.2
     case measure =>
      rw [HFN.out W3 _ HB3.out.2.2,HS.out]
      exact HL.out
end Go.Proofs.YtkghmgoefiepeaaGreatDoor.reads
