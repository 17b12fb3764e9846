import Derived.BigRegion
import Derived.Test.YtkghmgoefiepeaaGreatDoorQ0
import Derived.Test.YtkghmgoefiepeaaGreatDoorQ15
set_option linter.unusedSimpArgs false
set_option linter.unusedVariables false
set_option maxHeartbeats 4000000
set_option maxRecDepth 100000
namespace Go.Proofs.YtkghmgoefiepeaaGreatDoor.reads
open Go.ChangeShapes Go.WideShapes Go.ChangeAt Go.RowKit Kn Go.Proofs.YtkghmgoefiepeaaGreatDoor.img
structure SndAt (w:World) (sb:Nat) (l:List (ByteArray×Value)) (ps:Nat→List Nat):Prop where
 map:SMap w sb l
 inn:∀ s v,l.lookup s=some v→∃ ib,v=.map (some ib)∧PSet w ib (ps ib)∧ib≠sb
 inj:∀ s t ib,l.lookup s=some (.map (some ib))→l.lookup t=some (.map (some ib))→s=t
 cel:∀ s ib p,l.lookup s=some (.map (some ib))→p∈ps ib→Cel w p
def Reg (l:List (ByteArray×Value)) (ps:Nat→List Nat) (s:ByteArray) (p:Nat):Prop:=∃ ib,l.lookup s=some (.map (some ib))∧p∈ps ib
variable {w : World}
theorem cel_ne_map {p b:Nat}{l:List (ByteArray×Value)} (h:Cel w p) (h':SMap w b l):p≠b:=by
 rintro rfl
 obtain ⟨_,_,h⟩:=h
 obtain ⟨_,_,h',_⟩:=h'
 rw [h] at h';cases h'
theorem cel_ne_set {p b:Nat}{l:List Nat} (h:Cel w p) (h':PSet w b l):p≠b:=by
 rintro rfl
 obtain ⟨_,_,h⟩:=h
 obtain ⟨_,_,h',_⟩:=h'
 rw [h] at h';cases h'
variable {w' : World}
theorem SndAt.same {sb:Nat}{l:List (ByteArray×Value)}{ps:Nat→List Nat} (h:SndAt w sb l ps) (h1:w'.heap[sb]?=w.heap[sb]?) (h2:∀ s ib,l.lookup s=some (.map (some ib))→w'.heap[ib]?=w.heap[ib]?) (h3:∀ p,Cel w p→Cel w' p):SndAt w' sb l ps :=
 ⟨h.map.same h1,fun s v hv=>by obtain ⟨ib,rfl,h4,h5⟩:=h.inn s v hv;exact ⟨ib,rfl,h4.same (h2 s ib hv),h5⟩,h.inj,fun s ib p hs hp=>h3 p (h.cel s ib p hs hp)⟩
theorem lookup_snd (w:World) (sb:Nat) (l:List (ByteArray×Value)) (h:SMap w sb l) (s:ByteArray):(Instr.lookup 56 (.map (some sb)) (.string s) false).run Tryz.prog w=.ok ((l.lookup s).getD (.map none)) w :=
 run_lookup h.str Tryz.underlying56 Tryz.underlying9 (Tryz.zeroValue138 w) s
theorem eql_set_some (ib:Nat) (w:World):(binOp .eql 138 (.map (some ib)) (.map none)).run Tryz.prog w=.ok (.bool false) w:=by kernel_rfl
theorem eql_set_none (w:World):(binOp .eql 138 (.map none) (.map none)).run Tryz.prog w=.ok (.bool true) w:=by kernel_rfl
theorem size_place:(Tryz.prog.info? 198).map (·.size)=some 1:=by kernel_rfl
theorem key_place:PtrKey Tryz.prog 144:=by
 have h:=size_place
 cases hi:Tryz.prog.info? 198 with
 | none=>rw [hi] at h;cases h
 | some i=>rw [hi] at h;simp at h;exact ⟨_,i,Tryz.underlying144,hi,by omega⟩
theorem SndAt.chg {sb:Nat}{l:List (ByteArray×Value)}{ps:Nat→List Nat}{S:Nat→Prop} (h:SndAt w sb l ps) (hc:Chg w w' S) (h1:¬ S sb) (h2:∀ s ib,l.lookup s=some (.map (some ib))→¬ S ib) (h3:∀ s ib p,l.lookup s=some (.map (some ib))→p∈ps ib→S p→Cel w' p):SndAt w' sb l ps:=by
 refine ⟨h.map.same (hc.block _ h.map.lt h1),fun s v hv=>?_,h.inj,fun s ib p hs hp=>?_⟩
 · obtain ⟨ib,rfl,h4,h5⟩:=h.inn s v hv
   exact ⟨ib,rfl,h4.same (hc.block _ h4.lt (h2 s ib hv)),h5⟩
 · by_cases hS:S p
   · exact h3 s ib p hs hp hS
   · exact (h.cel s ib p hs hp).same (hc.block _ (h.cel s ib p hs hp).lt hS)
theorem mapv_inj {a b:Nat} (h:(some (Value.map (some a)):Option Value)=some (.map (some b))):a=b:=by simpa using h
theorem SndAt.drew {sb:Nat}{l:List (ByteArray×Value)}{ps:Nat→List Nat} (h:SndAt w sb l ps):SndAt w.drew sb l ps:=h.same rfl (fun _ _ _=>rfl) (fun _ h=>h.same rfl)
theorem snd_old {W:World}{sb:Nat}{l:List (ByteArray×Value)}{ps:Nat→List Nat} (h:SndAt W sb l ps) {s:ByteArray}{ib q:Nat} (hl:l.lookup s=some (.map (some ib))) (hq:Cel W q) (v:Value) :
 ∃ W' ps',(Instr.mapUpdate 138 (.map (some ib)) (pkey q) v).run Tryz.prog W=.ok () W'∧SndAt W' sb l ps'∧(∀ t r,Reg l ps' t r ↔ Reg l ps t r∨(t=s∧r=q))∧W.grownBy W' (some ib):=by
 obtain ⟨ib',e,hset,hne⟩:=h.inn s _ hl
 injection e with e;injection e with e;subst e
 obtain ⟨W',psn,hrun,hp,hmem,hg,hsz⟩:=run_pput (P:=Tryz.prog) hset (fun p hp=>h.cel s ib p hl hp) Tryz.underlying138 key_place hq v
 have keep:∀ p,Cel W p→Cel W' p:=fun p hc=>hc.same (hg.block p hc.lt (fun e=>by injection e with e;exact cel_ne_set hc hset e))
 refine ⟨W',fun k=>if k=ib then psn else ps k,hrun,⟨h.map.same (hg.block _ h.map.lt (fun e=>by injection e with e;exact hne e.symm)),fun t u hu=>?_,h.inj,fun t jb p ht hp'=>?_⟩,fun t r=>?_,hg⟩
 · obtain ⟨jb,rfl,h4,h5⟩:=h.inn t u hu
   by_cases e:jb=ib
   · subst e;exact ⟨jb,rfl,by simpa using hp,h5⟩
   · exact ⟨jb,rfl,by simp only [e,if_false];exact h4.same (hg.block _ h4.lt (fun e'=>by injection e' with e';exact e e')),h5⟩
 · by_cases e:jb=ib
   · subst e
     simp only [if_true] at hp'
     rcases (hmem p).1 hp' with h6 | rfl
     · exact keep p (h.cel t jb p ht h6)
     · exact keep p hq
   · simp only [e,if_false] at hp'
     exact keep p (h.cel t jb p ht hp')
 · constructor
   · rintro ⟨jb,h6,h7⟩
     by_cases e:jb=ib
     · subst e
       simp only [if_true] at h7
       rcases (hmem r).1 h7 with h8 | rfl
       · exact .inl ⟨jb,h6,h8⟩
       · exact .inr ⟨h.inj t s jb h6 hl,rfl⟩
     · simp only [e,if_false] at h7
       exact .inl ⟨jb,h6,h7⟩
   · rintro (⟨jb,h6,h7⟩ | ⟨rfl,rfl⟩)
     · by_cases e:jb=ib
       · subst e;exact ⟨jb,h6,by simp only [if_true];exact (hmem r).2 (.inl h7)⟩
       · exact ⟨jb,h6,by simp only [e,if_false];exact h7⟩
     · exact ⟨ib,hl,by simp only [if_true];exact (hmem r).2 (.inr rfl)⟩
theorem snd_new {W:World}{sb nb:Nat}{l:List (ByteArray×Value)}{ps:Nat→List Nat} (h:SndAt W sb l ps) {s:ByteArray} (hl:l.lookup s=none) (hn:W.heap[nb]?=some (.map #[] 0)) (hfr:∀ t,l.lookup t≠some (.map (some nb))) (hns:nb≠sb) :
 ∃ W',(Instr.mapUpdate 56 (.map (some sb)) (.string s) (.map (some nb))).run Tryz.prog W=.ok () W'∧SndAt W' sb (put l s (.map (some nb))) (fun k=>if k=nb then [] else ps k)∧(∀ t r,Reg (put l s (.map (some nb))) (fun k=>if k=nb then [] else ps k) t r ↔ Reg l ps t r)∧W.grownBy W' (some sb):=by
 obtain ⟨W',hrun,hm,hg,hsz⟩:=run_put (P:=Tryz.prog) h.map Tryz.underlying56 Tryz.underlying9 s (.map (some nb))
 have keep:∀ p,Cel W p→Cel W' p:=fun p hc=>hc.same (hg.block p hc.lt (fun e=>by injection e with e;exact cel_ne_map hc h.map e))
 refine ⟨W',hrun,⟨hm,fun t u hu=>?_,fun t1 t2 ib h1 h2=>?_,fun t jb p ht hp=>?_⟩,fun t r=>?_,hg⟩
 · rw [lookup_put] at hu
   by_cases e:t=s
   · rw [if_pos e] at hu
     injection hu with hu
     refine ⟨nb,hu.symm,?_,hns⟩
     simp only [if_true]
     exact pSet_empty ((hg.block _ (Array.getElem?_eq_some_iff.1 hn).1 (fun e=>by injection e with e;exact hns e)).trans hn)
   · rw [if_neg e] at hu
     obtain ⟨jb,rfl,h4,h5⟩:=h.inn t u hu
     have hj:jb≠nb:=fun e=>hfr t (by rw [← e];exact hu)
     exact ⟨jb,rfl,by simp only [hj,if_false];exact h4.same (hg.block _ h4.lt (fun e'=>by injection e' with e';exact h5 e')),h5⟩
 · rw [lookup_put] at h1 h2
   by_cases e1:t1=s
   · by_cases e2:t2=s
     · rw [e1,e2]
     · rw [if_pos e1] at h1
       rw [if_neg e2] at h2
       have h1:=mapv_inj h1
       subst h1
       exact absurd h2 (hfr t2)
   · rw [if_neg e1] at h1
     by_cases e2:t2=s
     · rw [if_pos e2] at h2
       have h2:=mapv_inj h2
       subst h2
       exact absurd h1 (hfr t1)
     · rw [if_neg e2] at h2
       exact h.inj t1 t2 ib h1 h2
 · rw [lookup_put] at ht
   by_cases e:t=s
   · rw [if_pos e] at ht
     have ht:=mapv_inj ht
     subst ht
     simp at hp
   · rw [if_neg e] at ht
     have hj:jb≠nb:=fun e=>hfr t (by rw [← e];exact ht)
     simp only [hj,if_false] at hp
     exact keep p (h.cel t jb p ht hp)
 · constructor
   · rintro ⟨jb,h1,h2⟩
     rw [lookup_put] at h1
     by_cases e:t=s
     · rw [if_pos e] at h1
       have h1:=mapv_inj h1
       subst h1
       simp at h2
     · rw [if_neg e] at h1
       have hj:jb≠nb:=fun e=>hfr t (by rw [← e];exact h1)
       simp only [hj,if_false] at h2
       exact ⟨jb,h1,h2⟩
   · rintro ⟨jb,h1,h2⟩
     have hj:jb≠nb:=fun e=>hfr t (by rw [← e];exact h1)
     refine ⟨jb,?_,by simp only [hj,if_false];exact h2⟩
     rw [lookup_put]
     by_cases e:t=s
     · subst e;rw [hl] at h1;cases h1
     · rw [if_neg e];exact h1
theorem step_reg {ws:List (W×Nat)}{pl:Nat→Nat}{k:Nat}{x:W×Nat} (hx:ws[k]?=some x) (hs:sendsW x.1=true) {R0 R R':ByteArray→Nat→Prop}
 (h:∀ s q,R s q ↔ R0 s q∨∃ i x,i < k∧ws[i]?=some x∧sendsW x.1=true∧ofL x.1.sel=s∧q=pl i) (h':∀ t r,R' t r ↔ R t r∨t=ofL x.1.sel∧r=pl k) :
 ∀ s q,R' s q ↔ R0 s q∨∃ i x,i < k+1∧ws[i]?=some x∧sendsW x.1=true∧ofL x.1.sel=s∧q=pl i:=by
 intro s q
 rw [h' s q,h s q]
 constructor
 · rintro ((h | ⟨i,y,hi,h⟩) | ⟨rfl,rfl⟩)
   · exact .inl h
   · exact .inr ⟨i,y,by omega,h⟩
   · exact .inr ⟨k,x,by omega,hx,hs,rfl,rfl⟩
 · rintro (h | ⟨i,y,hi,hy,h1,h2,h3⟩)
   · exact .inl (.inl h)
   · by_cases e:i=k
     · subst e
       rw [hx] at hy
       injection hy with hy
       subst hy
       exact .inr ⟨h2.symm,h3⟩
     · exact .inl (.inr ⟨i,y,by omega,hy,h1,h2,h3⟩)
theorem addHome_first (b m sb g cap:Nat) (p:Option Addr) (ws:List (W×Nat)) (pl:Nat→Nat) (l0:List (ByteArray×Value)) (ps0:Nat→List Nat) (h:Int) (w:World) (hn:ws.length≤40) (hh:Go.RowKit.wrap64 (h+1)≤1)
 (hb:w.cell? ⟨b,5,none⟩=some (.map (some sb))) (hbc:Cel w b) (hm:w.heap[m]?=some (.cells #[.slice p ws.length cap,.int .i64 h] 165)) (hbm:b≠m) (hgm:1≤ws.length→g≠m)
 (hw:MAt w p g ws pl ws.length) (hpl:∀ i x,ws[i]?=some x→sendsW x.1=true→Cel w (pl i)) (hs:SndAt w sb l0 ps0) :
 Calls Tryz.prog 82 #[.pointer (some ⟨b,0,none⟩),.pointer (some ⟨m,0,none⟩)] w fun e w'=>e=.returned (.tuple #[])∧∃ l ps,SndAt w' sb l ps ∧
  (∀ s ib,l.lookup s=some (.map (some ib))→l0.lookup s=some (.map (some ib))∨w.heap.size≤ib) ∧
  (∀ s q,Reg l ps s q ↔ Reg l0 ps0 s q∨∃ i x,ws[i]?=some x∧sendsW x.1=true∧ofL x.1.sel=s∧q=pl i) ∧
  w'.heap[m]?=some (.cells #[.slice p ws.length cap,.int .i64 (Go.RowKit.wrap64 (h+1))] 165)∧Chg w w' (fun k=>k=m∨k=sb∨∃ s,l0.lookup s=some (.map (some k))):=by
 have hmc:Cel w m:=⟨_,_,hm⟩
 have m0:w.cell? ⟨m,0,none⟩=some (.slice p ws.length cap):=by simp only [World.cell?,hm];rfl
 have m1:w.cell? ⟨m,1,none⟩=some (.int .i64 h):=by simp only [World.cell?,hm];rfl
 have mf:=fun o=>hmc.free o
 have hgc:1≤ws.length→Cel w g:=hw.cel
 have HI:Hid (MAt w p g ws pl ws.length∧(∀ i x,ws[i]?=some x→sendsW x.1=true→Cel w (pl i))∧SndAt w sb l0 ps0∧Cel w b∧w.heap[m]?=some (.cells #[.slice p ws.length cap,.int .i64 h] 165)):=⟨hw,hpl,hs,hbc,hm⟩
 have hbl:=hbc.lt
 have hml:=hmc.lt
 clear hw hpl hs hbc hm hmc hgc
 go_enter Tryz.func82,Tryz.ntmps82
 go_wp2
 go_loopw [23] (fun i wr=>∃ (k:Nat) (l:List (ByteArray×Value)) (ps:Nat→List Nat),i=.int .i64 k∧k≤ws.length∧SndAt wr sb l ps ∧
  (∀ s ib,l.lookup s=some (.map (some ib))→l0.lookup s=some (.map (some ib))∨w.heap.size≤ib) ∧
  (∀ s q,Reg l ps s q ↔ Reg l0 ps0 s q∨∃ i x,i < k∧ws[i]?=some x∧sendsW x.1=true∧ofL x.1.sel=s∧q=pl i) ∧
  Chg (w.setCell ⟨m,1,none⟩ (.int .i64 (Go.RowKit.wrap64 (h+1)))) wr (fun k=>k=sb∨∃ s,l0.lookup s=some (.map (some k)))) (fun i _=>ws.length - (intOf i).toNat)
 case atStart =>
  obtain ⟨hw,hpl,hs0,hbc,hm⟩:=HI.out
  have hmc:Cel w m:=⟨_,_,hm⟩
  refine ⟨0,l0,ps0,rfl,by omega,hs0.chg ((Chg.refl w (fun k=>k=m)).setCell _ _ (fun _=>rfl)) (fun e=>cel_ne_map hmc hs0.map e.symm) (fun s ib hs e=>?_) (fun s ib q hs hq e=>by subst e;exact hmc.setCell _ _),fun s ib hs=>.inl hs,fun s q=>?_,Chg.refl _ _⟩
  · obtain ⟨jb,e1,e2,_⟩:=hs0.inn s _ hs
    injection e1 with e1;injection e1 with e1
    subst e1
    exact cel_ne_set hmc e2 e.symm
  · exact ⟨.inl,fun h=>by rcases h with h | ⟨i,x,hi,_⟩;exact h;omega⟩
 case round =>
  obtain ⟨k,l,ps,rfl,hk,hsn,hnew,hreg,hch⟩:=hrel
  obtain ⟨hw,hpl,hs0,hbc,hm⟩:=HI.out
  have hblk:∀ j,Cel w j→j≠m→wr.heap[j]?=w.heap[j]?:=fun j hj hjm =>
   (hch.block j (by simp only [World.setCell,Array.size_modify];exact hj.lt) (fun e=>by
    rcases e with e | ⟨t,e⟩
    · exact cel_ne_map hj hs0.map e
    · obtain ⟨ib,e1,e2,_⟩:=hs0.inn t _ e
      injection e1 with e1;injection e1 with e1
      subst e1
      exact cel_ne_set hj e2 rfl)).trans (Below.heap_setCell w _ _ j hjm)
  have hbr:wr.cell? ⟨b,5,none⟩=some (.map (some sb)):=(World.cell?_of_block (a:=⟨b,5,none⟩) (hblk b hbc hbm)).trans hb
  have hbrl:b < wr.heap.size:=World.block_lt_of_cell? wr ⟨b,5,none⟩ hbr
  have HR:Hid (SndAt wr sb l ps∧(∀ s ib,l.lookup s=some (.map (some ib))→l0.lookup s=some (.map (some ib))∨w.heap.size≤ib) ∧
   (∀ s q,Reg l ps s q ↔ Reg l0 ps0 s q∨∃ i x,i < k∧ws[i]?=some x∧sendsW x.1=true∧ofL x.1.sel=s∧q=pl i) ∧
   Chg (w.setCell ⟨m,1,none⟩ (.int .i64 (Go.RowKit.wrap64 (h+1)))) wr (fun k=>k=sb∨∃ s,l0.lookup s=some (.map (some k)))):=⟨hsn,hnew,hreg,hch⟩
  clear hsn hnew hreg hch
  by_cases hkn:k < ws.length
  · obtain ⟨x,hx⟩:∃ x,ws[k]?=some x:=⟨_,List.getElem?_eq_getElem hkn⟩
    obtain rfl:p=some ⟨g,0,none⟩:=hw.head (by omega)
    have hwr:=hw.same (hblk g (hw.cel (by omega)) (hgm (by omega)))
    have hgl:=(hwr.cel (by omega)).lt
    have c0:=hwr.c0 k x hx
    have c1:=hwr.c1 k x hx
    have c2:=hwr.c2 k x hx
    have c3:=hwr.c3 k x hx
    have c4:=hwr.c4 k x hx
    have c5:=hwr.c5 k x hx
    have HX:Hid _:=hx
    cases hsd:sendsW x.1
    · have HS:Hid (sendsW x.1=false):=hsd
      rw [hsd,if_neg (by simp)] at c5
      clear hwr hw hpl hs0 hbc hm hblk hx hsd hb m0 m1 mf
      go_wp2
      go_roundw
      case rel =>
       obtain ⟨hsn,hnew,hreg,hch⟩:=HR.out
       refine ⟨k+1,l,ps,by go_num,by omega,hsn.chg ((Chg.refl wr (fun _=>False)).alloc _) (fun h=>h) (fun _ _ _ h=>h) (fun _ _ _ _ _ h=>h.elim),hnew,fun s q=>?_,hch.alloc _⟩
       rw [hreg s q]
       refine or_congr Iff.rfl ⟨?_,?_⟩
       · rintro ⟨i,y,hi,h⟩;exact ⟨i,y,by omega,h⟩
       · rintro ⟨i,y,hi,hy,h1,h2⟩
         refine ⟨i,y,?_,hy,h1,h2⟩
         by_cases e:i=k
         · subst e;rw [HX.out] at hy;injection hy with hy;subst hy;rw [HS.out] at h1;cases h1
         · omega
      case measure=>simp [intOf] <;> omega
    · have HS:Hid (sendsW x.1=true):=hsd
      have hq:=hpl k x hx hsd
      rw [hsd,if_pos ⟨hkn,rfl⟩] at c5
      have hqr:Cel wr (pl k):=by
       by_cases e:pl k=m
       · rw [e]
         have hmr:wr.heap[m]?=(w.setCell ⟨m,1,none⟩ (.int .i64 (Go.RowKit.wrap64 (h+1)))).heap[m]?:=HR.out.2.2.2.block m (by simp only [World.setCell,Array.size_modify];exact hml) (fun e=>by
          have hmc:Cel w m:=⟨_,_,hm⟩
          rcases e with e | ⟨t,e⟩
          · exact cel_ne_map hmc hs0.map e
          · obtain ⟨ib,e1,e2,_⟩:=hs0.inn t _ e
            injection e1 with e1;injection e1 with e1
            subst e1
            exact cel_ne_set hmc e2 rfl)
         exact (Cel.setCell (⟨_,_,hm⟩:Cel w m) _ _).same hmr
       · exact hq.same (hblk _ hq e)
      have HQ:Hid (Cel (wr.alloc (.cells #[.int .i64 (kindOf x.1.k:Nat),.int .i64 x.1.n,.string (ofL x.1.a),.string (ofL x.1.sel),.string (ofL x.1.b),.pointer (some ⟨pl k,0,none⟩)] 146)) (pl k)):=hqr.alloc _
      have HB0:Hid (Cel (wr.alloc (.cells #[.int .i64 (kindOf x.1.k:Nat),.int .i64 x.1.n,.string (ofL x.1.a),.string (ofL x.1.sel),.string (ofL x.1.b),.pointer (some ⟨pl k,0,none⟩)] 146)) b):=(hbc.same (hblk b hbc hbm)).alloc _
      have hz:(wr.alloc (.cells #[.int .i64 (kindOf x.1.k:Nat),.int .i64 x.1.n,.string (ofL x.1.a),.string (ofL x.1.sel),.string (ofL x.1.b),.pointer (some ⟨pl k,0,none⟩)] 146)).heap[wr.heap.size]?=some (.cells #[.int .i64 (kindOf x.1.k:Nat),.int .i64 x.1.n,.string (ofL x.1.a),.string (ofL x.1.sel),.string (ofL x.1.b),.pointer (some ⟨pl k,0,none⟩)] 146):=(MapKept.heap_alloc wr _).1
      have hb0:(wr.alloc (.cells #[.int .i64 (kindOf x.1.k:Nat),.int .i64 x.1.n,.string (ofL x.1.a),.string (ofL x.1.sel),.string (ofL x.1.b),.pointer (some ⟨pl k,0,none⟩)] 146)).cell? ⟨b,5,none⟩=some (.map (some sb)):=by go_keep
      have HN:Hid (SndAt (wr.alloc (.cells #[.int .i64 (kindOf x.1.k:Nat),.int .i64 x.1.n,.string (ofL x.1.a),.string (ofL x.1.sel),.string (ofL x.1.b),.pointer (some ⟨pl k,0,none⟩)] 146)) sb l ps∧Chg (w.setCell ⟨m,1,none⟩ (.int .i64 (Go.RowKit.wrap64 (h+1)))) (wr.alloc (.cells #[.int .i64 (kindOf x.1.k:Nat),.int .i64 x.1.n,.string (ofL x.1.a),.string (ofL x.1.sel),.string (ofL x.1.b),.pointer (some ⟨pl k,0,none⟩)] 146)) (fun k=>k=sb∨∃ s,l0.lookup s=some (.map (some k)))):=⟨HR.out.1.chg ((Chg.refl wr (fun _=>False)).alloc _) (fun h=>h) (fun _ _ _ h=>h) (fun _ _ _ _ _ h=>h.elim),HR.out.2.2.2.alloc _⟩
      clear hwr hw hpl hs0 hbc hm hblk hx hsd hb m0 m1 mf hq hqr
      go_wp2_with fail
      clear c0 c1 c2 c3 c4 c5 hbr hbrl hgl
      revert HQ hz hb0 HN HB0
      generalize wr.alloc (.cells #[.int .i64 (kindOf x.1.k:Nat),.int .i64 x.1.n,.string (ofL x.1.a),.string (ofL x.1.sel),.string (ofL x.1.b),.pointer (some ⟨pl k,0,none⟩)] 146)=W0
      generalize wr.heap.size=z
      intro HQ HB0 hz hb0 HN
      have z3:W0.cell? ⟨z,3,none⟩=some (.string (ofL x.1.sel)):=by simp only [World.cell?,hz];rfl
      have z5:W0.cell? ⟨z,5,none⟩=some (.pointer (some ⟨pl k,0,none⟩)):=by simp only [World.cell?,hz];rfl
      have HZ:Hid (Cel W0 z∧Cel W0 b):=⟨⟨_,_,hz⟩,HB0.out⟩
      clear hz
      cases hl:l.lookup (ofL x.1.sel) with
      | some v =>
       obtain ⟨ib,rfl,_,_⟩:=HN.out.1.inn _ v hl
       have lk:(Instr.lookup 56 (.map (some sb)) (.string (ofL x.1.sel)) false).run Tryz.prog W0.drew=.ok (.map (some ib)) W0.drew:=by rw [lookup_snd W0.drew sb l HN.out.1.drew.map,hl];rfl
       have eq1:=eql_set_some ib
       go_region
       go_wp2_with fail
       have lk2:(Instr.lookup 56 (.map (some sb)) (.string (ofL x.1.sel)) false).run Tryz.prog W0.drew.drew=.ok (.map (some ib)) W0.drew.drew:=by rw [lookup_snd W0.drew.drew sb l HN.out.1.drew.drew.map,hl];rfl
       obtain ⟨W',ps',hrun,hsn',hreg',hg'⟩:=snd_old HN.out.1.drew.drew hl (HQ.out.same rfl) (.agg #[])
       unfold pkey at hrun
       clear lk
       go_region
       have HW:Hid (SndAt W' sb l ps'∧(∀ t r,Reg l ps' t r ↔ Reg l ps t r∨t=ofL x.1.sel∧r=pl k)∧W0.grownBy W' (some ib)∧l.lookup (ofL x.1.sel)=some (.map (some ib))):=⟨hsn',hreg',⟨hg'.os,hg'.tape,hg'.output,hg'.size,hg'.block⟩,hl⟩
       clear hsn' hreg' hg' hl hrun lk2 z3 z5 hb0
       go_wp2
       go_roundw
       case rel =>
        obtain ⟨_,hnew,hreg,_⟩:=HR.out
        obtain ⟨_,hch⟩:=HN.out
        obtain ⟨hsn',hreg',hg',hl⟩:=HW.out
        refine ⟨k+1,l,ps',by go_num,by omega,hsn',hnew,step_reg HX.out HS.out hreg hreg',hch.then (Chg.of_grown hg') (fun j hj e=>?_)⟩
        subst e
        rcases hnew _ _ hl with h1 | h1
        · exact .inr ⟨_,h1⟩
        · simp only [World.setCell,Array.size_modify] at hj;omega
       case measure=>simp [intOf] <;> omega
      | none =>
       have lk:(Instr.lookup 56 (.map (some sb)) (.string (ofL x.1.sel)) false).run Tryz.prog W0.drew=.ok (.map none) W0.drew:=by rw [lookup_snd W0.drew sb l HN.out.1.drew.map,hl];rfl
       have eq1:=eql_set_none
       go_region
       clear lk eq1
       go_wp2_with fail
       have HN1:Hid (SndAt W0.drew sb l ps∧Chg (w.setCell ⟨m,1,none⟩ (.int .i64 (Go.RowKit.wrap64 (h+1)))) W0.drew (fun k=>k=sb∨∃ s,l0.lookup s=some (.map (some k)))∧Cel W0.drew (pl k)∧Cel W0.drew z∧Cel W0.drew b):=⟨HN.out.1.drew,HN.out.2.drew,HQ.out.same rfl,HZ.out.1.same rfl,HZ.out.2.same rfl⟩
       have z3':W0.drew.cell? ⟨z,3,none⟩=some (.string (ofL x.1.sel)):=z3
       have z5':W0.drew.cell? ⟨z,5,none⟩=some (.pointer (some ⟨pl k,0,none⟩)):=z5
       have hb':W0.drew.cell? ⟨b,5,none⟩=some (.map (some sb)):=hb0
       clear z3 z5 hb0 HN HQ HZ
       revert HN1 z3' z5' hb'
       generalize W0.drew=W1
       intro HN1 z3 z5 hb0
       obtain ⟨W2,hrun,hsn2,hreg2,hg2⟩:=snd_new (W:=(W1.alloc (.map #[] 0)).drew) (nb:=W1.heap.size) ((HN1.out.1.chg ((Chg.refl W1 (fun _=>False)).alloc (.map #[] 0)) (fun h=>h) (fun _ _ _ h=>h) (fun _ _ _ _ _ h=>h.elim)).drew) hl (MapKept.heap_alloc W1 _).1
        (fun t e=>by obtain ⟨jb,e1,e2,_⟩:=HN1.out.1.inn t _ e;injection e1 with e1;injection e1 with e1;have:=e2.lt;omega) (by have:=HN1.out.1.map.lt;omega)
       have hmm:=@run_makeMap Tryz.prog
       have zl:=World.block_lt_of_cell? W1 ⟨z,3,none⟩ z3
       have bl':=World.block_lt_of_cell? W1 ⟨b,5,none⟩ hb0
       have z3a:(W1.alloc (.map #[] 0)).drew.cell? ⟨z,3,none⟩=some (.string (ofL x.1.sel)):=by go_keep
       have hba:(W1.alloc (.map #[] 0)).drew.cell? ⟨b,5,none⟩=some (.map (some sb)):=by go_keep
       go_region
       have hcel:∀ j,Cel W1 j→W2.heap[j]?=W1.heap[j]?:=fun j hj=>(hg2.block j (by show j < (W1.alloc _).heap.size;simp;have:=hj.lt;omega) (fun e=>by injection e with e;exact cel_ne_map hj HN1.out.1.map e)).trans (Below.heap_alloc W1 _ j hj.lt)
       have z3':W2.cell? ⟨z,3,none⟩=some (.string (ofL x.1.sel)):=(World.cell?_of_block (a:=⟨z,3,none⟩) (hcel z HN1.out.2.2.2.1)).trans z3
       have z5':W2.cell? ⟨z,5,none⟩=some (.pointer (some ⟨pl k,0,none⟩)):=(World.cell?_of_block (a:=⟨z,5,none⟩) (hcel z HN1.out.2.2.2.1)).trans z5
       have hb':W2.cell? ⟨b,5,none⟩=some (.map (some sb)):=(World.cell?_of_block (a:=⟨b,5,none⟩) (hcel b HN1.out.2.2.2.2)).trans hb0
       have hq2:Cel W2 (pl k):=HN1.out.2.2.1.same (hcel _ HN1.out.2.2.1)
       have hch2:Chg (w.setCell ⟨m,1,none⟩ (.int .i64 (Go.RowKit.wrap64 (h+1)))) W2 (fun k=>k=sb∨∃ s,l0.lookup s=some (.map (some k))):=((HN1.out.2.1.alloc (.map #[] 0)).then (Chg.of_grown ⟨hg2.os,hg2.tape,hg2.output,hg2.size,hg2.block⟩) (fun j _ e=>.inl e))
       have hl2:(put l (ofL x.1.sel) (.map (some W1.heap.size))).lookup (ofL x.1.sel)=some (.map (some W1.heap.size)):=by rw [lookup_put,if_pos rfl]
       have hnb:w.heap.size≤W1.heap.size:=by have:=HN1.out.2.1.size;simp only [World.setCell,Array.size_modify] at this;exact this
       have HN2:Hid _:=hsn2
       have HR2:Hid _:=hreg2
       have HC2:Hid _:=hch2
       clear z3 z5 hb0 HN1 hcel hsn2 hreg2 hg2 hrun z3a hba zl bl' hch2
       go_wp2_with fail
       have lk2:(Instr.lookup 56 (.map (some sb)) (.string (ofL x.1.sel)) false).run Tryz.prog W2.drew=.ok (.map (some W1.heap.size)) W2.drew:=by rw [lookup_snd W2.drew sb _ HN2.out.drew.map,hl2];rfl
       obtain ⟨W',ps',hrun,hsn',hreg',hg'⟩:=snd_old HN2.out.drew hl2 (hq2.same rfl) (.agg #[])
       unfold pkey at hrun
       go_region
       have HW:Hid (SndAt W' sb (put l (ofL x.1.sel) (.map (some W1.heap.size))) ps'∧(∀ t r,Reg (put l (ofL x.1.sel) (.map (some W1.heap.size))) ps' t r ↔ Reg (put l (ofL x.1.sel) (.map (some W1.heap.size))) (fun k=>if k=W1.heap.size then [] else ps k) t r∨t=ofL x.1.sel∧r=pl k)∧W2.grownBy W' (some W1.heap.size)):=⟨hsn',hreg',⟨hg'.os,hg'.tape,hg'.output,hg'.size,hg'.block⟩⟩
       clear hsn' hreg' hg' hrun lk2 z3' z5' hb' hq2 hl2
       go_wp2
       go_roundw
       case rel =>
        obtain ⟨_,hnew,hreg,_⟩:=HR.out
        obtain ⟨hsn',hreg',hg'⟩:=HW.out
        refine ⟨k+1,_,ps',by go_num,by omega,hsn',fun s ib hs=>?_,step_reg HX.out HS.out hreg (fun t r=>by rw [hreg' t r,HR2.out t r]),HC2.out.then (Chg.of_grown hg') (fun j hj e=>?_)⟩
        · rw [lookup_put] at hs
          by_cases e:s=ofL x.1.sel
          · rw [if_pos e] at hs
            have:=mapv_inj hs
            exact .inr (by omega)
          · rw [if_neg e] at hs
            exact hnew s ib hs
        · subst e
          simp only [World.setCell,Array.size_modify] at hj
          omega
       case measure=>simp [intOf] <;> omega
  · obtain rfl:k=ws.length:=by omega
    clear hblk hw hpl hs0 hbc hbr hb m0 m1 mf
    go_wp2
    go_end0
    obtain ⟨hsn,hnew,hreg,hch⟩:=HR.out
    refine ⟨rfl,l,ps,hsn,hnew,fun s q=>?_,?_,?_⟩
    · rw [hreg s q]
      refine or_congr Iff.rfl ⟨?_,?_⟩
      · rintro ⟨i,y,hi,h⟩;exact ⟨i,y,h⟩
      · rintro ⟨i,y,hy,h⟩;exact ⟨i,y,(List.getElem?_eq_some_iff.1 hy).1,hy,h⟩
    · obtain ⟨_,_,hs0,_,hm⟩:=HI.out
      have hmc:Cel w m:=⟨_,_,hm⟩
      refine (hch.block m (by simp only [World.setCell,Array.size_modify];exact hml) (fun e=>?_)).trans ?_
      · rcases e with e | ⟨t,e⟩
        · exact cel_ne_map hmc hs0.map e
        · obtain ⟨ib,e1,e2,_⟩:=hs0.inn t _ e
          injection e1 with e1;injection e1 with e1
          subst e1
          exact cel_ne_set hmc e2 rfl
      · simp only [World.setCell,Array.getElem?_modify,if_pos,hm];rfl
    · exact ((Chg.refl w _).setCell ⟨m,1,none⟩ _ (fun _=>.inl rfl)).then hch (fun j _ e=>.inr e)
theorem lookup_mth (w:World) (cm:Nat) (l:List (ByteArray×Value)) (h:SMap w cm l) (s:ByteArray):(Instr.lookup 99 (.map (some cm)) (.string s) false).run Tryz.prog w=.ok ((l.lookup s).getD (.pointer none)) w :=
 run_lookup h.str Tryz.underlying99 Tryz.underlying9 (Tryz.zeroValue60 w) s
structure Rw4 where
 fr:Option Addr
 sel:ByteArray
 hm:Option Addr
 mt:Option Addr
def Rw4.val (r:Rw4):Value:=.agg #[.pointer r.fr,.string r.sel,.pointer r.hm,.pointer r.mt]
def noRow:Rw4:=⟨none,⟨#[]⟩,none,none⟩
structure TabAt (w:World) (b n:Nat) (R:Nat→Rw4):Prop where
 cel:Cel w b
 n1:1≤n
 n64:n≤64
 sz:w.cell? ⟨b,262,none⟩=some (.int .i64 (n:Nat))
 c0:∀ i,i < 64→w.cell? ⟨b,6+i*4,none⟩=some (.pointer (R i).fr)
 c1:∀ i,i < 64→w.cell? ⟨b,6+i*4+1,none⟩=some (.string (R i).sel)
 c2:∀ i,i < 64→w.cell? ⟨b,6+i*4+2,none⟩=some (.pointer (R i).hm)
 c3:∀ i,i < 64→w.cell? ⟨b,6+i*4+3,none⟩=some (.pointer (R i).mt)
theorem TabAt.same {b n:Nat}{R:Nat→Rw4} (h:TabAt w b n R) (e:w'.heap[b]?=w.heap[b]?):TabAt w' b n R:=by
 have hc:∀ o,w'.cell? ⟨b,o,none⟩=w.cell? ⟨b,o,none⟩:=fun o=>World.cell?_of_block e
 exact ⟨h.cel.same e,h.n1,h.n64,(hc _).trans h.sz,fun i hi=>(hc _).trans (h.c0 i hi),fun i hi=>(hc _).trans (h.c1 i hi),fun i hi=>(hc _).trans (h.c2 i hi),fun i hi=>(hc _).trans (h.c3 i hi)⟩
theorem size_row:(Tryz.prog.info? 64).map (·.size)=some 4:=by kernel_rfl
theorem slice_tab (b n:Nat) (w:World) (h:n≤64):(Instr.sliceAt 65 (.pointer (some ⟨b,6,none⟩)) none (some (.int .i64 (n:Nat))) none).run Tryz.prog w=.ok (.slice (some ⟨b,6,none⟩) n 64) w:=by
 have hs:=size_row
 cases hi:Tryz.prog.info? 64 with
 | none=>rw [hi] at hs;cases hs
 | some i =>
  rw [hi] at hs
  simp at hs
  have h1:¬ ((n:Int) < 0):=by omega
  have h2:¬ ((64:Int) < (n:Int)):=by omega
  simp [Instr.sliceAt,Instr.sureAddr,Instr.sliceBounds,Instr.sliceBound,run_underlying Tryz.underlying65,Go.sizeOf,typeInfo,hi,hs,h1,h2,Addr.add,h,asIntOf]
theorem entries_any (b n:Nat) (R:Nat→Rw4) (w:World) (h:TabAt w b n R) :
 Calls Tryz.prog 70 #[.pointer (some ⟨b,6,none⟩)] w fun e w'=>e=.returned (.slice (some ⟨b,6,none⟩) n 64)∧w'=w.drew:=by
 have hs:=h.sz
 have h1:=h.n1
 have h2:=h.n64
 have hbl:=h.cel.lt
 have hsl:=slice_tab b n w.drew h.n64
 clear h
 go_enter Tryz.func70,Tryz.ntmps70
 go_wp2
 go_region
 go_wp2
 go_ret
 exact ⟨rfl,rfl⟩
theorem TabAt.empty {b n:Nat}{R:Nat→Rw4} (h:TabAt w b n R) {i:Nat} (hi:i < 64) :
 TabAt ((((w.setCell ⟨b,6+i*4,none⟩ (.pointer none)).setCell ⟨b,6+i*4+1,none⟩ (.string ⟨#[]⟩)).setCell ⟨b,6+i*4+2,none⟩ (.pointer none)).setCell ⟨b,6+i*4+3,none⟩ (.pointer none)) b n (fun j=>if j=i then noRow else R j):=by
 have ho:∀ (W:World) (v:Value) (o p:Nat),o≠p→(W.setCell ⟨b,p,none⟩ v).cell? ⟨b,o,none⟩=W.cell? ⟨b,o,none⟩:=fun W v o p hne=>cs_other (by intro e;injection e with e1 e2;omega)
 refine ⟨(((h.cel.setCell _ _).setCell _ _).setCell _ _).setCell _ _,h.n1,h.n64,?_,fun j hj=>?_,fun j hj=>?_,fun j hj=>?_,fun j hj=>?_⟩
 · rw [ho _ _ _ _ (by omega),ho _ _ _ _ (by omega),ho _ _ _ _ (by omega),ho _ _ _ _ (by omega)];exact h.sz
 · by_cases e:j=i
   · subst e
     rw [ho _ _ _ _ (by omega),ho _ _ _ _ (by omega),ho _ _ _ _ (by omega),cs_same (h.c0 j hj)]
     simp [noRow]
   · rw [ho _ _ _ _ (by omega),ho _ _ _ _ (by omega),ho _ _ _ _ (by omega),ho _ _ _ _ (by omega),h.c0 j hj]
     simp [e]
 · by_cases e:j=i
   · subst e
     rw [ho _ _ _ _ (by omega),ho _ _ _ _ (by omega),cs_same ((ho _ _ _ _ (by omega)).trans (h.c1 j hj))]
     simp [noRow]
   · rw [ho _ _ _ _ (by omega),ho _ _ _ _ (by omega),ho _ _ _ _ (by omega),ho _ _ _ _ (by omega),h.c1 j hj]
     simp [e]
 · by_cases e:j=i
   · subst e
     rw [ho _ _ _ _ (by omega),cs_same (((ho _ _ _ _ (by omega)).trans (ho _ _ _ _ (by omega))).trans (h.c2 j hj))]
     simp [noRow]
   · rw [ho _ _ _ _ (by omega),ho _ _ _ _ (by omega),ho _ _ _ _ (by omega),ho _ _ _ _ (by omega),h.c2 j hj]
     simp [e]
 · by_cases e:j=i
   · subst e
     rw [cs_same ((((ho _ _ _ _ (by omega)).trans (ho _ _ _ _ (by omega))).trans (ho _ _ _ _ (by omega))).trans (h.c3 j hj))]
     simp [noRow]
   · rw [ho _ _ _ _ (by omega),ho _ _ _ _ (by omega),ho _ _ _ _ (by omega),ho _ _ _ _ (by omega),h.c3 j hj]
     simp [e]
structure Leans (f:Nat) (cap:Array Value) (φ:Rw4→Bool) (I:World→Prop) (Q:Rw4→Prop):Prop where
 ent:∀ args W,(callFunc f args).run Tryz.prog W=.ok (.enter f args) W
 says:∀ W r,I W→Q r→Calls Tryz.prog f (#[r.val]++cap) W fun e W'=>e=.returned (.bool (φ r))∧Below W.heap.size W W'
structure SameHd (w w':World) (b:Nat):Prop where
 cell:∀ o,o < 6→w'.cell? ⟨b,o,none⟩=w.cell? ⟨b,o,none⟩
 typ:∀ t,(∃ cs,w.heap[b]?=some (.cells cs t (0,0)))→∃ cs,w'.heap[b]?=some (.cells cs t (0,0))
theorem SameHd.of_block {b:Nat} (e:w'.heap[b]?=w.heap[b]?):SameHd w w' b:=⟨fun o _=>World.cell?_of_block e,fun t ⟨cs,h⟩=>⟨cs,e.trans h⟩⟩
variable {w1 w2 : World}
theorem SameHd.trans {b:Nat} (h:SameHd w w1 b) (h':SameHd w1 w2 b):SameHd w w2 b:=⟨fun o ho=>(h'.cell o ho).trans (h.cell o ho),fun t ht=>h'.typ t (h.typ t ht)⟩
theorem SameHd.set {b o:Nat} (h:SameHd w w1 b) (ho:6≤o) (v:Value):SameHd w (w1.setCell ⟨b,o,none⟩ v) b:=h.trans ⟨fun o' ho'=>cs_other (by intro e;injection e with e1 e2;omega),fun t ⟨cs,hc⟩=>⟨_,by simp only [World.setCell,Array.getElem?_modify,if_pos,hc];rfl⟩⟩
theorem tforget_h (b n f:Nat) (cap:Array Value) (φ:Rw4→Bool) (I:World→Prop) (Q:Rw4→Prop) (R:Nat→Rw4) (w:World) (hf:Leans f cap φ I Q) (hQ:∀ i,i < n→Q (R i)) (hI:∀ W,Chg w W (fun k=>k=b)→I W) (h:TabAt w b n R) :
 Calls Tryz.prog 71 #[.pointer (some ⟨b,6,none⟩),.func (.func f) #[] cap] w fun e w'=>e=.returned (.tuple #[]) ∧
  TabAt w' b n (fun i=>if i < n∧φ (R i)=true then noRow else R i)∧Chg w w' (fun k=>k=b)∧SameHd w w' b:=by
 have HT:Hid _:=h
 have h1:=h.n1
 have h2:=h.n64
 clear h
 go_enter Tryz.func71,Tryz.ntmps71
 go_wp2_with fail
 refine (entries_any b n R w HT.out).mono ?_
 rintro e w1 ⟨rfl,rfl⟩
 go_wp2
 go_loopw [11] (fun i wr=>∃ k:Nat,i=.int .i64 k∧k≤n∧TabAt wr b n (fun i=>if i < k∧φ (R i)=true then noRow else R i)∧Chg w wr (fun k=>k=b)∧SameHd w wr b) (fun i _=>n - (intOf i).toNat)
 case atStart=>exact ⟨0,rfl,by omega,by have:=HT.out.same (w':=w.drew) rfl;simpa using this,(Chg.refl w _).drew,.of_block rfl⟩
 case round =>
  obtain ⟨k,rfl,hk,ht,hch,hhd⟩:=hrel
  have HR:Hid (TabAt wr b n (fun i=>if i < k∧φ (R i)=true then noRow else R i)∧Chg w wr (fun k=>k=b)∧SameHd w wr b):=⟨ht,hch,hhd⟩
  by_cases hkn:k < n
  · have c0:=ht.c0 k (by omega)
    have c1:=ht.c1 k (by omega)
    have c2:=ht.c2 k (by omega)
    have c3:=ht.c3 k (by omega)
    rw [if_neg (by omega)] at c0 c1 c2 c3
    have hbl:=ht.cel.lt
    have hbf:=fun o=>ht.cel.free o
    have hent:=hf.ent
    clear ht hch hhd
    go_wp2_with fail
    refine (hf.says _ (R k) (hI _ (HR.out.2.1.alloc _)) (hQ k hkn)).mono ?_
    rintro e w2 ⟨rfl,hb2⟩
    have hw2:w2.heap[b]?=wr.heap[b]?:=(hb2.block b (by simp;omega)).trans (Below.heap_alloc wr _ b hbl)
    have hc2:Chg w w2 (fun k=>k=b):=(HR.out.2.1.alloc _).trans (Chg.of_below hb2 _)
    have ht2:=HR.out.1.same hw2
    have HR2:Hid (TabAt w2 b n (fun i=>if i < k∧φ (R i)=true then noRow else R i)∧Chg w w2 (fun k=>k=b)∧SameHd w w2 b):=⟨ht2,hc2,HR.out.2.2.trans (.of_block hw2)⟩
    clear hb2 hw2 hc2 c0 c1 c2 c3 hbf hbl hent
    cases hφ:φ (R k) with
    | false =>
     have HP:Hid _:=hφ
     clear ht2 hφ
     go_wp2
     go_roundw
     case rel =>
      refine ⟨k+1,by go_num,by omega,?_,HR2.out.2⟩
      have e:(fun i=>if i < k+1∧φ (R i)=true then noRow else R i)=(fun i=>if i < k∧φ (R i)=true then noRow else R i):=by
       funext i
       by_cases hi:i=k
       · subst hi;simp [HP.out]
       · have:(i < k+1) ↔ (i < k):=by omega
         simp [this]
      rw [e]
      exact HR2.out.1
     case measure=>simp [intOf] <;> omega
    | true =>
     have HP:Hid _:=hφ
     have c0:=ht2.c0 k (by omega)
     have c1:=ht2.c1 k (by omega)
     have c2:=ht2.c2 k (by omega)
     have c3:=ht2.c3 k (by omega)
     have hbl:=ht2.cel.lt
     have hbf:=fun o=>ht2.cel.free o
     clear ht2 hφ
     go_wp2
     go_roundw
     case rel =>
      refine ⟨k+1,by go_num,by omega,?_,(((HR2.out.2.1.setCell _ _ (fun _=>rfl)).setCell _ _ (fun _=>rfl)).setCell _ _ (fun _=>rfl)).setCell _ _ (fun _=>rfl),(((HR2.out.2.2.set (by omega) _).set (by omega) _).set (by omega) _).set (by omega) _⟩
      have e:(fun i=>if i < k+1∧φ (R i)=true then noRow else R i)=(fun j=>if j=k then noRow else (fun i=>if i < k∧φ (R i)=true then noRow else R i) j):=by
       funext i
       by_cases hi:i=k
       · subst hi;simp [HP.out]
       · have:(i < k+1) ↔ (i < k):=by omega
         simp [this,hi]
      rw [e]
      exact HR2.out.1.empty (by omega)
     case measure=>simp [intOf] <;> omega
  · obtain rfl:k=n:=by omega
    clear ht hch hhd
    go_wp2
    go_end0
    exact ⟨rfl,HR.out.1,HR.out.2.1,HR.out.2.2⟩
theorem noRows_len:∀ k,(noRows k).length=k*4
 | 0=>rfl
 | k+1=>by simp [noRows,noRows_len k];omega
theorem noRows_get:∀ (k i j:Nat),i < k→j < 4→(noRows k)[i*4+j]?=([.pointer none,.string ⟨#[]⟩,.pointer none,.pointer none]:List Value)[j]?
 | 0,i,j,h,_=>by omega
 | k+1,0,j,_,hj=>by
  match j,hj with
  | 0,_=>rfl
  | 1,_=>rfl
  | 2,_=>rfl
  | 3,_=>rfl
 | k+1,i+1,j,h,hj=>by
  have ih:=noRows_get k i j (by omega) hj
  rw [show (i+1)*4+j=i*4+j+4 from by omega]
  exact ih
theorem img_cell (mb sb:Nat) (p n:Int) (o:Nat):(newImg mb sb p n)[6+o]?=(noRows 64++[Value.int .i64 n])[o]?:=by
 rw [Nat.add_comm]
 unfold newImg
 simp only [List.getElem?_toArray]
 rfl
theorem new_tab {b mb sb:Nat}{p:Int}{n:Nat} (h:w.heap[b]?=some (.cells (newImg mb sb p (n:Nat)) 70)) (h1:1≤n) (h2:n≤64):TabAt w b n (fun _=>noRow):=by
 have hc:∀ o,w.cell? ⟨b,6+o,none⟩=(noRows 64++[Value.int .i64 (n:Nat)])[o]?:=fun o=>by
  simp only [World.cell?,h]
  exact img_cell _ _ _ _ _
 have hr:∀ i j,i < 64→j < 4→w.cell? ⟨b,6+(i*4+j),none⟩=([.pointer none,.string ⟨#[]⟩,.pointer none,.pointer none]:List Value)[j]?:=fun i j hi hj=>by
  rw [hc,List.getElem?_append_left (by rw [noRows_len];omega),noRows_get 64 i j hi hj]
 refine ⟨⟨_,_,h⟩,h1,h2,?_,fun i hi=>hr i 0 hi (by omega),fun i hi=>hr i 1 hi (by omega),fun i hi=>hr i 2 hi (by omega),fun i hi=>hr i 3 hi (by omega)⟩
 have:=hc 256
 rw [List.getElem?_append_right (by rw [noRows_len];omega),noRows_len] at this
 exact this
theorem img_heads {b mb sb:Nat}{p n:Int} (h:w.heap[b]?=some (.cells (newImg mb sb p n) 70)) :
 w.cell? ⟨b,0,none⟩=some (.map (some mb))∧w.cell? ⟨b,1,none⟩=some (.slice none 0 0)∧w.cell? ⟨b,2,none⟩=some (.int .i64 0)∧w.cell? ⟨b,3,none⟩=some (.int .i64 0)∧w.cell? ⟨b,4,none⟩=some (.int .i64 p)∧w.cell? ⟨b,5,none⟩=some (.map (some sb)):=by
 refine ⟨?_,?_,?_,?_,?_,?_⟩ <;> (simp only [World.cell?,h];rfl)
theorem new_snd {sb:Nat} (h:w.heap[sb]?=some (.map #[] 0)):SndAt w sb [] (fun _=>[]) :=
 ⟨sMap_empty h,fun s v hv=>by simp [List.lookup] at hv,fun s t ib hs=>by simp [List.lookup] at hs,fun s ib p hs=>by simp [List.lookup] at hs⟩
end Go.Proofs.YtkghmgoefiepeaaGreatDoor.reads
