import Derived.Deep.WholeRow
import Derived.Deep.RegionHeld3
import Derived.Deep.DrawnRows
import Derived.Test.YtkghmgoefiepeaaGreatDoorQ0
import Derived.Test.YtkghmgoefiepeaaGreatDoorQ12
import Derived.Test.YtkghmgoefiepeaaGreatDoorQ13
import Derived.Test.YtkghmgoefiepeaaGreatDoorQ14
set_option linter.unusedSimpArgs false
set_option linter.unusedVariables false
set_option maxHeartbeats 4000000
set_option maxRecDepth 100000
namespace Go.Proofs.YtkghmgoefiepeaaGreatDoor.reads
open Go.ChangeShapes Go.WideShapes Go.ChangeAt Go.RowKit Kn
def newWalk (v:Value):Array Value:=#[v]++Array.replicate 40 (.int .u32 0)++Array.replicate 40 (.bool false)++#[.slice none 0 0]
theorem newWalk_eq (v:Value):Tryz.zeroCells157.setIfInBounds 0 v=newWalk v:=by kernel_rfl
theorem info_walk:(Tryz.prog.info? 157).map (·.size)=some 82:=by kernel_rfl
theorem newWalk_size (v:Value):(newWalk v).size=82:=by simp [newWalk]
theorem store_walk (w:World) (p:Option Addr) (n cap:Nat):(storeCells ⟨w.heap.size,0,none⟩ (Tryz.zeroCells157.toList.set 0 (.slice p n cap))).run Tryz.prog (w.alloc (.cells Tryz.zeroCells157 157))=.ok () (w.alloc (.cells (newWalk (.slice p n cap)) 157)):=by
 have h:=run_storeCells_new (P:=Tryz.prog) w 157 Tryz.zeroCells157 (newWalk (.slice p n cap)) (by rw [newWalk_size];exact info_walk) (by rw [newWalk_size];kernel_rfl) (by kernel_rfl)
 rw [← newWalk_eq] at h ⊢
 simpa using h
theorem wk_new (w:World) (v:Value):Wk (w.alloc (.cells (newWalk v) 157)) w.heap.size v (fun _=>0) (fun _=>false) (.slice none 0 0):=by
 have hb:=(MapKept.heap_alloc w (.cells (newWalk v) 157)).1
 refine ⟨by simp,?_,fun i hi=>?_,fun i hi=>?_,?_,fun i=>?_⟩
 · simp only [World.cell?,hb];simp [newWalk]
 · simp only [World.cell?,hb]
   show (newWalk v)[1+i]?=_
   unfold newWalk
   rw [Array.getElem?_append_left (by simp;omega),Array.getElem?_append_left (by simp;omega),Array.getElem?_append_right (by simp)]
   simp [hi]
 · simp only [World.cell?,hb]
   show (newWalk v)[41+i]?=_
   unfold newWalk
   rw [Array.getElem?_append_left (by simp;omega),Array.getElem?_append_right (by simp)]
   have e:41+i - (#[v]++Array.replicate 40 (Value.int IntKind.u32 0)).size=i:=by simp
   rw [e,Array.getElem?_replicate,if_pos hi]
 · simp only [World.cell?,hb]
   show (newWalk v)[81]?=_
   unfold newWalk
   rw [Array.getElem?_append_right (by simp)]
   simp
 · simp only [World.frozen?,hb];simp
theorem wi_new (w:World) (ws:List (W×Nat)) (v:Value):Wi w (w.alloc (.cells (newWalk v) 157)) ws v w.heap.size (fun _=>0) (fun _=>false) (.slice none 0 0) [] (fun _ _=>False):=by
 refine ⟨wk_new w v,Nat.le_refl _,(Below.refl _ _).alloc (Nat.le_refl _) _,World.ownsRow_nil _ _ _ _,fun i _=>by simp,fun i h hm=>?_,fun i hi=>(by cases hi),fun x hx=>(by cases hx),fun i h hi hh=>?_⟩
 · unfold mks at hm
   split at hm
   · simp at hm
   · simpa using hm
 · right;right
   intro hm
   rw [mks_in hi] at hm
   simp at hm
theorem pairs_len (n:Nat):(pairs n).length=(n+1)*17:=by
 unfold pairs
 rw [List.length_flatMap]
 simp [List.map_const']
theorem unm_le (n:Nat) (M:Nat→Nat→Bool) (h:n≤40):unm n M≤697:=by
 have:=List.countP_le_length (p:=fun p:Nat×Nat=>!M p.1 p.2) (l:=pairs n)
 rw [pairs_len] at this
 unfold unm
 omega
variable {w : World}
theorem own_last {B:Nat}{e:TypeId}{v:Value}{A:List (Nat×Nat)}{x:Nat×Nat} (h:w.ownsRow B e 2 v (A++[x]).length (acells (A++[x]))):∃ g c,v=.slice (some ⟨g,0,none⟩) (A.length+1) c∧A.length+1≤c∧c≤maxLen∧g < w.heap.size∧B≤g∧w.cell? ⟨g,A.length*2,none⟩=some (.int .i64 (x.1:Nat))∧w.cell? ⟨g,A.length*2+1,none⟩=some (.int .i64 (x.2:Nat)):=by
 have hl:(A++[x]).length=A.length+1:=by simp
 have hc:=fun g hg=>h.cells (g:=g) hg
 rcases h.2 with ⟨_,h0⟩ | ⟨g,c,cur,hv,hb,hg,hn,hm,_⟩
 · omega
 · subst hv
   have key:∀ j u,(acells (A++[x]))[j]?=some u→w.cell? ⟨g,j,none⟩=some u:=by
    intro j u hj
    have:=hc g rfl j u hj
    have hadd:(⟨g,0,none⟩:Addr).add j=⟨g,j,none⟩:=by unfold Addr.add;split <;> simp_all
    rw [hadd] at this
    exact this
   refine ⟨g,c,by rw [hl],by omega,hm,(Array.getElem?_eq_some_iff.1 hg).1,hb,key _ _ ?_,key _ _ ?_⟩
   · rw [acells_append,List.getElem?_append_right (by rw [acells_len];omega),acells_len];simp [acells]
   · rw [acells_append,List.getElem?_append_right (by rw [acells_len];omega),acells_len]
     simp [acells]
theorem several_iff {ws:List (W×Nat)}{H:Nat→Nat}{k:Nat} (hk:k < ws.length) (hH:H k < 2 ^ 17):1 < cnt (mks ws H) k 17 ↔ H k &&& (H k - 1)≠0:=by
 rw [cnt_two]
 have hb:∀ h,(H k).testBit h=true→h≤16:=fun h hh=>by
  apply Classical.byContradiction
  intro hn
  have:H k < 2 ^ h:=Nat.lt_of_lt_of_le hH (Nat.pow_le_pow_right (by omega) (by omega))
  rw [Nat.testBit_lt_two_pow this] at hh
  cases hh
 constructor
 · rintro ⟨h1,h2,hlt,_,m1,m2⟩ hz
   rw [mks_in hk] at m1 m2
   have:=(two_bits 17 (H k) hH).1 hz h1 h2 m1 m2
   omega
 · intro hz
   have:¬ ∀ h1 h2,(H k).testBit h1=true→(H k).testBit h2=true→h1=h2:=fun h=>hz ((two_bits 17 (H k) hH).2 h)
   obtain ⟨h1,hx⟩:=Classical.not_forall.1 this
   obtain ⟨h2,hx⟩:=Classical.not_forall.1 hx
   obtain ⟨b1,hx⟩:=Classical.not_imp.1 hx
   obtain ⟨b2,hne⟩:=Classical.not_imp.1 hx
   rcases Nat.lt_or_gt_of_ne hne with hlt | hlt
   · exact ⟨h1,h2,hlt,hb h2 b2,by rw [mks_in hk];exact b1,by rw [mks_in hk];exact b2⟩
   · exact ⟨h2,h1,hlt,hb h1 b1,by rw [mks_in hk];exact b2,by rw [mks_in hk];exact b1⟩
variable {w0 : World}
theorem wi_wrong {ws:List (W×Nat)}{vw va:Value}{b:Nat}{H:Nat→Nat}{Fd:Nat→Bool} (h:Wi w0 w ws vw b H Fd va [] (fun _ _=>False)) (h0:mks ws H 0 0=true) {k:Nat} (hk:k < ws.length):Wrong ws k ↔ (H k &&& (H k - 1)≠0∨Fd k=true):=by
 have hm:Marked ws (mks ws H) Fd:=⟨h0,h.reach,h.bad⟩
 have hg:∀ i j,i < ws.length→j≤16→Gone ws (mks ws H) Fd i j:=fun i j hi hj=>by
  rcases h.gone i j hi hj with hf | hm | hg
  · exact hf.elim
  · cases hm
  · exact hg
 rw [wrong_iff hm hg hk,several_iff hk (h.hH k hk),Or.comm]
theorem checkStack_any (ws:List (W×Nat)) (p:Option Addr) (g cap:Nat) (w:World) (hn:ws.length≤40) (hw:KAt w p g ws) (hf:∀ (i:Nat) (x:W×Nat),ws[i]?=some x→Fine x.1 ws.length) (hge:0 < w.heap.size) (hE:HasEff w) :
 Calls Tryz.prog 43 #[.slice p ws.length cap] w fun e w'=>∃ r:Int,e=.returned (.int .i64 r)∧IsFirst (Wrong ws) ws.length r∧Below w.heap.size w w':=by
 have HW:Hid _:=hw
 have HF:Hid _:=hf
 have HE:Hid (HasEff w):=hE
 clear hw hf hE
 go_enter Tryz.func43,Tryz.ntmps43
 have hst:=store_walk w p ws.length cap
 go_wp2_with fail
 clear hst
 have hw0:=wi_new w ws (.slice p ws.length cap)
 refine (arrive_any ws p cap w.heap.size 0 0 _ _ _ [] _ w _ hn (by omega) (by omega) (reach_start ws) (by simp) hw0).mono ?_
 rintro e W1 ⟨rfl,H1,va1,A1,hwi,hmk,_,hms,_,_⟩
 have hU:A1.length+2*unm ws.length (mks ws H1)≤1394:=by
  have:=unm_le ws.length (mks ws (fun _=>0)) hn
  simp at hms
  omega
 have HI:Hid _:=hwi
 have HM:Hid _:=hmk
 clear hwi hmk hms hw0
 go_wp2_with fail
 go_loopg [4] (A1.length+2*unm ws.length (mks ws H1)) (fun gk _ wr=>∃ (H:Nat→Nat) (Fd:Nat→Bool) (va:Value) (A:List (Nat×Nat)),Wi w wr ws (.slice p ws.length cap) w.heap.size H Fd va A (fun _ _=>False)∧mks ws H 0 0=true∧gk=A.length+2*unm ws.length (mks ws H)∧gk≤1394)
 case atStart=>exact ⟨H1,_,va1,A1,HI.out,HM.out,rfl,hU⟩
 case round =>
  clear HI HM hU
  obtain ⟨H,Fd,va,A,hwi,hmk,rfl,hU⟩:=hrel
  have HI:Hid _:=hwi
  have HM:Hid _:=hmk
  clear hwi hmk
  have ca:=HI.out.wk.ca
  have fa:=HI.out.wk.free 81
  have hbl:=HI.out.wk.lt
  rcases List.eq_nil_or_concat A with rfl | ⟨A',x,rfl⟩
  · obtain ⟨q,c,rfl⟩:=own_len HI.out.own
    have HWr:Hid (∀ k,k < ws.length→(Wrong ws k ↔ (H k &&& (H k - 1)≠0∨Fd k=true))):=by
     have hx1:∀ k,k < ws.length→(Wrong ws k ↔ (H k &&& (H k - 1)≠0∨Fd k=true)):=fun k hk=>wi_wrong HI.out HM.out hk
     exact hx1
    have HH:Hid (∀ k,k < ws.length→H k < 2 ^ 17):=HI.out.hH
    go_wp2
    go_loopw [33] (fun i w2=>∃ k:Nat,i=.int .i64 k∧k≤ws.length∧(∀ j,j < k→¬ Wrong ws j)∧Wk w2 w.heap.size (.slice p ws.length cap) H Fd (.slice q 0 c)∧Below w.heap.size w w2) (fun i _=>ws.length - (intOf i).toNat)
    case atStart=>exact ⟨0,rfl,by omega,fun j h=>by omega,HI.out.wk,HI.out.below⟩
    case round =>
     clear ca fa
     obtain ⟨k,rfl,hk,hno,hwk,hbl2⟩:=hrel
     have HNo:Hid _:=hno
     have HWK:Hid _:=hwk
     clear hno hwk
     by_cases hkn:k < ws.length
     · have c1:=HWK.out.ch k (by omega)
       have c2:=HWK.out.cf k (by omega)
       have hHk:=HH.out k hkn
       have h40:(k:Int) < 40:=by omega
       have tw:=u32_two (H k) hHk
       have tw2:bits .and .u32 (H k:Nat) (((H k:Int) - 1) % 4294967296)=((H k &&& (H k - 1):Nat):Int):=by rw [IntKind.wrap_u32] at tw;exact tw
       have HK:Hid (Wrong ws k ↔ (H k &&& (H k - 1)≠0∨Fd k=true)):=HWr.out k hkn
       obtain ⟨z,hz⟩:∃ z,H k &&& (H k - 1)=z:=⟨_,rfl⟩
       rw [hz] at tw tw2 HK
       clear hz hHk
       have next:∀ w',Wk w' w.heap.size (.slice p ws.length cap) H Fd (.slice q 0 c)→Below w.heap.size w w'→¬ Wrong ws k→∃ k':Nat,Value.int IntKind.i64 ((k:Int)+1)=.int .i64 (k':Nat)∧k'≤ws.length∧(∀ j,j < k'→¬ Wrong ws j)∧Wk w' w.heap.size (.slice p ws.length cap) H Fd (.slice q 0 c)∧Below w.heap.size w w':=by
        intro w' h1 h2 h3
        refine ⟨k+1,by go_num,by omega,fun j hj=>?_,h1,h2⟩
        by_cases e:j=k
        · subst e;exact h3
        · exact HNo.out j (by omega)
       have HN:Hid _:=next
       clear next
       by_cases hz:z=0
       · subst hz
         cases hF:Fd k
         · rw [hF] at c2
           go_wp2_with fail
           go_quiet (fail)
           go_wp2
           go_roundw
           case rel=>exact HN.out _ (HWK.out.same rfl) (hbl2.drewN' _) (fun hwr=>by rcases HK.out.1 hwr with h | h;exact h rfl;rw [hF] at h;cases h)
           case measure=>simp [intOf] <;> omega
         · rw [hF] at c2
           go_wp2_with fail
           go_quiet (fail)
           go_wp2
           go_ret
           exact ⟨k,rfl,.inr ⟨k,hkn,rfl,HK.out.2 (.inr hF),HNo.out⟩,hbl2.drewN' _⟩
       · have tz:((z:Int) != 0)=true:=by simp;omega
         go_wp2_with fail
         go_quiet (fail)
         go_wp2
         go_ret
         exact ⟨k,rfl,.inr ⟨k,hkn,rfl,HK.out.2 (.inl hz),HNo.out⟩,hbl2.drewN' _⟩
     · obtain rfl:k=ws.length:=by omega
       go_wp2
       go_ret
       exact ⟨-1,rfl,.inl ⟨rfl,HNo.out⟩,hbl2⟩
  · rw [List.concat_eq_append] at HI hU
    obtain ⟨g2,c2,rfl,hc2,hcm,hg2,hbg,k0,k1⟩:=own_last HI.out.own
    have hin:=HI.out.inA x (by simp)
    have hne:¬ g2=w.heap.size:=by omega
    unfold maxLen at hcm
    go_wp2_with fail
    have hp:=(wi_pop HI.out rfl).mono ((Below.refl _ _).alloc (Nat.le_refl _) (.cells #[.int .i64 (x.1:Nat),.int .i64 (x.2:Nat)] 160))
    refine (step_any ws p g cap w.heap.size x.1 x.2 H Fd _ A' w _ hn hin.1 hin.2.1 hin.2.2 (by simp at hU;omega) HW.out HF.out hge HE.out hp).mono ?_
    rintro e W2 ⟨rfl,H2,Fd2,va2,A2,hwi2,hmono,hms⟩
    have HI2:Hid _:=hwi2
    have HM2:Hid (mks ws H2 0 0=true):=hmono _ _ HM.out
    clear hp hwi2 hmono ca fa k0 k1
    go_wp2
    go_roundg (A2.length+2*unm ws.length (mks ws H2))
    case measure=>simp;omega
    case rel=>exact ⟨H2,Fd2,va2,A2,HI2.out,HM2.out,rfl,by simp at hU;omega⟩
end Go.Proofs.YtkghmgoefiepeaaGreatDoor.reads
namespace Go.Proofs.YtkghmgoefiepeaaGreatDoor.reads
open Go.ChangeShapes Go.WideShapes Go.ChangeAt Go.RowKit Kn Go.Proofs.YtkghmgoefiepeaaGreatDoor.img
def NoMem (w:World) (p:Nat):Prop:=w.heap[p]?=some (.cells #[.iface 194 (.agg #[])] 198)
theorem newPlace_any (w:World):Calls Tryz.prog 85 #[] w fun e w'=>e=.returned (.pointer (some ⟨w.heap.size,0,none⟩))∧w'=w.alloc (.cells #[.iface 194 (.agg #[])] 198):=by
 go_enter Tryz.func85,Tryz.ntmps85
 go_wp2
 go_ret
 exact ⟨rfl,rfl⟩
def sendsW (x:W):Bool:=decide (x.k=115∨x.k=94)
structure MAt (w:World) (p:Option Addr) (g:Nat) (ws:List (W×Nat)) (pl:Nat→Nat) (n:Nat):Prop where
 head:1≤ws.length→p=some ⟨g,0,none⟩
 cel:1≤ws.length→Cel w g
 c0:∀ i x,ws[i]?=some x→w.cell? ⟨g,i*6,none⟩=some (.int .i64 (kindOf x.1.k:Nat))
 c1:∀ i x,ws[i]?=some x→w.cell? ⟨g,i*6+1,none⟩=some (.int .i64 x.1.n)
 c2:∀ i x,ws[i]?=some x→w.cell? ⟨g,i*6+2,none⟩=some (.string (ofL x.1.a))
 c3:∀ i x,ws[i]?=some x→w.cell? ⟨g,i*6+3,none⟩=some (.string (ofL x.1.sel))
 c4:∀ i x,ws[i]?=some x→w.cell? ⟨g,i*6+4,none⟩=some (.string (ofL x.1.b))
 c5:∀ i x,ws[i]?=some x→w.cell? ⟨g,i*6+5,none⟩=some (.pointer (if i < n∧sendsW x.1=true then some ⟨pl i,0,none⟩ else none))
variable {w w' : World}
theorem MAt.same {p:Option Addr}{g:Nat}{ws:List (W×Nat)}{pl:Nat→Nat}{n:Nat} (h:MAt w p g ws pl n) (e:w'.heap[g]?=w.heap[g]?):MAt w' p g ws pl n:=by
 have hc:∀ o,w'.cell? ⟨g,o,none⟩=w.cell? ⟨g,o,none⟩:=fun o=>World.cell?_of_block e
 exact ⟨h.head,fun k=>(h.cel k).same e,fun i x hx=>(hc _).trans (h.c0 i x hx),fun i x hx=>(hc _).trans (h.c1 i x hx),fun i x hx=>(hc _).trans (h.c2 i x hx),fun i x hx=>(hc _).trans (h.c3 i x hx),fun i x hx=>(hc _).trans (h.c4 i x hx),fun i x hx=>(hc _).trans (h.c5 i x hx)⟩
theorem KAt.mat {p:Option Addr}{g:Nat}{ws:List (W×Nat)} (h:KAt w p g ws) (hc:1≤ws.length→Cel w g) (pl:Nat→Nat):MAt w p g ws pl 0 :=
 ⟨h.head,hc,h.c0,h.c1,h.c2,h.c3,h.c4,fun i x hx=>by rw [if_neg (by omega)];exact h.c5 i x hx⟩
theorem MAt.pass {p:Option Addr}{g:Nat}{ws:List (W×Nat)}{pl:Nat→Nat}{n:Nat} (h:MAt w p g ws pl n) {x:W×Nat} (hx:ws[n]?=some x) (hs:sendsW x.1=false):MAt w p g ws pl (n+1) :=
 ⟨h.head,h.cel,h.c0,h.c1,h.c2,h.c3,h.c4,fun i y hy=>by
  rw [h.c5 i y hy]
  by_cases e:i=n
  · subst e
    rw [hx] at hy
    injection hy with hy
    subst hy
    simp [hs]
  · have:(i < n+1) ↔ (i < n):=by omega
    simp [this]⟩
theorem MAt.put {p:Option Addr}{g:Nat}{ws:List (W×Nat)}{pl:Nat→Nat}{n:Nat} (h:MAt w p g ws pl n) {x:W×Nat} (hx:ws[n]?=some x) (hs:sendsW x.1=true) (q:Nat) :
 MAt (w.setCell ⟨g,n*6+5,none⟩ (pkey q)) p g ws (fun i=>if i=n then q else pl i) (n+1):=by
 have ho:∀ o,o≠n*6+5→(w.setCell ⟨g,n*6+5,none⟩ (pkey q)).cell? ⟨g,o,none⟩=w.cell? ⟨g,o,none⟩:=fun o hne=>cs_other (by intro e;injection e with e1 e2;omega)
 refine ⟨h.head,fun k=>(h.cel k).setCell _ _,fun i y hy=>(ho _ (by omega)).trans (h.c0 i y hy),fun i y hy=>(ho _ (by omega)).trans (h.c1 i y hy),fun i y hy=>(ho _ (by omega)).trans (h.c2 i y hy),fun i y hy=>(ho _ (by omega)).trans (h.c3 i y hy),fun i y hy=>(ho _ (by omega)).trans (h.c4 i y hy),fun i y hy=>?_⟩
 by_cases e:i=n
 · subst e
   rw [hx] at hy
   injection hy with hy
   subst hy
   rw [cs_same (h.c5 i x hx)]
   simp [hs,pkey]
 · rw [ho _ (by omega),h.c5 i y hy]
   have:(i < n+1) ↔ (i < n):=by omega
   simp [this,e]
theorem kAt_cel {ws:List (W×Nat)}{B:Nat}{e:TypeId}{v:Value} (h:w.ownsRow B e 6 v ws.length (kcellsWs ws)):∃ p g cap,v=.slice p ws.length cap∧KAt w p g ws∧(1≤ws.length→Cel w g∧B≤g):=by
 have h0:=h
 obtain ⟨p,g,cap,rfl,hk⟩:=kAt_owns h
 refine ⟨p,g,cap,rfl,hk,fun h1=>?_⟩
 obtain rfl:=hk.head h1
 rcases h0.2 with ⟨h2,h3⟩ | ⟨g',cap',cur,h2,hb,hg,_⟩
 · cases h2
 · injection h2 with h2 _ _
   injection h2 with h2
   injection h2 with h2 _ _
   subst h2
   exact ⟨⟨_,_,hg⟩,hb⟩
structure NewPl (w0 w:World) (ws:List (W×Nat)) (pl:Nat→Nat) (n:Nat):Prop where
 mem:∀ i x,i < n→ws[i]?=some x→sendsW x.1=true→NoMem w (pl i)∧w0.heap.size≤pl i
 inj:∀ i j x y,i < n→j < n→ws[i]?=some x→ws[j]?=some y→sendsW x.1=true→sendsW y.1=true→pl i=pl j→i=j
theorem NoMem.lt {p:Nat} (h:NoMem w p):p < w.heap.size:=(Array.getElem?_eq_some_iff.1 h).1
variable {w0 : World}
theorem NewPl.same {ws:List (W×Nat)}{pl:Nat→Nat}{n:Nat} (h:NewPl w0 w ws pl n) (hs:∀ k,w0.heap.size≤k→k < w.heap.size→w'.heap[k]?=w.heap[k]?):NewPl w0 w' ws pl n :=
 ⟨fun i x hi hx hsx=>by obtain ⟨h1,h2⟩:=h.mem i x hi hx hsx;exact ⟨(hs _ h2 h1.lt).trans h1,h2⟩,h.inj⟩
theorem NewPl.pass {ws:List (W×Nat)}{pl:Nat→Nat}{n:Nat} (h:NewPl w0 w ws pl n) {x:W×Nat} (hx:ws[n]?=some x) (hs:sendsW x.1=false):NewPl w0 w ws pl (n+1):=by
 have key:∀ i y,i < n+1→ws[i]?=some y→sendsW y.1=true→i < n:=fun i y hi hy hsy=>by
  by_cases e:i=n
  · subst e;rw [hx] at hy;injection hy with hy;subst hy;rw [hs] at hsy;cases hsy
  · omega
 exact ⟨fun i y hi hy hsy=>h.mem i y (key i y hi hy hsy) hy hsy,fun i j y z hi hj hy hz hsy hsz e=>h.inj i j y z (key i y hi hy hsy) (key j z hj hz hsz) hy hz hsy hsz e⟩
theorem NewPl.put {ws:List (W×Nat)}{pl:Nat→Nat}{n q:Nat} (h:NewPl w0 w ws pl n) (hs:∀ k,w0.heap.size≤k→k < w.heap.size→w'.heap[k]?=w.heap[k]?) (hq:NoMem w' q) (hl:w.heap.size≤q) (h0:w0.heap.size≤w.heap.size):NewPl w0 w' ws (fun i=>if i=n then q else pl i) (n+1):=by
 refine ⟨fun i y hi hy hsy=>?_,fun i j y z hi hj hy hz hsy hsz e=>?_⟩
 · by_cases e:i=n
   · simp only [e,if_true];exact ⟨hq,by omega⟩
   · simp only [e,if_false]
     obtain ⟨h1,h2⟩:=h.mem i y (by omega) hy hsy
     exact ⟨(hs _ h2 h1.lt).trans h1,h2⟩
 · by_cases ei:i=n
   · by_cases ej:j=n
     · omega
     · simp only [ei,ej,if_true,if_false] at e
       have:=(h.mem j z (by omega) hz hsz).1.lt
       omega
   · by_cases ej:j=n
     · simp only [ei,ej,if_true,if_false] at e
       have:=(h.mem i y (by omega) hy hsy).1.lt
       omega
     · simp only [ei,ej,if_false] at e
       exact h.inj i j y z (by omega) (by omega) hy hz hsy hsz e
theorem newMethod_any (ws:List (W×Nat)) (p:Option Addr) (g cap:Nat) (w:World) (hn:ws.length≤40) (hw:KAt w p g ws) (hcel:1≤ws.length→Cel w g) (h0:∀ (i:Nat) (x:W×Nat),ws[i]?=some x→Fine0 x.1) (hge:0 < w.heap.size) (hgg:1≤ws.length→g≠0) (hE:HasEff w) :
 Calls Tryz.prog 45 #[.slice p ws.length cap] w fun e w'=>∃ m pl,e=.returned (.pointer (some ⟨m,0,none⟩))∧w'.heap[m]?=some (.cells #[.slice p ws.length cap,.int .i64 0] 165)∧w.heap.size≤m ∧
  MAt w' p g ws pl ws.length∧NewPl w w' ws pl ws.length∧Chg w w' (fun k=>k=g∧1≤ws.length):=by
 have HW:Hid (KAt w p g ws∧(1≤ws.length→Cel w g)):=⟨hw,hcel⟩
 have HF:Hid _:=h0
 clear hw h0 hcel
 go_enter Tryz.func45,Tryz.ntmps45
 go_wp2
 go_loopw [7] (fun i wr=>∃ (k:Nat) (pl:Nat→Nat),i=.int .i64 k∧k≤ws.length∧MAt wr p g ws pl k∧NewPl w wr ws pl k∧Chg w wr (fun j=>j=g∧1≤ws.length)) (fun i _=>ws.length - (intOf i).toNat)
 case atStart=>exact ⟨0,fun _=>0,rfl,by omega,HW.out.1.mat HW.out.2 _,⟨fun i x hi=>by omega,fun i j x y hi=>by omega⟩,Chg.refl _ _⟩
 case round =>
  obtain ⟨k,pl,rfl,hk,hm,hnp,hch⟩:=hrel
  have HM:Hid (MAt wr p g ws pl k∧NewPl w wr ws pl k∧Chg w wr (fun j=>j=g∧1≤ws.length)):=⟨hm,hnp,hch⟩
  clear hm hnp hch
  by_cases hkn:k < ws.length
  · obtain ⟨x,hx⟩:∃ x,ws[k]?=some x:=⟨_,List.getElem?_eq_getElem hkn⟩
    obtain ⟨hm,hnp,hch⟩:=HM.out
    have hfx:=HF.out k x hx
    obtain rfl:p=some ⟨g,0,none⟩:=hm.head (by omega)
    have hgl:=(hm.cel (by omega)).lt
    have hgf:=fun o=>(hm.cel (by omega)).free o
    have c0:=hm.c0 k x hx
    have c1:=hm.c1 k x hx
    have c2:=hm.c2 k x hx
    have c3:=hm.c3 k x hx
    have c4:=hm.c4 k x hx
    have c5:=hm.c5 k x hx
    rw [if_neg (by omega)] at c5
    obtain ⟨t,l,sd,jp,st,he⟩:=eff_of x.1.k x.1.n hfx.kind
    have hEr:HasEff wr:=by
     intro a b c d e f h
     have h1:=hE a b c d e f h
     have hb:=hch.block 0 hge (fun e=>hgg e.2 e.1.symm)
     exact ⟨(World.cell?_of_block hb).trans h1.c0,(World.cell?_of_block hb).trans h1.c1,(World.cell?_of_block hb).trans h1.c2,(World.cell?_of_block hb).trans h1.c3,(World.cell?_of_block hb).trans h1.c4⟩
    have e2:=(hEr (kindOf x.1.k) t l sd jp st he.row).c2
    have hge':0 < wr.heap.size:=Nat.lt_of_lt_of_le hge hch.size
    have hK:=he.lt
    have HS:Hid (sendsW x.1=sd):=by
     have hx1:sendsW x.1=sd:=by
      unfold sendsW
      cases sd with
      | true=>simpa using he.sends.1 rfl
      | false=>simp only [decide_eq_false_iff_not];intro h;have:=he.sends.2 h;cases this
     exact hx1
    have HX:Hid _:=hx
    clear hx hfx he hm hnp hch hEr
    obtain ⟨⟨xk,xn,xs,xa,xb⟩,xi⟩:=x
    simp only at c0 c1 c2 c3 c4 e2 hK
    obtain ⟨K',hKe⟩:∃ K',kindOf xk=K':=⟨_,rfl⟩
    rw [hKe] at c0 e2 hK
    clear hKe
    have hKi:(K':Int) < 23:=by omega
    cases sd
    · go_wp2
      go_roundw
      case rel =>
       obtain ⟨hm,hnp,hch⟩:=HM.out
       exact ⟨k+1,pl,by go_num,by omega,(hm.pass HX.out HS.out).same (Below.heap_alloc _ _ _ hgl),(hnp.pass HX.out HS.out).same (fun j _ hj=>Below.heap_alloc _ _ _ hj),hch.alloc _⟩
      case measure=>simp [intOf] <;> omega
    · go_wp2_with fail
      refine (newPlace_any _).mono ?_
      rintro e w2 ⟨rfl,rfl⟩
      go_wp2
      go_roundw
      case rel =>
       obtain ⟨hm,hnp,hch⟩:=HM.out
       have hg0:g < w.heap.size:=(HW.out.2 (by omega)).lt
       have hsz:=hch.size
       have hne:∀ o o2 v,∀ j,w.heap.size≤j→j < wr.heap.size→(((wr.setCell ⟨g,k*6+5,none⟩ v).alloc o).alloc o2).heap[j]?=wr.heap[j]?:=fun o o2 v j hj hj2=>(Below.heap_alloc _ _ _ (by simp [World.setCell];omega)).trans ((Below.heap_alloc _ _ _ (by simp [World.setCell];omega)).trans (Below.heap_setCell _ _ _ _ (by show j≠g;omega)))
       refine ⟨k+1,_,by go_num,by omega,(hm.put HX.out HS.out (wr.heap.size+1)).same ((Below.heap_alloc _ _ _ (by simp [World.setCell];omega)).trans (Below.heap_alloc _ _ _ (by simp [World.setCell];omega))),hnp.put (hne _ _ _) ?_ (by omega) hsz,((hch.setCell _ _ (fun _=>⟨rfl,by omega⟩)).alloc _).alloc _⟩
       have hz:=(MapKept.heap_alloc ((wr.setCell ⟨g,k*6+5,none⟩ (.pointer (some ⟨wr.heap.size+1,0,none⟩))).alloc (.cells #[.int .i64 K',.int .i64 xn,.string (ofL xa),.string (ofL xs),.string (ofL xb),.pointer none] 146)) (.cells #[.iface 194 (.agg #[])] 198)).1
       simp only [World.size_alloc,World.setCell,Array.size_modify] at hz
       exact hz
      case measure=>simp [intOf] <;> omega
  · obtain rfl:k=ws.length:=by omega
    obtain ⟨hm,hnp,hch⟩:=HM.out
    have hgl:1≤ws.length→g < wr.heap.size:=fun h=>(hm.cel h).lt
    clear hm hnp hch
    go_wp2
    go_ret
    obtain ⟨hm,hnp,hch⟩:=HM.out
    refine ⟨wr.heap.size,pl,rfl,(MapKept.heap_alloc wr _).1,hch.size,?_,hnp.same (fun j _ hj=>Below.heap_alloc _ _ _ hj),hch.alloc _⟩
    by_cases h1:1≤ws.length
    · exact hm.same (Below.heap_alloc _ _ _ (hgl h1))
    · have hno:∀ (i:Nat) (x:W×Nat),ws[i]?≠some x:=fun i x hx=>by have:=(List.getElem?_eq_some_iff.1 hx).1;omega
      exact ⟨fun h=>absurd h h1,fun h=>absurd h h1,fun i x hx=>absurd hx (hno i x),fun i x hx=>absurd hx (hno i x),fun i x hx=>absurd hx (hno i x),fun i x hx=>absurd hx (hno i x),fun i x hx=>absurd hx (hno i x),fun i x hx=>absurd hx (hno i x)⟩
end Go.Proofs.YtkghmgoefiepeaaGreatDoor.reads
