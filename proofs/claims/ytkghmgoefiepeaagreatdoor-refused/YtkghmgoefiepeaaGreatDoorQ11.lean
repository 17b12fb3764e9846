import Derived.BigRegion
import Derived.Test.YtkghmgoefiepeaaGreatDoorQ0
import Derived.Test.YtkghmgoefiepeaaGreatDoorQ2
import Derived.Test.YtkghmgoefiepeaaGreatDoorQ10
set_option linter.unusedSimpArgs false
set_option linter.unusedVariables false
set_option maxHeartbeats 4000000
set_option maxRecDepth 100000
namespace Go.Proofs.YtkghmgoefiepeaaGreatDoor.reads
open Go.ChangeShapes Go.WideShapes Go.ChangeAt Go.RowKit Kn
theorem _root_.Go.RowKit.Below.drewN' {B:Nat}{a w:World} (h:Below B a w) (n:Nat):Below B a (w.drewN n):=⟨h.os,h.tape,h.output,h.size,h.block⟩
def effTab:List (Nat×Nat×Bool×Bool×Bool) :=
 [(0,0,false,false,false),(0,1,false,false,false),(0,1,false,false,false),(0,1,false,false,false),(0,1,false,false,false),(1,0,false,false,false),
  (2,1,false,false,false),(2,1,false,false,false),(2,1,false,false,false),(2,1,false,false,false),(2,1,false,false,false),(1,0,false,false,false),(1,2,false,false,false),
  (0,0,false,true,true),(1,0,false,true,false),(1,1,true,false,false),(0,1,true,false,false),(0,1,false,false,false),(1,1,false,false,false),(0,0,false,false,false),
  (0,0,false,false,false),(0,0,false,false,false),(1,0,false,false,true)]
structure EffAt (w:World) (k t l:Nat) (sd jp st:Bool):Prop where
 c0:w.cell? ⟨0,k*5,none⟩=some (.int .i64 t)
 c1:w.cell? ⟨0,k*5+1,none⟩=some (.int .i64 l)
 c2:w.cell? ⟨0,k*5+2,none⟩=some (.bool sd)
 c3:w.cell? ⟨0,k*5+3,none⟩=some (.bool jp)
 c4:w.cell? ⟨0,k*5+4,none⟩=some (.bool st)
def HasEff (w:World):Prop:=∀ k t l sd jp st,effTab[k]?=some (t,l,sd,jp,st)→EffAt w k t l sd jp st
variable {w w' : World}
theorem HasEff.below (h:HasEff w) {B:Nat} (hB:0 < B) (hb:Below B w w'):HasEff w':=fun k t l sd jp st hk =>
 have hx:=h k t l sd jp st hk
 ⟨(hb.cell (p := ⟨0, _, none⟩) hB).trans hx.c0, (hb.cell (p := ⟨0, _, none⟩) hB).trans hx.c1, (hb.cell (p := ⟨0, _, none⟩) hB).trans hx.c2,
  (hb.cell (p:=⟨0,_,none⟩) hB).trans hx.c3,(hb.cell (p:=⟨0,_,none⟩) hB).trans hx.c4⟩
def slotB (k:Nat):Bool:=decide (k=4)||decide (k=5)
theorem namesSlot_any (k:Nat) (n:Int) (t2 t3 t4:ByteArray) (w:World) {q:Option Addr} :
 Calls Tryz.prog 78 #[.agg #[.int .i64 k,.int .i64 n,.string t2,.string t3,.string t4,.pointer q]] w fun e w'=>e=.returned (.bool (slotB k))∧Below w.heap.size w w':=by
 by_cases h4:k=4
 · subst h4
   go_enter Tryz.func78,Tryz.ntmps78
   go_wp2
   go_ret
   exact ⟨rfl,(Below.refl _ _).alloc (Nat.le_refl _) _⟩
 · have t4':((k:Int)==4)=false:=by simp;omega
   by_cases h5:k=5
   · subst h5
     clear h4 t4'
     go_enter Tryz.func78,Tryz.ntmps78
     go_wp2
     go_ret
     exact ⟨rfl,(Below.refl _ _).alloc (Nat.le_refl _) _⟩
   · have t5':((k:Int)==5)=false:=by simp;omega
     have HS:Hid (slotB k=false):=by
      have hx:slotB k=false:=by simp [slotB,h4,h5]
      exact hx
     clear h4 h5
     go_enter Tryz.func78,Tryz.ntmps78
     go_wp2
     go_ret
     exact ⟨by rw [HS.out];rfl,(Below.refl _ _).alloc (Nat.le_refl _) _⟩
def effTakes (t:Nat) (sd:Bool) (n:Int):Int:=if sd then t+n else t
theorem ktakes_any (k t l:Nat) (sd jp st:Bool) (n:Int) (t2 t3 t4:ByteArray) (w:World) (hk:k < 23) (ht:t≤2) (hn1:-10000 < n) (hn2:n < 10000) (hg:0 < w.heap.size) (h:EffAt w k t l sd jp st) :
 Calls Tryz.prog 112 #[.agg #[.int .i64 k,.int .i64 n,.string t2,.string t3,.string t4,.pointer none]] w fun e w'=>e=.returned (.int .i64 (effTakes t sd n))∧Below w.heap.size w w':=by
 have c0:=h.c0
 have c2:=h.c2
 clear h
 cases sd
 · go_enter Tryz.func112,Tryz.ntmps112
   go_wp2
   go_ret
   exact ⟨rfl,(Below.refl _ _).alloc (Nat.le_refl _) _⟩
 · go_enter Tryz.func112,Tryz.ntmps112
   go_wp2
   go_quiet (fail)
   go_wp2
   go_ret
   exact ⟨rfl,((Below.refl _ _).alloc (Nat.le_refl _) _).drewN' _⟩
structure KAt (w:World) (p:Option Addr) (g:Nat) (ws:List (W×Nat)):Prop where
 head:1≤ws.length→p=some ⟨g,0,none⟩
 lt:1≤ws.length→g < w.heap.size
 c0:∀ i x,ws[i]?=some x→w.cell? ⟨g,i*6,none⟩=some (.int .i64 (kindOf x.1.k:Nat))
 c1:∀ i x,ws[i]?=some x→w.cell? ⟨g,i*6+1,none⟩=some (.int .i64 x.1.n)
 c2:∀ i x,ws[i]?=some x→w.cell? ⟨g,i*6+2,none⟩=some (.string (ofL x.1.a))
 c3:∀ i x,ws[i]?=some x→w.cell? ⟨g,i*6+3,none⟩=some (.string (ofL x.1.sel))
 c4:∀ i x,ws[i]?=some x→w.cell? ⟨g,i*6+4,none⟩=some (.string (ofL x.1.b))
 c5:∀ i x,ws[i]?=some x→w.cell? ⟨g,i*6+5,none⟩=some (.pointer none)
theorem KAt.below {ws:List (W×Nat)}{p:Option Addr}{g:Nat} (h:KAt w p g ws) {B:Nat} (hB:w.heap.size≤B) (hb:Below B w w'):KAt w' p g ws:=by
 have hc:∀ i x o,ws[i]?=some x→w'.cell? ⟨g,o,none⟩=w.cell? ⟨g,o,none⟩:=fun i x o hx=>hb.cell (p:=⟨g,o,none⟩) (by
  have:1≤ws.length:=by have:=(List.getElem?_eq_some_iff.1 hx).1;omega
  have:=h.lt this
  show g < B;omega)
 exact ⟨h.head,fun e=>Nat.lt_of_lt_of_le (h.lt e) hb.size,fun i x hx=>(hc i x _ hx).trans (h.c0 i x hx),fun i x hx=>(hc i x _ hx).trans (h.c1 i x hx),fun i x hx=>(hc i x _ hx).trans (h.c2 i x hx),
  fun i x hx=>(hc i x _ hx).trans (h.c3 i x hx),fun i x hx=>(hc i x _ hx).trans (h.c4 i x hx),fun i x hx=>(hc i x _ hx).trans (h.c5 i x hx)⟩
theorem kcellsWs_get:∀ (l:List (W×Nat)) (i:Nat) (x:W×Nat) (c:Nat),l[i]?=some x→c < 6→(kcellsWs l)[i*6+c]?=(kcells x.1)[c]?
 | [],i,x,c,h,_=>by simp at h
 | y::r,0,x,c,h,hc=>by
  simp at h;subst h
  rw [Nat.zero_mul,Nat.zero_add]
  show (kcells y.1++kcellsWs r)[c]?=_
  exact List.getElem?_append_left (by simpa [kcells] using hc)
 | y::r,i+1,x,c,h,hc=>by
  have ih:=kcellsWs_get r i x c (by simpa using h) hc
  show (kcells y.1++kcellsWs r)[(i+1)*6+c]?=_
  rw [List.getElem?_append_right (by simp [kcells];omega)]
  rw [show (i+1)*6+c - (kcells y.1).length=i*6+c from by simp [kcells];omega]
  exact ih
theorem kAt_owns {ws:List (W×Nat)}{B:Nat}{e:TypeId}{v:Value} (h:w.ownsRow B e 6 v ws.length (kcellsWs ws)):∃ p g cap,v=.slice p ws.length cap∧KAt w p g ws:=by
 have hc:=fun g hg=>h.cells (g:=g) hg
 rcases h.2 with ⟨rfl,h0⟩ | ⟨g,cap,cur,rfl,hb,hg,hn,_⟩
 · refine ⟨none,0,0,by rw [h0],⟨fun e=>by omega,fun e=>by omega,?_,?_,?_,?_,?_,?_⟩⟩
   all_goals
    intro i x hx
    have:=(List.getElem?_eq_some_iff.1 hx).1
    omega
 · have key:∀ i x c u,ws[i]?=some x→c < 6→(kcells x.1)[c]?=some u→w.cell? ⟨g,i*6+c,none⟩=some u:=by
    intro i x c u hx hcc hu
    have:=hc g rfl (i*6+c) u (by rw [kcellsWs_get ws i x c hx hcc];exact hu)
    have hadd:(⟨g,0,none⟩:Addr).add (i*6+c)=⟨g,i*6+c,none⟩:=by unfold Addr.add;split <;> simp_all
    rw [hadd] at this
    exact this
   exact ⟨some ⟨g,0,none⟩,g,cap,rfl,⟨fun _=>rfl,fun _=>(Array.getElem?_eq_some_iff.1 hg).1,fun i x hx=>key i x 0 _ hx (by omega) rfl,fun i x hx=>key i x 1 _ hx (by omega) rfl,fun i x hx=>key i x 2 _ hx (by omega) rfl,
    fun i x hx=>key i x 3 _ hx (by omega) rfl,fun i x hx=>key i x 4 _ hx (by omega) rfl,fun i x hx=>key i x 5 _ hx (by omega) rfl⟩⟩
structure EffOf (k:Nat) (n:Int) (t l:Nat) (sd jp st:Bool):Prop where
 row:effTab[kindOf k]?=some (t,l,sd,jp,st)
 lt:kindOf k < 23
 ht:t≤2
 hl:l≤2
 takes:(takesOf k n).1=effTakes t sd n
 lays:(takesOf k n).2=(l:Int)
 goes:∀ i:Nat,goesOf k n i=(if st then [] else [(i:Int)+1])++(if jp then [n] else [])
 jumps:jp=true ↔ (k=62∨k=63)
 slot:slotB (kindOf k)=true ↔ (k=103∨k=112)
 arg:kindOf k=3 ↔ k=97
 sends:sd=true ↔ (k=115∨k=94)
theorem eff_of (k:Nat) (n:Int) (hk:k∈kinds):∃ t l sd jp st,EffOf k n t l sd jp st:=by
 simp only [kinds,List.mem_cons,List.not_mem_nil,or_false] at hk
 rcases hk with rfl | rfl | rfl | rfl | rfl | rfl | rfl | rfl | rfl | rfl | rfl | rfl | rfl | rfl | rfl | rfl | rfl | rfl | rfl | rfl | rfl | rfl
 all_goals
  refine ⟨_,_,_,_,_,⟨rfl,by decide,by decide,by decide,?_,by simp [takesOf],fun i=>by simp [goesOf],by decide,by decide,by decide,by decide⟩⟩
  simp [takesOf,effTakes] <;> omega
def NumIs (ws:List (W×Nat)) (args slots:Nat) (e i:Int):Prop :=
 (∃ j,j < ws.length∧i=(j:Int)∧NumBad ws args slots j∧(∀ k,k < j→¬ NumBad ws args slots k)∧(argBad ws args j→e=1)∧(¬ argBad ws args j→e=7)) ∨
 ((∀ j,j < ws.length→¬ NumBad ws args slots j)∧e=0∧i=0)
theorem checkNumbers_any (ws:List (W×Nat)) (p:Option Addr) (g cap args slots:Nat) (w:World) (hn:ws.length≤40) (ha:args≤3) (hs:slots≤10) (hw:KAt w p g ws) (h0:∀ (i:Nat) (x:W×Nat),ws[i]?=some x→Fine0 x.1) (hge:0 < w.heap.size) (hE:HasEff w) :
 Calls Tryz.prog 41 #[.slice p ws.length cap,.int .i64 args,.int .i64 slots] w fun e w'=>∃ r i:Int,e=.returned (.tuple #[.int .i64 r,.int .i64 i])∧NumIs ws args slots r i∧Below w.heap.size w w':=by
 have HW:Hid _:=hw
 have HF:Hid _:=h0
 clear hw h0
 go_enter Tryz.func41,Tryz.ntmps41
 go_wp2
 go_loopw [12] (fun i wr=>∃ k:Nat,i=.int .i64 k∧k≤ws.length∧(∀ j,j < k→¬ NumBad ws args slots j)∧Below w.heap.size w wr) (fun i _=>ws.length - (intOf i).toNat)
 case atStart=>exact ⟨0,rfl,by omega,fun j h=>by omega,Below.refl _ _⟩
 case round =>
  obtain ⟨k,rfl,hk,hno,hb⟩:=hrel
  have HNo:Hid _:=hno
  clear hno
  by_cases hkn:k < ws.length
  · obtain ⟨x,hx⟩:∃ x,ws[k]?=some x:=⟨_,List.getElem?_eq_getElem hkn⟩
    have hwx:wAt ws k=x.1:=by unfold wAt;rw [hx];rfl
    have hfx:=HF.out k x hx
    obtain rfl:p=some ⟨g,0,none⟩:=HW.out.head (by omega)
    have hat:=HW.out.below (Nat.le_refl _) hb
    have hgl:=hat.lt (by omega)
    have c0:=hat.c0 k x hx
    have c1:=hat.c1 k x hx
    have c2:=hat.c2 k x hx
    have c3:=hat.c3 k x hx
    have c4:=hat.c4 k x hx
    have c5:=hat.c5 k x hx
    have hlo:=hfx.lo
    have hhi:=hfx.hi
    obtain ⟨t,l,sd,jp,st,he⟩:=eff_of x.1.k x.1.n hfx.kind
    have e3:=(hE.below hge hb (kindOf x.1.k) t l sd jp st he.row).c3
    have hge':0 < wr.heap.size:=Nat.lt_of_lt_of_le hge hb.size
    have hK:=he.lt
    have HA:Hid (argBad ws args k ↔ (kindOf x.1.k=3∧(args:Int)≤x.1.n)∨(jp=true∧(ws.length:Int) < x.1.n)):=by
     have hx1:argBad ws args k ↔ (kindOf x.1.k=3∧(args:Int)≤x.1.n)∨(jp=true∧(ws.length:Int) < x.1.n):=by unfold argBad;rw [hwx,he.arg,he.jumps]
     exact hx1
    have HS:Hid (slotBad ws slots k ↔ (slotB (kindOf x.1.k)=true∧(slots:Int)≤x.1.n)):=by
     have hx1:slotBad ws slots k ↔ (slotB (kindOf x.1.k)=true∧(slots:Int)≤x.1.n):=by unfold slotBad;rw [hwx,he.slot]
     exact hx1
    have HJ:Hid (kindOf x.1.k=3→jp=false):=by
     have hx1:kindOf x.1.k=3→jp=false:=fun e=>by
      have hr:=he.row
      rw [e] at hr
      have h2:=(Option.some.inj hr)
      injection h2 with _ h2;injection h2 with _ h2;injection h2 with _ h2;injection h2 with h2 _
      exact h2.symm
     exact hx1
    clear hx hwx hfx he hat
    obtain ⟨⟨xk,xn,xs,xa,xb⟩,xi⟩:=x
    simp only at c0 c1 c2 c3 c4 e3 hlo hhi hK HA HS HJ
    obtain ⟨K,hKe⟩:∃ K,kindOf xk=K:=⟨_,rfl⟩
    rw [hKe] at c0 e3 hK HA HS HJ
    clear hKe
    have next:∀ w',Below w.heap.size w w'→¬ argBad ws args k→¬ slotBad ws slots k→∃ k':Nat,Value.int IntKind.i64 ((k:Int)+1)=.int .i64 (k':Nat)∧k'≤ws.length∧(∀ j,j < k'→¬ NumBad ws args slots j)∧Below w.heap.size w w':=by
     intro w' hb' ha hs
     refine ⟨k+1,by go_num,by omega,fun j hj=>?_,hb'⟩
     by_cases e:j=k
     · subst e;rintro (h | h)
       · exact ha h
       · exact hs h
     · exact HNo.out j (by omega)
    have HN:Hid _:=next
    clear next
    by_cases h3a:K=3∧(args:Int)≤xn
    · obtain ⟨h3,hbd⟩:=h3a
      have t3:((K:Int)==3)=true:=by simp;omega
      go_wp2
      go_ret2
      exact ⟨1,k,rfl,.inl ⟨k,hkn,rfl,.inl (HA.out.2 (.inl ⟨h3,hbd⟩)),HNo.out,fun _=>rfl,fun h=>absurd (HA.out.2 (.inl ⟨h3,hbd⟩)) h⟩,hb.alloc hb.size _⟩
    by_cases h3:K=3
    · subst h3
      obtain rfl:jp=false:=HJ.out rfl
      have e3':wr.cell? ⟨0,18,none⟩=some (.bool false):=e3
      have hbd:xn < (args:Int):=by omega
      have HX:Hid (¬ argBad ws args k):=by
       have hx1:¬ argBad ws args k:=fun h=>by rcases HA.out.1 h with h | h;exact h3a h;cases h.1
       exact hx1
      have HY:Hid (¬ slotBad ws slots k):=by
       have hx1:¬ slotBad ws slots k:=fun h=>by have:=(HS.out.1 h).1;cases this
       exact hx1
      clear h3a e3
      go_wp2_with fail
      refine (namesSlot_any _ _ _ _ _ _).mono ?_
      rintro e w1 ⟨rfl,hb1⟩
      have hz:w1.cell? ⟨wr.heap.size,1,none⟩=some (.int .i64 xn):=by
       rw [hb1.cell (p:=⟨wr.heap.size,1,none⟩) (by rw [World.size_alloc];show wr.heap.size < _;omega)]
       simp only [World.cell?,(MapKept.heap_alloc wr _).1];rfl
      have hb2:Below w.heap.size w w1:=(hb.alloc hb.size _).trans (hb1.mono (by rw [World.size_alloc];have:=hb.size;omega))
      clear hb1
      simp only [show slotB 3=false from rfl]
      go_wp2
      go_roundw
      case rel=>exact HN.out _ hb2 HX.out HY.out
      case measure=>simp [intOf] <;> omega
    have t3:((K:Int)==3)=false:=by simp;omega
    clear h3a HJ
    by_cases hj:jp=true∧(ws.length:Int) < xn
    · obtain ⟨rfl,hbd⟩:=hj
      go_wp2
      go_ret2
      exact ⟨1,k,rfl,.inl ⟨k,hkn,rfl,.inl (HA.out.2 (.inr ⟨by trivial,hbd⟩)),HNo.out,fun _=>rfl,fun h=>absurd (HA.out.2 (.inr ⟨by trivial,hbd⟩)) h⟩,hb.alloc hb.size _⟩
    have HX:Hid (¬ argBad ws args k):=by
     have hx1:¬ argBad ws args k:=fun h=>by rcases HA.out.1 h with h | h;exact h3 h.1;exact hj h
     exact hx1
    cases jp
    all_goals
     try have hlj:xn≤(ws.length:Int):=by simp at hj;omega
     clear hj
     go_wp2_with fail
     refine (namesSlot_any _ _ _ _ _ _).mono ?_
     rintro e w1 ⟨rfl,hb1⟩
     have hz:w1.cell? ⟨wr.heap.size,1,none⟩=some (.int .i64 xn):=by
      rw [hb1.cell (p:=⟨wr.heap.size,1,none⟩) (by rw [World.size_alloc];show wr.heap.size < _;omega)]
      simp only [World.cell?,(MapKept.heap_alloc wr _).1];rfl
     have hb2:Below w.heap.size w w1:=(hb.alloc hb.size _).trans (hb1.mono (by rw [World.size_alloc];have:=hb.size;omega))
     clear hb1
     cases hsb:slotB K
     · have HY:Hid (¬ slotBad ws slots k):=by
        have hx1:¬ slotBad ws slots k:=fun h=>by have:=(HS.out.1 h).1;rw [hsb] at this;cases this
        exact hx1
       go_wp2
       go_roundw
       case rel=>exact HN.out _ hb2 HX.out HY.out
       case measure=>simp [intOf] <;> omega
     · by_cases hsl:(slots:Int)≤xn
       · go_wp2
         go_ret2
         exact ⟨7,k,rfl,.inl ⟨k,hkn,rfl,.inr (HS.out.2 ⟨hsb,hsl⟩),HNo.out,fun h=>absurd h HX.out,fun _=>rfl⟩,hb2⟩
       · have HY:Hid (¬ slotBad ws slots k):=by
          have hx1:¬ slotBad ws slots k:=fun h=>hsl (HS.out.1 h).2
          exact hx1
         go_wp2
         go_roundw
         case rel=>exact HN.out _ hb2 HX.out HY.out
         case measure=>simp [intOf] <;> omega
  · obtain rfl:k=ws.length:=by omega
    go_wp2
    go_ret2
    exact ⟨0,0,rfl,.inr ⟨HNo.out,rfl,rfl⟩,hb⟩
structure Wk (w:World) (b:Nat) (vw:Value) (H:Nat→Nat) (Fd:Nat→Bool) (va:Value):Prop where
 lt:b < w.heap.size
 c0:w.cell? ⟨b,0,none⟩=some vw
 ch:∀ i,i < 40→w.cell? ⟨b,1+i,none⟩=some (.int .u32 (H i:Nat))
 cf:∀ i,i < 40→w.cell? ⟨b,41+i,none⟩=some (.bool (Fd i))
 ca:w.cell? ⟨b,81,none⟩=some va
 free:∀ i,w.frozen? ⟨b,i,none⟩=false
theorem Wk.same {b:Nat}{vw va:Value}{H:Nat→Nat}{Fd:Nat→Bool} (h:Wk w b vw H Fd va) (hs:w'.heap[b]?=w.heap[b]?):Wk w' b vw H Fd va:=by
 have hc:∀ o,w'.cell? ⟨b,o,none⟩=w.cell? ⟨b,o,none⟩:=fun o=>World.cell?_of_block hs
 have hf:∀ o,w'.frozen? ⟨b,o,none⟩=w.frozen? ⟨b,o,none⟩:=fun o=>World.frozen?_of_block hs
 refine ⟨?_,(hc _).trans h.c0,fun i hi=>(hc _).trans (h.ch i hi),fun i hi=>(hc _).trans (h.cf i hi),(hc _).trans h.ca,fun i=>(hf _).trans (h.free i)⟩
 have:=h.lt
 have hx:w.heap[b]?=some w.heap[b]:=Array.getElem?_eq_getElem this
 rw [hx] at hs
 exact (Array.getElem?_eq_some_iff.1 hs).1
theorem Wk.setH {b:Nat}{vw va:Value}{H:Nat→Nat}{Fd:Nat→Bool} (h:Wk w b vw H Fd va) {i:Nat} (hi:i < 40) (n:Nat):Wk (w.setCell ⟨b,1+i,none⟩ (.int .u32 (n:Nat))) b vw (fun k=>if k=i then n else H k) Fd va:=by
 refine ⟨by simpa [World.setCell] using h.lt,?_,fun k hk=>?_,fun k hk=>?_,?_,fun k=>(World.frozen?_setCell _ _ _ _).trans (h.free k)⟩
 · rw [cs_other (by intro e;injection e with e1 e2;omega)];exact h.c0
 · by_cases e:k=i
   · subst e;rw [cs_same (h.ch k hk)];simp
   · rw [cs_other (by intro e';injection e' with e1 e2;omega),h.ch k hk];simp [e]
 · rw [cs_other (by intro e';injection e' with e1 e2;omega)];exact h.cf k hk
 · rw [cs_other (by intro e';injection e' with e1 e2;omega)];exact h.ca
theorem Wk.setF {b:Nat}{vw va:Value}{H:Nat→Nat}{Fd:Nat→Bool} (h:Wk w b vw H Fd va) {i:Nat} (hi:i < 40):Wk (w.setCell ⟨b,41+i,none⟩ (.bool true)) b vw H (markB Fd i) va:=by
 refine ⟨by simpa [World.setCell] using h.lt,?_,fun k hk=>?_,fun k hk=>?_,?_,fun k=>(World.frozen?_setCell _ _ _ _).trans (h.free k)⟩
 · rw [cs_other (by intro e;injection e with e1 e2;omega)];exact h.c0
 · rw [cs_other (by intro e';injection e' with e1 e2;omega)];exact h.ch k hk
 · by_cases e:k=i
   · subst e;rw [cs_same (h.cf k hk)];simp [markB]
   · rw [cs_other (by intro e';injection e' with e1 e2;omega),h.cf k hk];simp [markB,e]
 · rw [cs_other (by intro e';injection e' with e1 e2;omega)];exact h.ca
theorem Wk.setA {b:Nat}{vw va:Value}{H:Nat→Nat}{Fd:Nat→Bool} (h:Wk w b vw H Fd va) (v:Value):Wk (w.setCell ⟨b,81,none⟩ v) b vw H Fd v:=by
 refine ⟨by simpa [World.setCell] using h.lt,?_,fun k hk=>?_,fun k hk=>?_,cs_same h.ca,fun k=>(World.frozen?_setCell _ _ _ _).trans (h.free k)⟩
 · rw [cs_other (by intro e;injection e with e1 e2;omega)];exact h.c0
 · rw [cs_other (by intro e';injection e' with e1 e2;omega)];exact h.ch k hk
 · rw [cs_other (by intro e';injection e' with e1 e2;omega)];exact h.cf k hk
noncomputable def mks (ws:List (W×Nat)) (H:Nat→Nat):Nat→Nat→Bool:=fun i h=>if i < ws.length then (H i).testBit h else @decide (Kn.Reach ws i h) (Classical.propDecidable _)
def acells:List (Nat×Nat)→List Value
 | []=>[]
 | x::r=>.int .i64 (x.1:Nat)::.int .i64 (x.2:Nat)::acells r
theorem acells_len:∀ l:List (Nat×Nat),(acells l).length=l.length*2
 | []=>rfl
 | x::r=>by simp only [acells,List.length_cons,acells_len r];omega
theorem acells_append:∀ (l r:List (Nat×Nat)),acells (l++r)=acells l++acells r
 | [],r=>rfl
 | x::l,r=>by simp only [List.cons_append,acells,acells_append l r]
structure Wi (w0 w:World) (ws:List (W×Nat)) (vw:Value) (b:Nat) (H:Nat→Nat) (Fd:Nat→Bool) (va:Value) (A:List (Nat×Nat)) (X:Nat→Nat→Prop):Prop where
 wk:Wk w b vw H Fd va
 lo:w0.heap.size≤b
 below:Below w0.heap.size w0 w
 own:w.ownsRow (b+1) 160 2 va A.length (acells A)
 hH:∀ i,i < ws.length→H i < 2 ^ 17
 reach:∀ i h,mks ws H i h=true→Kn.Reach ws i h
 bad:∀ i,Fd i=true→∃ h,Kn.Reach ws i h∧¬ okAt ws i h
 inA:∀ x∈A,x.1 < ws.length∧x.2≤16∧(H x.1).testBit x.2=true
 gone:∀ i h,i < ws.length→h≤16→X i h∨(i,h)∈A∨Gone ws (mks ws H) Fd i h
theorem mks_in {ws:List (W×Nat)}{H:Nat→Nat}{i:Nat} (hi:i < ws.length) (h:Nat):mks ws H i h=(H i).testBit h:=by unfold mks;rw [if_pos hi]
theorem mks_end {ws:List (W×Nat)}{H:Nat→Nat}{h:Nat} (hr:Kn.Reach ws ws.length h):mks ws H ws.length h=true:=by unfold mks;rw [if_neg (by omega)];simp [hr]
theorem mks_mark {ws:List (W×Nat)}{H:Nat→Nat}{a k:Nat} (ha:a < ws.length):mks ws (fun i=>if i=a then H a ||| 2 ^ k else H i)=Kn.mark (mks ws H) a k:=by
 funext i h
 unfold Kn.mark
 by_cases hi:i < ws.length
 · rw [mks_in hi,mks_in hi]
   by_cases e:i=a
   · subst e;simp only [if_true,or_bit];simp
   · rw [if_neg e];simp [e]
 · have:i≠a:=by omega
   unfold mks
   rw [if_neg hi,if_neg hi]
   simp [this]
variable {w0 : World}
theorem Wi.mono {ws:List (W×Nat)}{vw va:Value}{b:Nat}{H:Nat→Nat}{Fd:Nat→Bool}{A:List (Nat×Nat)}{X:Nat→Nat→Prop} (h:Wi w0 w ws vw b H Fd va A X) (hb:Below w.heap.size w w'):Wi w0 w' ws vw b H Fd va A X :=
 ⟨h.wk.same (hb.block b h.wk.lt),h.lo,h.below.trans (hb.mono h.below.size),own_below h.own hb,h.hH,h.reach,h.bad,h.inA,h.gone⟩
theorem own_pop {B:Nat}{e:TypeId}{size n cap:Nat}{p:Option Addr}{xs ys:List Value} (h:w.ownsRow B e size (.slice p (n+1) cap) (n+1) (xs++ys)) (hx:xs.length=n*size):w.ownsRow B e size (.slice p n cap) n xs:=by
 refine ⟨hx,?_⟩
 rcases h.2 with ⟨_,h0⟩ | ⟨g,cap',cur,hv,hb,hg,hn,hm,hs,ht⟩
 · omega
 · injection hv with h1 h2 h3
   subst h1 h3
   refine .inr ⟨g,cap,cur,rfl,hb,hg,by omega,hm,hs,?_⟩
   have:cur.toList.take (n*size)=(cur.toList.take ((n+1)*size)).take (n*size):=by rw [List.take_take,Nat.min_eq_left (Nat.mul_le_mul_right _ (by omega))]
   rw [this,ht,← hx,List.take_left]
theorem wi_pop {ws:List (W×Nat)}{vw:Value}{b:Nat}{H:Nat→Nat}{Fd:Nat→Bool}{p:Option Addr}{n cap:Nat}{A:List (Nat×Nat)}{x:Nat×Nat} (h:Wi w0 w ws vw b H Fd (.slice p (n+1) cap) (A++[x]) (fun _ _=>False)) (hn:A.length=n) :
 Wi w0 (w.setCell ⟨b,81,none⟩ (.slice p n cap)) ws vw b H Fd (.slice p n cap) A (fun i k=>i=x.1∧k=x.2):=by
 refine ⟨h.wk.setA _,h.lo,h.below.setCell (by show w0.heap.size≤b;exact h.lo) _,?_,h.hH,h.reach,h.bad,fun y hy=>h.inA y (List.mem_append_left _ hy),fun i k hi hk=>?_⟩
 · have ho:=h.own
   rw [List.length_append,acells_append] at ho
   simp only [List.length_singleton,hn] at ho
   have hp:=own_pop ho (by rw [acells_len,hn])
   rw [hn]
   exact hp.kept (row:=some b) ⟨rfl,rfl,rfl,by simp [World.setCell],fun k hk hne=>Below.heap_setCell _ _ _ _ (by intro e;exact hne (by rw [e]))⟩ (.inr (fun e=>by have:=(hp.lt b e).1;omega))
 · rcases h.gone i k hi hk with hf | hm | hg
   · exact hf.elim
   · rcases List.mem_append.1 hm with hm | hm
     · exact .inr (.inl hm)
     · simp at hm;exact .inl ⟨by rw [← hm],by rw [← hm]⟩
   · exact .inr (.inr hg)
theorem gone_mark {ws:List (W×Nat)}{M:Nat→Nat→Bool}{Bd:Nat→Bool}{i h a k:Nat} (hg:Gone ws M Bd i h) (hne:¬ (i=a∧h=k)):Gone ws (Kn.mark M a k) Bd i h:=fun hm=>by
 rcases mark_iff.1 hm with e | e
 · exact absurd e hne
 · exact ⟨fun ho t ht=>mark_of _ _ ((hg e).1 ho t ht),(hg e).2⟩
theorem shift_pow (h:Nat) (hh:h≤16):IntKind.u32.wrap ((2:Int) ^ h)=2 ^ h:=by
 have hp:(2:Nat) ^ h < 2 ^ 17:=Nat.pow_lt_pow_right (by omega) (by omega)
 have e:((2:Int) ^ h)=((2 ^ h:Nat):Int):=by push_cast;rfl
 rw [e,IntKind.wrap_u32]
 generalize 2 ^ h=q at *
 omega
theorem wi_mark {ws:List (W×Nat)}{vw va va':Value}{b:Nat}{H:Nat→Nat}{Fd:Nat→Bool}{A:List (Nat×Nat)}{X:Nat→Nat→Prop}{a k:Nat} (h:Wi w0 w ws vw b H Fd va A X) (ha:a < ws.length) (hk:k≤16) (hr:Kn.Reach ws a k)
 (hwk:Wk w' b vw (fun i=>if i=a then H a ||| 2 ^ k else H i) Fd va') (hb:Below w0.heap.size w0 w') (hown:w'.ownsRow (b+1) 160 2 va' (A.length+1) (acells A++[.int .i64 (a:Nat),.int .i64 (k:Nat)])) :
 Wi w0 w' ws vw b (fun i=>if i=a then H a ||| 2 ^ k else H i) Fd va' (A++[(a,k)]) X:=by
 refine ⟨hwk,h.lo,hb,?_,fun i hi=>?_,fun i j hm=>?_,h.bad,fun x hx=>?_,fun i j hi hj=>?_⟩
 · rw [List.length_append,acells_append];exact hown
 · by_cases e:i=a
   · subst e;simp only [if_true];exact or_lt _ _ (h.hH i hi) hk
   · rw [if_neg e];exact h.hH i hi
 · rw [mks_mark ha] at hm
   rcases mark_iff.1 hm with ⟨rfl,rfl⟩ | hm
   · exact hr
   · exact h.reach i j hm
 · rcases List.mem_append.1 hx with hx | hx
   · obtain ⟨h1,h2,h3⟩:=h.inA x hx
     refine ⟨h1,h2,?_⟩
     by_cases e:x.1=a
     · rw [if_pos e,or_bit,← e,h3,Bool.or_true]
     · rw [if_neg e];exact h3
   · simp at hx;subst hx
     refine ⟨ha,hk,?_⟩
     simp only [if_true,or_bit];simp
 · rw [mks_mark ha]
   by_cases e:i=a∧j=k
   · exact .inr (.inl (List.mem_append_right _ (by simp [e.1,e.2])))
   · rcases h.gone i j hi hj with hx | hm | hg
     · exact .inl hx
     · exact .inr (.inl (List.mem_append_left _ hm))
     · exact .inr (.inr (gone_mark hg e))
theorem info_arrival:(Tryz.prog.info? 160).map (fun i=>(i.zero,i.size,i.bytes))=some (some (.agg #[.int .i64 0,.int .i64 0]),2,16):=by kernel_rfl
theorem arrive_any (ws:List (W×Nat)) (p:Option Addr) (cap b a h:Nat) (H:Nat→Nat) (Fd:Nat→Bool) (va:Value) (A:List (Nat×Nat)) (X:Nat→Nat→Prop) (w0 w:World) (hn:ws.length≤40) (ha:a≤ws.length) (hh:h≤16) (hr:Kn.Reach ws a h) (hA:A.length≤5000)
 (hi:Wi w0 w ws (.slice p ws.length cap) b H Fd va A X) :
 Calls Tryz.prog 80 #[.pointer (some ⟨b,0,none⟩),.int .i64 a,.int .i64 h] w fun e w'=>e=.returned (.tuple #[])∧∃ (H':Nat→Nat) (va':Value) (A':List (Nat×Nat)),Wi w0 w' ws (.slice p ws.length cap) b H' Fd va' A' X ∧
  mks ws H' a h=true∧(∀ i k,mks ws H i k=true→mks ws H' i k=true)∧A'.length+2*unm ws.length (mks ws H')≤A.length+2*unm ws.length (mks ws H) ∧
  w.heap.size≤w'.heap.size∧∀ k,k < w.heap.size→k≠b→va.ownBlock≠some k→w'.heap[k]?=w.heap[k]?:=by
 have c0:=hi.wk.c0
 have HI:Hid _:=hi
 have HR:Hid (Kn.Reach ws a h):=hr
 clear hi hr
 by_cases hae:a=ws.length
 · subst hae
   go_enter Tryz.func80,Tryz.ntmps80
   go_wp2
   go_quiet (fail)
   go_wp2
   refine bodyPost_ret (results_none rfl _ _ _) rfl ?_
   exact ⟨rfl,H,va,A,HI.out.mono ⟨rfl,rfl,rfl,Nat.le_refl _,fun _ _=>rfl⟩,mks_end HR.out,fun _ _ h=>h,Nat.le_refl _,Nat.le_refl _,fun _ _ _ _=>rfl⟩
 · have hal:a < ws.length:=by omega
   have c1:=HI.out.wk.ch a (by omega)
   have cf:=HI.out.wk.free (1+a)
   have te:((a:Int)==(ws.length:Int))=false:=by simp;omega
   have hHa:=HI.out.hH a hal
   have h2:(2:Int) ^ h % 4294967296=2 ^ h:=by have:=shift_pow h hh;rw [IntKind.wrap_u32] at this;exact this
   have tand:bits .and .u32 (H a:Nat) ((2:Int) ^ h % 4294967296)=if (H a).testBit h=true then 2 ^ h else 0:=by rw [h2];exact Kn.u32_and (H a) h hHa hh
   have tor:bits .or .u32 (H a:Nat) ((2:Int) ^ h % 4294967296)=((H a ||| 2 ^ h:Nat):Int):=by rw [h2];exact Kn.u32_or (H a) h hHa hh
   have tor':bits .or .u32 (H a:Nat) (IntKind.u32.wrap ((2:Int) ^ h))=((H a ||| 2 ^ h:Nat):Int):=by rw [shift_pow h hh];exact Kn.u32_or (H a) h hHa hh
   have h40:(a:Int) < 40:=by omega
   have hpos:((2:Int) ^ h)≠0:=Int.pow_ne_zero (by omega)
   cases hbit:(H a).testBit h
   · have tb:(bits .and .u32 (H a:Nat) ((2:Int) ^ h % 4294967296) != 0)=false:=by rw [tand,hbit];simp
     clear tand hpos h2
     go_enter Tryz.func80,Tryz.ntmps80
     go_wp2
     go_quiet (fail)
     go_wp2
     go_region
     have hwk1:Wk ((w.drewN (nq+1)).setCell ⟨b,1+a,none⟩ (.int .u32 ((H a ||| 2 ^ h:Nat):Int))) b (.slice p ws.length cap) (fun i=>if i=a then H a ||| 2 ^ h else H i) Fd va:=(HI.out.wk.same (w':=w.drewN (nq+1)) rfl).setH (by omega) _
     have hbl1:Below w0.heap.size w0 ((w.drewN (nq+1)).setCell ⟨b,1+a,none⟩ (.int .u32 ((H a ||| 2 ^ h:Nat):Int))):=(HI.out.below.drewN' _).setCell (by show w0.heap.size≤b;exact HI.out.lo) _
     have hown1:((w.drewN (nq+1)).setCell ⟨b,1+a,none⟩ (.int .u32 ((H a ||| 2 ^ h:Nat):Int))).ownsRow (b+1) 160 2 va A.length (acells A) :=
      HI.out.own.kept (row:=some b) ⟨rfl,rfl,rfl,by simp [World.setCell],fun k hk hne=>Below.heap_setCell _ _ _ _ (by intro e;exact hne (by rw [e]))⟩ (.inr (fun e=>by have:=(HI.out.own.lt b e).1;omega))
     have hfr1:∀ k,k≠b→((w.drewN (nq+1)).setCell ⟨b,1+a,none⟩ (.int .u32 ((H a ||| 2 ^ h:Nat):Int))).heap[k]?=w.heap[k]?:=fun k hk=>Below.heap_setCell _ _ _ _ hk
     have hsz1:w.heap.size≤((w.drewN (nq+1)).setCell ⟨b,1+a,none⟩ (.int .u32 ((H a ||| 2 ^ h:Nat):Int))).heap.size:=by simp [World.setCell]
     revert hwk1 hbl1 hown1 hfr1 hsz1
     generalize (w.drewN (nq+1)).setCell ⟨b,1+a,none⟩ (.int .u32 ((H a ||| 2 ^ h:Nat):Int))=W1
     intro hwk1 hbl1 hown1 hfr1 hsz1
     have ca:=hwk1.ca
     have fa:=hwk1.free 81
     have hbW:=hwk1.lt
     have hnews:=cells_laid W1 [.int .i64 (a:Nat),.int .i64 (h:Nat)] 160
     have HFR:Hid _:=hfr1
     clear hfr1
     have HWK:Hid _:=hwk1
     clear hwk1 c0 c1 cf tor tor' tb
     obtain ⟨i0,hi0,hz0,hz1,hz2⟩:=info_parts info_arrival
     go_wp2_with first
      | (at_builtin;refine wpList_append_own_at _ rfl _ _ 155 rfl (b+1) 160 i0 (.agg #[.int .i64 0,.int .i64 0]) 2 16 Tryz.underlying155 hi0 hz0 hz1 hz2 rfl (by decide) _ _ _ rfl (hown1.alloc _) ⟨W1.heap.size,0,none⟩ 1 1 [.int .i64 (a:Nat),.int .i64 (h:Nat)] rfl rfl hnews (by simp [Value.oneCell']) (by unfold maxLen;omega) (by omega) (by simp only [World.size_alloc];omega) ?_)
      | fail
     intro v2 W2 hown2 hg2 _ _
     have hne:some b≠va.ownBlock:=fun e=>by have:=(hown1.lt b e.symm).1;omega
     have hwk2:Wk W2 b (.slice p ws.length cap) (fun i=>if i=a then H a ||| 2 ^ h else H i) Fd va:=HWK.out.same (by
      rw [hg2.block b (by simp only [World.size_alloc];omega) hne]
      exact Below.heap_alloc W1 _ b hbW)
     have hbl2:Below w0.heap.size w0 W2:=push_below hbl1 (Nat.le_refl _) (own_mono hown1 (by have:=HI.out.lo;omega)) hg2
     obtain ⟨q,c2,rfl⟩:=own_len hown2
     have ca:=hwk2.ca
     have fa:=hwk2.free 81
     have HWK2:Hid _:=hwk2
     have HF2:Hid (∀ k,k < w.heap.size→k≠b→va.ownBlock≠some k→W2.heap[k]?=w.heap[k]?):=by
      have hx1:∀ k,k < w.heap.size→k≠b→va.ownBlock≠some k→W2.heap[k]?=w.heap[k]?:=fun k hk hkb hkv=>by
       rw [hg2.block k (by simp only [World.size_alloc];omega) (fun e=>hkv e.symm),Below.heap_alloc W1 _ k (by omega)]
       exact HFR.out k hkb
      exact hx1
     have hsz2:w.heap.size≤W2.heap.size:=by have:=hg2.size;simp only [World.size_alloc] at this;omega
     clear hwk2 hg2 hnews
     go_wp2
     go_end0
     refine ⟨rfl,_,_,_,wi_mark HI.out hal hh HR.out (HWK2.out.setA _) (hbl2.setCell (by show w0.heap.size≤b;exact HI.out.lo) _) ?_,?_,?_,?_,by simpa [World.setCell] using hsz2,fun k hk hkb hkv=>(Below.heap_setCell _ _ _ _ hkb).trans (HF2.out k hk hkb hkv)⟩
     · exact hown2.kept (row:=some b) ⟨rfl,rfl,rfl,by simp [World.setCell],fun k hk hne=>Below.heap_setCell _ _ _ _ (by intro e;exact hne (by rw [e]))⟩ (.inr (fun e=>by have:=(hown2.lt b e).1;omega))
     · rw [mks_mark hal];exact Kn.mark_self _ _ _
     · intro i k hm;rw [mks_mark hal];exact mark_of _ _ hm
     · rw [mks_mark hal,List.length_append]
       have hm:mks ws H a h=false:=by rw [mks_in hal];exact hbit
       have:=unm_mark (n:=ws.length) (by omega:a≤ws.length) hh hm
       simp only [List.length_singleton]
       omega
   · have tb:(bits .and .u32 (H a:Nat) ((2:Int) ^ h % 4294967296) != 0)=true:=by rw [tand,hbit];simpa using hpos
     clear tand hpos h2
     go_enter Tryz.func80,Tryz.ntmps80
     go_wp2
     go_quiet (fail)
     go_wp2
     refine bodyPost_ret (results_none rfl _ _ _) rfl ?_
     exact ⟨rfl,H,va,A,HI.out.mono ⟨rfl,rfl,rfl,Nat.le_refl _,fun _ _=>rfl⟩,by rw [mks_in hal];exact hbit,fun _ _ h=>h,Nat.le_refl _,Nat.le_refl _,fun _ _ _ _=>rfl⟩
end Go.Proofs.YtkghmgoefiepeaaGreatDoor.reads
