import Derived.Test.YtkghmgoefiepeaaGreatDoorQ0
import Derived.Test.YtkghmgoefiepeaaGreatDoorQ31
set_option linter.unusedSimpArgs false
set_option linter.unusedVariables false
set_option maxHeartbeats 4000000
set_option maxRecDepth 100000
namespace Go.Proofs.YtkghmgoefiepeaaGreatDoor.reads
open Go.ChangeShapes Go.WideShapes Go.ChangeAt Go.RowKit Kn Go.Proofs.YtkghmgoefiepeaaGreatDoor.img
def Mm.pay:Mm→Value
 | .no=>.agg #[]
 | .one r=>r.val
 | .many q cap rs=>.agg #[.slice (some ⟨q,0,none⟩) rs.length cap]
 | .only=>.agg #[]
def Mm.fRecall:Mm→Nat
 | .no=>184
 | .one _=>191
 | .many _ _ _=>194
 | .only=>187
def Mm.fLearn:Mm→Nat
 | .no=>183
 | .one _=>190
 | .many _ _ _=>193
 | .only=>186
theorem recall_mm (mm:Mm) (d:Nat) (s:ByteArray) (w:World) (hok:mm.Ok w) (h6:mm.rows.length≤6) (hr:∀ r∈mm.rows,RowIn w r) (hd:Cel w d) :
 Calls Tryz.prog mm.fRecall #[mm.pay,.agg #[.pointer (some ⟨d,0,none⟩),.string s]] w fun e w'=>∃ h m k,e=.returned (.tuple #[.agg #[.pointer h,.pointer m],.bool k]) ∧
  (k=true→∃ r∈mm.rows,r.fr=some ⟨d,0,none⟩∧r.sel=s∧h=r.hm∧m=r.mt)∧Below w.heap.size w w':=by
 cases mm with
 | no=>exact (recall_no _ _ w).mono (fun e w' ⟨h1,h2⟩=>⟨none,none,false,h1,fun h=>(by cases h),h2⟩)
 | only=>exact (recall_only _ _ w).mono (fun e w' ⟨h1,h2⟩=>⟨none,none,false,h1,fun h=>(by cases h),h2⟩)
 | one r =>
  obtain ⟨c,hc,hcel⟩:=hr r (by simp [Mm.rows])
  refine (recall_one r c d s w hc hcel hd).mono (fun e w' ⟨h1,h2⟩=>⟨r.hm,r.mt,hits c d r.sel s,h1,fun h=>?_,h2⟩)
  unfold hits at h
  rw [Bool.and_eq_true,decide_eq_true_iff,decide_eq_true_iff] at h
  exact ⟨r,by simp [Mm.rows],by rw [hc,h.1];rfl,h.2,rfl,rfl⟩
 | many q cap rs=>exact recall_many q cap d rs s w h6 hok hr hd
theorem learn_mm (mm:Mm) (r:Rw4) (np:Nat) (w:World) (hok:mm.Ok w) (hle:mm.rows.length≤np) (h6:np≤6) :
 Calls Tryz.prog mm.fLearn #[mm.pay,r.val,.int .i64 (np:Nat)] w fun e w'=>∃ mm',e=.returned mm'.val∧mm'.Ok w'∧Lrn np mm r mm'∧(∀ q,mm'.arr=some q→mm.arr=some q∨w.heap.size≤q)∧Chg w w' (fun k=>mm.arr=some k):=by
 have honly:∀ mm:Mm,Lrn np mm r .only:=fun mm=>⟨fun _=>rfl,fun x hx=>(by cases hx),fun _=>Nat.zero_le _⟩
 cases mm with
 | no =>
  refine (learn_no r np w).mono (fun e w' ⟨h1,h2⟩=>⟨_,h1,?_,?_,?_,Chg.of_below h2 _⟩)
  · split <;> trivial
  · split
    · exact honly _
    · exact ⟨fun e=>(by cases e),fun x hx=>.inr (by simpa [Mm.rows] using hx),fun _=>by simp [Mm.rows];omega⟩
  · intro q hq
    split at hq <;> cases hq
 | only=>exact (learn_only r np w).mono (fun e w' ⟨h1,h2⟩=>⟨.only,h1,trivial,honly _,fun q hq=>(by cases hq),Chg.of_below h2 _⟩)
 | one o =>
  by_cases h1:np=1
  · subst h1
    exact (learn_one_only o r w).mono (fun e w' ⟨h1,h2⟩=>⟨.only,h1,trivial,honly _,fun q hq=>(by cases hq),Chg.of_below h2 _⟩)
  · refine (learn_one_many o r np w (by omega)).mono (fun e w' ⟨q,h2,h3,h4,h5⟩=>⟨_,h2,h5,⟨fun e=>(by cases e),fun x hx=>?_,fun h=>?_⟩,fun q' hq=>?_,Chg.of_below h3 _⟩)
    · simp [Mm.rows] at hx ⊢
      exact hx
    · simp [Mm.rows] at h ⊢
      omega
    · injection hq with hq
      subst hq
      exact .inr h4
 | many q cap rs =>
  by_cases h1:np=rs.length
  · subst h1
    exact (learn_many_only q cap rs r w).mono (fun e w' ⟨h1,h2⟩=>⟨.only,h1,trivial,honly _,fun q hq=>(by cases hq),Chg.of_below h2 _⟩)
  · have hle:rs.length≤np:=hle
    refine (learn_many q cap rs r np w (by omega) (by omega) hok).mono (fun e w' ⟨q',cap',h2,h3,h4,h5⟩=>⟨_,h2,h3,⟨fun e=>(by cases e),fun x hx=>?_,fun h=>?_⟩,fun q'' hq=>?_,h5.mono (fun k _ e=>?_)⟩)
    · simp [Mm.rows] at hx ⊢
      exact hx
    · simp [Mm.rows] at h ⊢
      omega
    · injection hq with hq
      subst hq
      rcases h4 with e | e
      · exact .inl (by rw [e];rfl)
      · exact .inr e
    · rw [e];rfl
theorem wrap64_succ (n:Nat):Go.RowKit.wrap64 (Go.RowKit.wrap64 (n:Int)+1)=Go.RowKit.wrap64 ((n+1:Nat):Int):=by
 have h:=Int.emod_add_emod ((n:Int)+9223372036854775808) 18446744073709551616 1
 unfold Go.RowKit.wrap64
 rw [show ((n:Int)+9223372036854775808) % 18446744073709551616 - 9223372036854775808+1+9223372036854775808=((n:Int)+9223372036854775808) % 18446744073709551616+1 from by omega,h,show (n:Int)+9223372036854775808+1=((n+1:Nat):Int)+9223372036854775808 from by omega]
variable {w : World}
variable {m : Im}
variable {K : Kd}
theorem KIm.ansRow (h:KIm w m K) {c:Nat} (hc:c < m.kl.length) {r:Rw4} (ha:Ans m K.cb K.mid r) (h1:r.fr=some ⟨K.cb c,0,none⟩):Value.agg #[.pointer r.hm,.pointer r.mt]=fval K (K.says m r.sel (some c)):=by
 obtain ⟨d,hd,e1,e2,e3⟩:=ha
 rw [h1] at e1
 injection e1 with e1
 injection e1 with e1 _ _
 have:=h.cls.inj c d hc hd e1
 subst this
 unfold fval Kd.says
 rw [e2,e3]
theorem KIm.rowIn (h:KIm w m K) {r:Rw4} (hr:SrI m K r):RowIn w r:=by
 rcases hr with ⟨c,hc,e,_⟩ | e
 · exact ⟨some (K.cb c),e,fun b hb=>by injection hb with hb;subst hb;exact h.cls.cel hc⟩
 · subst e;exact ⟨none,rfl,fun b hb=>by cases hb⟩
theorem byTable_put {w w2 w5:World} (h:KIm w m K) (hB:Below w.heap.size w w2) (hl2:w.heap.size+2≤w2.heap.size) (h5:Step w2 w5 m K m { K with climbs:=K.climbs+1 }) {c:Nat} (hc:c < m.kl.length) {i:Nat} (hi:i < K.k.n) (s:ByteArray) (h0 h1:Option Addr)
 (e0:h0=cptr ((K.says m s (some c)).map (fun x=>K.cb x.1))) (e1:h1=cptr ((K.says m s (some c)).map (·.2))) (v0 v1:Value) :
 ∃ K',Step w ((((((w5.setCell ⟨K.b,6+i*4,none⟩ (.pointer (some ⟨K.cb c,0,none⟩))).setCell ⟨K.b,6+i*4+1,none⟩ (.string s)).setCell ⟨K.b,6+i*4+2,none⟩ (.pointer h0)).setCell ⟨K.b,6+i*4+3,none⟩ (.pointer h1)).setCell ⟨w.heap.size+1,0,none⟩ v0).setCell ⟨w.heap.size+1,1,none⟩ v1) m K m K'∧K'.cb=K.cb∧K'.mid=K.mid∧K'.k.L=K.k.L∧K'.k.pm=K.k.pm:=by
 have hrow:=h5.kim.rowed (i:=i) hi (r:=⟨some ⟨K.cb c,0,none⟩,s,h0,h1⟩) ⟨c,hc,rfl,e0,e1⟩
 have hst6:=h5.trans hrow
 have hgl:∀ k,Gl k→k < w.heap.size:=fun k hk=>h.glo.lt hk
 have hS:∀ k,k=w.heap.size+1→w.heap.size≤k∧¬ Foot m (Kd.row { K with climbs:=K.climbs+1 } i ⟨some ⟨K.cb c,0,none⟩,s,h0,h1⟩) k:=fun k e=>⟨by omega,fun e'=>by
  rcases hst6.foot k e' with e1 | e1
  · have:=h.lt e1;omega
  · omega⟩
 have hfin:=((Step.below h hB).trans hst6).aside (S:=fun k=>k=w.heap.size+1) (((Chg.refl _ (fun k=>k=w.heap.size+1)).setCell ⟨w.heap.size+1,0,none⟩ v0 (fun _=>rfl)).setCell ⟨w.heap.size+1,1,none⟩ v1 (fun _=>rfl)) hS hgl
 exact ⟨_,hfin,rfl,rfl,rfl,rfl⟩
theorem byTable_any (h:KIm w m K) (hl:K.climbs < m.looks) {c:Nat} (hc:c < m.kl.length) (s:ByteArray) (hs:s.size≤1000) :
 Calls Tryz.prog 150 #[.pointer (some ⟨K.b,0,none⟩),.agg #[.pointer (some ⟨K.cb c,0,none⟩),.string s]] w fun e w'=>e=.returned (fval K (K.says m s (some c)))∧∃ K',Step w w' m K m K'∧K'.cb=K.cb∧K'.mid=K.mid∧K'.k.L=K.k.L∧K'.k.pm=K.k.pm:=by
 obtain ⟨W1,hW1⟩:∃ W1,W1=(w.alloc (.cells #[.pointer (some ⟨K.cb c,0,none⟩),.string s] 59)).alloc (.cells #[.pointer none,.pointer none] 62):=⟨_,rfl⟩
 have hB1:Below w.heap.size w W1:=by rw [hW1];exact below2 _ _ _
 have h1:=h.below hB1
 have hen:=entryFor_any h1.drew hc s hs
 have b0:W1.heap[w.heap.size]?=some (.cells #[.pointer (some ⟨K.cb c,0,none⟩),.string s] 59):=by
  rw [hW1,Below.heap_alloc _ _ _ (by simp)]
  exact (MapKept.heap_alloc w _).1
 have b1:W1.heap[w.heap.size+1]?=some (.cells #[.pointer none,.pointer none] 62):=by
  rw [hW1]
  have:=(MapKept.heap_alloc (w.alloc (.cells #[.pointer (some ⟨K.cb c,0,none⟩),.string s] 59)) (.cells #[.pointer none,.pointer none] 62)).1
  rw [World.size_alloc] at this
  exact this
 have q0:W1.cell? ⟨w.heap.size,0,none⟩=some (.pointer (some ⟨K.cb c,0,none⟩)):=by simp only [World.cell?,b0];rfl
 have q1:W1.cell? ⟨w.heap.size,1,none⟩=some (.string s):=by simp only [World.cell?,b0];rfl
 have hl1:w.heap.size+2≤W1.heap.size:=by rw [hW1];simp
 go_enter Tryz.func150,Tryz.ntmps150
 go_wp2_with fail
 rw [← hW1]
 clear hW1
 refine wp_region_noPanic ?_
 refine wp_region_held_drew (S:=(fun w'=>w'.cell? ⟨w.heap.size,0,none⟩=some (.pointer (some ⟨K.cb c,0,none⟩))∧w'.cell? ⟨w.heap.size,1,none⟩=some (.string s))) (by kernel_rfl) (by go_keep) (fun hHeld=>?_)
 refine tkH 0 ?_
 refine tkH 1 ?_
 refine tkH 2 ?_
 refine tkL 3 ?_
 refine rdH 4 fun Kmac hKmac=>?_
 go_simp
 refine hen.mono ?_;rintro e w2 ⟨⟨i,hi,rfl⟩,hb2⟩;have q02:w2.cell? ⟨w.heap.size,0,none⟩=some (.pointer (some ⟨K.cb c,0,none⟩)):=((undrew hb2).cell (p:=⟨w.heap.size,0,none⟩) (by show w.heap.size < W1.heap.size;omega)).trans q0;have q12:w2.cell? ⟨w.heap.size,1,none⟩=some (.string s):=((undrew hb2).cell (p:=⟨w.heap.size,1,none⟩) (by show w.heap.size < W1.heap.size;omega)).trans q1
 try go_wp2_with fail
 refine hKmac.go fun hHeld=>?_
 clear hKmac Kmac
 try refine lyH ?_
 refine tkL 5 ?_
 refine wpAnyH_done (by kernel_rfl) ?_ _
 refine NoPanic.normal ?_
 have hb2':Below W1.heap.size W1 w2:=undrew hb2
 have h2:=h1.below hb2'
 have hB2:Below w.heap.size w w2:=hB1.then hb2'
 have n64:=h2.cor.tab.n64
 have t0:=h2.cor.tab.c0 i (by omega)
 have t1:=h2.cor.tab.c1 i (by omega)
 have t2:=h2.cor.tab.c2 i (by omega)
 have t3:=h2.cor.tab.c3 i (by omega)
 obtain ⟨r,hr⟩:∃ r,r=K.k.R i:=⟨_,rfl⟩
 rw [← hr] at t0 t1 t2 t3
 have hSr:=h2.cor.rows i hi
 rw [← hr] at hSr
 obtain ⟨cr,hcr,hcel⟩:=h2.rowIn hSr
 rw [hcr] at t0
 have hl2:w.heap.size+2≤w2.heap.size:=Nat.le_trans hl1 hb2'.size
 have hbl:=h2.cor.tab.cel.lt
 have c1:w2.heap[w.heap.size+1]?=some (.cells #[.pointer none,.pointer none] 62):=(hb2'.block _ (by omega)).trans b1
 have f0:w2.cell? ⟨w.heap.size+1,0,none⟩=some (.pointer none):=by simp only [World.cell?,c1];rfl
 have f1:w2.cell? ⟨w.heap.size+1,1,none⟩=some (.pointer none):=by simp only [World.cell?,c1];rfl
 have fz1:∀ o,w2.frozen? ⟨w.heap.size+1,o,none⟩=false:=fun o=>Cel.free ⟨_,_,c1⟩ o
 have HB2:Hid _:=hB2
 have H2:Hid _:=h2
 have HS:Hid (SrI m K r∧r=K.k.R i∧r.fr=cptr cr):=⟨hSr,hr,hcr⟩
 have hecs:=eq_cases w2.drew cr (K.cb c) r.sel s hcel (h2.cls.cel hc)
 have hbne:w.heap.size+1≠K.b:=fun e=>by have:=h.cor.tab.cel.lt;omega
 clear hb2 hb2' h2 hB2 hSr hcel b0 b1 q0 q1 hl1 hen h1 hB1 hr
 have hit:hits cr (K.cb c) r.sel s=true→r.fr=some ⟨K.cb c,0,none⟩∧r.sel=s:=fun e=>by
  unfold hits at e
  rw [Bool.and_eq_true,decide_eq_true_iff,decide_eq_true_iff] at e
  exact ⟨by rw [hcr,e.1];rfl,e.2⟩
 have HIT:Hid _:=hit
 clear hit hcr
 have c3:=H2.out.hd.c3
 have hbn0:K.b≠w.heap.size:=fun e=>by have:=h.cor.tab.cel.lt;omega
 have fzb:∀ o,w2.frozen? ⟨K.b,o,none⟩=false:=fun o=>H2.out.cor.tab.cel.free o
 rcases hecs with ⟨heq,hno⟩ | ⟨heq,hst,hno⟩ | ⟨heq,hst,hyes⟩
 · clear f0 f1
   go_wp2_with fail
   refine wp_region_noPanic ?_
   refine wp_region_held_drew (S:=(fun w'=>w'.cell? ⟨w.heap.size,0,none⟩=some (.pointer (some ⟨K.cb c,0,none⟩))∧w'.cell? ⟨w.heap.size,1,none⟩=some (.string s)∧w'.cell? ⟨K.b,6+i*4,none⟩=some (.pointer (cptr cr))∧w'.cell? ⟨K.b,6+i*4+1,none⟩=some (.string r.sel))) (by kernel_rfl) (by go_keep) (fun hHeld=>?_)
   refine tkH 0 ?_
   refine tkH 1 ?_
   refine tkH 2 ?_
   refine tkH 3 ?_
   refine tkL 4 ?_
   refine rdH 5 fun Kmac hKmac=>?_
   go_simp
   refine hKmac.go fun hHeld=>?_
   clear hKmac Kmac
   try refine lyH ?_
   refine wpAnyH_done (by kernel_rfl) ?_ _
   refine NoPanic.normal ?_
   go_wp2_with fail
   rw [wrap64_succ]
   clear heq c3
   obtain ⟨W3,hW3⟩:∃ W3,W3=w2.setCell ⟨K.b,3,none⟩ (.int .i64 (Go.RowKit.wrap64 ((K.climbs+1:Nat):Int))):=⟨_,rfl⟩
   rw [← hW3]
   have hst3:Step w2 W3 m K m { K with climbs:=K.climbs+1 }:=by rw [hW3];exact H2.out.climbed hl
   have hq3:∀ o,W3.cell? ⟨w.heap.size,o,none⟩=w2.cell? ⟨w.heap.size,o,none⟩:=fun o=>by rw [hW3];exact cs_other (by intro e;injection e with e1 e2;omega)
   have q03:=(hq3 0).trans q02
   have q13:=(hq3 1).trans q12
   have hl3:W3.heap.size=w2.heap.size:=by rw [hW3];simp [World.setCell]
   have hfi:=cfind_any hst3.kim.drew.drew (some c) (fun x hx=>by injection hx with hx;subst hx;exact hc) s
   simp only [Option.map_some,cptr] at hfi
   clear hW3 q02 q12 t0 t1 t2 t3
   refine wp_region_noPanic ?_
   refine wp_region_held_drew (S:=(fun w'=>w'.cell? ⟨w.heap.size,0,none⟩=some (.pointer (some ⟨K.cb c,0,none⟩))∧w'.cell? ⟨w.heap.size,1,none⟩=some (.string s))) (by kernel_rfl) (by go_keep) (fun hHeld=>?_)
   refine tkH 0 ?_
   refine tkH 1 ?_
   refine tkH 2 ?_
   refine tkH 3 ?_
   refine tkH 4 ?_
   refine tkL 5 ?_
   refine rdH 6 fun Kmac hKmac=>?_
   go_simp
   refine hfi.mono ?_;rintro e w4 ⟨rfl,hb4⟩;have hb4':Below W3.heap.size W3 w4:=undrew (undrew hb4);have q04:w4.cell? ⟨w.heap.size,0,none⟩=some (.pointer (some ⟨K.cb c,0,none⟩)):=(hb4'.cell (p:=⟨w.heap.size,0,none⟩) (by show w.heap.size < W3.heap.size;omega)).trans q03;have q14:w4.cell? ⟨w.heap.size,1,none⟩=some (.string s):=(hb4'.cell (p:=⟨w.heap.size,1,none⟩) (by show w.heap.size < W3.heap.size;omega)).trans q13
   try go_wp2_with fail
   refine hKmac.go fun hHeld=>?_
   clear hKmac Kmac
   try refine lyH ?_
   have hbb:=hst3.kim.below hb4'
   have hst4:Step w2 w4 m K m { K with climbs:=K.climbs+1 }:=hst3.trans (Step.below hst3.kim hb4')
   have hl4:W3.heap.size≤w4.heap.size:=hb4'.size
   have hke:=kept_any (some ⟨K.cb c,0,none⟩) (cptr ((K.says m s (some c)).map (fun x=>K.cb x.1))) (cptr ((K.says m s (some c)).map (·.2))) s hs w4
   unfold Rw4.val at hke
   clear hb4 hfi
   refine rdH 7 fun Kmac hKmac=>?_
   go_simp
   refine hke.mono ?_;rintro e w5 ⟨rfl,hb5⟩;have q05:w5.cell? ⟨w.heap.size,0,none⟩=some (.pointer (some ⟨K.cb c,0,none⟩)):=(hb5.cell (p:=⟨w.heap.size,0,none⟩) (by show w.heap.size < w4.heap.size;omega)).trans q04;have q15:w5.cell? ⟨w.heap.size,1,none⟩=some (.string s):=(hb5.cell (p:=⟨w.heap.size,1,none⟩) (by show w.heap.size < w4.heap.size;omega)).trans q14
   try go_wp2_with fail
   refine hKmac.go fun hHeld=>?_
   clear hKmac Kmac
   try refine lyH ?_
   have hst5:Step w2 w5 m K m { K with climbs:=K.climbs+1 }:=hst4.trans (Step.below hst4.kim hb5)
   have hl5:w4.heap.size≤w5.heap.size:=hb5.size
   have t0:=hst5.kim.cor.tab.c0 i (by omega)
   have t1:=hst5.kim.cor.tab.c1 i (by omega)
   have t2:=hst5.kim.cor.tab.c2 i (by omega)
   have t3:=hst5.kim.cor.tab.c3 i (by omega)
   have fzb5:∀ o,w5.frozen? ⟨K.b,o,none⟩=false:=fun o=>hst5.kim.cor.tab.cel.free o
   have hbl5:K.b < w5.heap.size:=hst5.kim.cor.tab.cel.lt
   have c15:w5.heap[w.heap.size+1]?=some (.cells #[.pointer none,.pointer none] 62):=(hst5.chg.block _ (by omega) (fun e=>by have:=h.lt e;omega)).trans c1
   have f0:w5.cell? ⟨w.heap.size+1,0,none⟩=some (.pointer none):=by simp only [World.cell?,c15];rfl
   have f1:w5.cell? ⟨w.heap.size+1,1,none⟩=some (.pointer none):=by simp only [World.cell?,c15];rfl
   have fz5:∀ o,w5.frozen? ⟨w.heap.size+1,o,none⟩=false:=fun o=>Cel.free ⟨_,_,c15⟩ o
   have H5:Hid _:=hst5
   clear hke hst5 hst4 hst3 hbb q03 q13 q04 q14 hb4' hb5
   refine tkL 8 ?_
   refine rdH 9 fun Kmac hKmac=>?_
   go_simp
   refine hKmac.go fun hHeld=>?_
   clear hKmac Kmac
   try refine lyH ?_
   refine wpAnyH_done (by kernel_rfl) ?_ _
   refine NoPanic.normal ?_
   go_wp2
   have hput:=byTable_put h HB2.out hl2 H5.out hc hi s _ _ rfl rfl (.pointer (cptr ((K.says m s (some c)).map (fun x=>K.cb x.1)))) (.pointer (cptr ((K.says m s (some c)).map (·.2))))
   obtain ⟨W6,hW6⟩:∃ W6,W6=((((w5.setCell ⟨K.b,6+i*4,none⟩ (.pointer (some ⟨K.cb c,0,none⟩))).setCell ⟨K.b,6+i*4+1,none⟩ (.string s)).setCell ⟨K.b,6+i*4+2,none⟩ (.pointer (cptr ((K.says m s (some c)).map (fun x=>K.cb x.1))))).setCell ⟨K.b,6+i*4+3,none⟩ (.pointer (cptr ((K.says m s (some c)).map (·.2))))):=⟨_,rfl⟩
   rw [← hW6] at hput ⊢
   have g0:W6.cell? ⟨w.heap.size+1,0,none⟩=some (.pointer none):=by
    rw [hW6,cs_other (by intro e;injection e with e1 e2;omega),cs_other (by intro e;injection e with e1 e2;omega),cs_other (by intro e;injection e with e1 e2;omega),cs_other (by intro e;injection e with e1 e2;omega)];exact f0
   have g1:W6.cell? ⟨w.heap.size+1,1,none⟩=some (.pointer none):=by
    rw [hW6,cs_other (by intro e;injection e with e1 e2;omega),cs_other (by intro e;injection e with e1 e2;omega),cs_other (by intro e;injection e with e1 e2;omega),cs_other (by intro e;injection e with e1 e2;omega)];exact f1
   refine bodyPost_ret (results_fnd (z:=w.heap.size+1) Tryz.results150 (.pointer (cptr ((K.says m s (some c)).map (fun x=>K.cb x.1)))) (.pointer (cptr ((K.says m s (some c)).map (·.2)))) rfl ?_ ?_) rfl ⟨rfl,hput⟩
   · exact (cs_other (by intro e;injection e with e1 e2;omega)).trans (cs_same g0)
   · exact cs_same ((cs_other (by intro e;injection e with e1 e2;omega)).trans g1)
 · clear f0 f1
   go_wp2_with fail
   refine wp_region_noPanic ?_
   refine wp_region_held_drew (S:=(fun w'=>w'.cell? ⟨w.heap.size,0,none⟩=some (.pointer (some ⟨K.cb c,0,none⟩))∧w'.cell? ⟨w.heap.size,1,none⟩=some (.string s)∧w'.cell? ⟨K.b,6+i*4,none⟩=some (.pointer (cptr cr))∧w'.cell? ⟨K.b,6+i*4+1,none⟩=some (.string r.sel))) (by kernel_rfl) (by go_keep) (fun hHeld=>?_)
   refine tkH 0 ?_
   refine tkH 1 ?_
   refine tkH 2 ?_
   refine tkH 3 ?_
   refine tkL 4 ?_
   refine rdH 5 fun Kmac hKmac=>?_
   go_simp
   refine hKmac.go fun hHeld=>?_
   clear hKmac Kmac
   try refine lyH ?_
   refine wpAnyH_done (by kernel_rfl) ?_ _
   refine NoPanic.normal ?_
   go_wp2_with fail
   rw [wrap64_succ]
   clear heq c3
   obtain ⟨W3,hW3⟩:∃ W3,W3=w2.setCell ⟨K.b,3,none⟩ (.int .i64 (Go.RowKit.wrap64 ((K.climbs+1:Nat):Int))):=⟨_,rfl⟩
   rw [← hW3]
   have hst3:Step w2 W3 m K m { K with climbs:=K.climbs+1 }:=by rw [hW3];exact H2.out.climbed hl
   have hq3:∀ o,W3.cell? ⟨w.heap.size,o,none⟩=w2.cell? ⟨w.heap.size,o,none⟩:=fun o=>by rw [hW3];exact cs_other (by intro e;injection e with e1 e2;omega)
   have q03:=(hq3 0).trans q02
   have q13:=(hq3 1).trans q12
   have hl3:W3.heap.size=w2.heap.size:=by rw [hW3];simp [World.setCell]
   have hfi:=cfind_any hst3.kim.drew.drew (some c) (fun x hx=>by injection hx with hx;subst hx;exact hc) s
   simp only [Option.map_some,cptr] at hfi
   clear hW3 q02 q12 t0 t1 t2 t3
   refine wp_region_noPanic ?_
   refine wp_region_held_drew (S:=(fun w'=>w'.cell? ⟨w.heap.size,0,none⟩=some (.pointer (some ⟨K.cb c,0,none⟩))∧w'.cell? ⟨w.heap.size,1,none⟩=some (.string s))) (by kernel_rfl) (by go_keep) (fun hHeld=>?_)
   refine tkH 0 ?_
   refine tkH 1 ?_
   refine tkH 2 ?_
   refine tkH 3 ?_
   refine tkH 4 ?_
   refine tkL 5 ?_
   refine rdH 6 fun Kmac hKmac=>?_
   go_simp
   refine hfi.mono ?_;rintro e w4 ⟨rfl,hb4⟩;have hb4':Below W3.heap.size W3 w4:=undrew (undrew hb4);have q04:w4.cell? ⟨w.heap.size,0,none⟩=some (.pointer (some ⟨K.cb c,0,none⟩)):=(hb4'.cell (p:=⟨w.heap.size,0,none⟩) (by show w.heap.size < W3.heap.size;omega)).trans q03;have q14:w4.cell? ⟨w.heap.size,1,none⟩=some (.string s):=(hb4'.cell (p:=⟨w.heap.size,1,none⟩) (by show w.heap.size < W3.heap.size;omega)).trans q13
   try go_wp2_with fail
   refine hKmac.go fun hHeld=>?_
   clear hKmac Kmac
   try refine lyH ?_
   have hbb:=hst3.kim.below hb4'
   have hst4:Step w2 w4 m K m { K with climbs:=K.climbs+1 }:=hst3.trans (Step.below hst3.kim hb4')
   have hl4:W3.heap.size≤w4.heap.size:=hb4'.size
   have hke:=kept_any (some ⟨K.cb c,0,none⟩) (cptr ((K.says m s (some c)).map (fun x=>K.cb x.1))) (cptr ((K.says m s (some c)).map (·.2))) s hs w4
   unfold Rw4.val at hke
   clear hb4 hfi
   refine rdH 7 fun Kmac hKmac=>?_
   go_simp
   refine hke.mono ?_;rintro e w5 ⟨rfl,hb5⟩;have q05:w5.cell? ⟨w.heap.size,0,none⟩=some (.pointer (some ⟨K.cb c,0,none⟩)):=(hb5.cell (p:=⟨w.heap.size,0,none⟩) (by show w.heap.size < w4.heap.size;omega)).trans q04;have q15:w5.cell? ⟨w.heap.size,1,none⟩=some (.string s):=(hb5.cell (p:=⟨w.heap.size,1,none⟩) (by show w.heap.size < w4.heap.size;omega)).trans q14
   try go_wp2_with fail
   refine hKmac.go fun hHeld=>?_
   clear hKmac Kmac
   try refine lyH ?_
   have hst5:Step w2 w5 m K m { K with climbs:=K.climbs+1 }:=hst4.trans (Step.below hst4.kim hb5)
   have hl5:w4.heap.size≤w5.heap.size:=hb5.size
   have t0:=hst5.kim.cor.tab.c0 i (by omega)
   have t1:=hst5.kim.cor.tab.c1 i (by omega)
   have t2:=hst5.kim.cor.tab.c2 i (by omega)
   have t3:=hst5.kim.cor.tab.c3 i (by omega)
   have fzb5:∀ o,w5.frozen? ⟨K.b,o,none⟩=false:=fun o=>hst5.kim.cor.tab.cel.free o
   have hbl5:K.b < w5.heap.size:=hst5.kim.cor.tab.cel.lt
   have c15:w5.heap[w.heap.size+1]?=some (.cells #[.pointer none,.pointer none] 62):=(hst5.chg.block _ (by omega) (fun e=>by have:=h.lt e;omega)).trans c1
   have f0:w5.cell? ⟨w.heap.size+1,0,none⟩=some (.pointer none):=by simp only [World.cell?,c15];rfl
   have f1:w5.cell? ⟨w.heap.size+1,1,none⟩=some (.pointer none):=by simp only [World.cell?,c15];rfl
   have fz5:∀ o,w5.frozen? ⟨w.heap.size+1,o,none⟩=false:=fun o=>Cel.free ⟨_,_,c15⟩ o
   have H5:Hid _:=hst5
   clear hke hst5 hst4 hst3 hbb q03 q13 q04 q14 hb4' hb5
   refine tkL 8 ?_
   refine rdH 9 fun Kmac hKmac=>?_
   go_simp
   refine hKmac.go fun hHeld=>?_
   clear hKmac Kmac
   try refine lyH ?_
   refine wpAnyH_done (by kernel_rfl) ?_ _
   refine NoPanic.normal ?_
   go_wp2
   have hput:=byTable_put h HB2.out hl2 H5.out hc hi s _ _ rfl rfl (.pointer (cptr ((K.says m s (some c)).map (fun x=>K.cb x.1)))) (.pointer (cptr ((K.says m s (some c)).map (·.2))))
   obtain ⟨W6,hW6⟩:∃ W6,W6=((((w5.setCell ⟨K.b,6+i*4,none⟩ (.pointer (some ⟨K.cb c,0,none⟩))).setCell ⟨K.b,6+i*4+1,none⟩ (.string s)).setCell ⟨K.b,6+i*4+2,none⟩ (.pointer (cptr ((K.says m s (some c)).map (fun x=>K.cb x.1))))).setCell ⟨K.b,6+i*4+3,none⟩ (.pointer (cptr ((K.says m s (some c)).map (·.2))))):=⟨_,rfl⟩
   rw [← hW6] at hput ⊢
   have g0:W6.cell? ⟨w.heap.size+1,0,none⟩=some (.pointer none):=by
    rw [hW6,cs_other (by intro e;injection e with e1 e2;omega),cs_other (by intro e;injection e with e1 e2;omega),cs_other (by intro e;injection e with e1 e2;omega),cs_other (by intro e;injection e with e1 e2;omega)];exact f0
   have g1:W6.cell? ⟨w.heap.size+1,1,none⟩=some (.pointer none):=by
    rw [hW6,cs_other (by intro e;injection e with e1 e2;omega),cs_other (by intro e;injection e with e1 e2;omega),cs_other (by intro e;injection e with e1 e2;omega),cs_other (by intro e;injection e with e1 e2;omega)];exact f1
   refine bodyPost_ret (results_fnd (z:=w.heap.size+1) Tryz.results150 (.pointer (cptr ((K.says m s (some c)).map (fun x=>K.cb x.1)))) (.pointer (cptr ((K.says m s (some c)).map (·.2)))) rfl ?_ ?_) rfl ⟨rfl,hput⟩
   · exact (cs_other (by intro e;injection e with e1 e2;omega)).trans (cs_same g0)
   · exact cs_same ((cs_other (by intro e;injection e with e1 e2;omega)).trans g1)
 · go_wp2_with fail
   refine wp_region_noPanic ?_
   refine wp_region_held_drew (S:=(fun w'=>w'.cell? ⟨w.heap.size,0,none⟩=some (.pointer (some ⟨K.cb c,0,none⟩))∧w'.cell? ⟨w.heap.size,1,none⟩=some (.string s)∧w'.cell? ⟨K.b,6+i*4,none⟩=some (.pointer (cptr cr))∧w'.cell? ⟨K.b,6+i*4+1,none⟩=some (.string r.sel))) (by kernel_rfl) (by go_keep) (fun hHeld=>?_)
   refine tkH 0 ?_
   refine tkH 1 ?_
   refine tkH 2 ?_
   refine tkH 3 ?_
   refine tkL 4 ?_
   refine rdH 5 fun Kmac hKmac=>?_
   go_simp
   refine hKmac.go fun hHeld=>?_
   clear hKmac Kmac
   try refine lyH ?_
   refine wpAnyH_done (by kernel_rfl) ?_ _
   refine NoPanic.normal ?_
   go_wp2
   refine bodyPost_ret (results_fnd (z:=w.heap.size+1) Tryz.results150 (.pointer r.hm) (.pointer r.mt) rfl ?_ ?_) rfl ?_
   · show ((w2.setCell ⟨w.heap.size+1,0,none⟩ (.pointer r.hm)).setCell ⟨w.heap.size+1,1,none⟩ (.pointer r.mt)).cell? ⟨w.heap.size+1,0,none⟩=_
     rw [cs_other (by intro e;injection e with e1 e2;omega)]
     exact cs_same f0
   · show ((w2.setCell ⟨w.heap.size+1,0,none⟩ (.pointer r.hm)).setCell ⟨w.heap.size+1,1,none⟩ (.pointer r.mt)).cell? ⟨w.heap.size+1,1,none⟩=_
     exact cs_same ((cs_other (by intro e;injection e with e1 e2;omega)).trans f1)
   · obtain ⟨e1,e2⟩:=HIT.out hyes
     refine ⟨congrArg Ending.returned ?_,K,Step.below h (((HB2.out.setCell (by show w.heap.size≤w.heap.size+1;omega) _).setCell (by show w.heap.size≤w.heap.size+1;omega) _).drew),rfl,rfl,rfl,rfl⟩
     rcases HS.out.1 with ha | ha
     · rw [← e2];exact h.ansRow hc ha e1
     · rw [ha] at e1;cases e1
end Go.Proofs.YtkghmgoefiepeaaGreatDoor.reads
