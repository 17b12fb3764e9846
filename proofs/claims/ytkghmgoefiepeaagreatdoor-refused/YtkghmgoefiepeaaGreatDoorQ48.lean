import Derived.Test.YtkghmgoefiepeaaGreatDoorQ0
import Derived.Test.YtkghmgoefiepeaaGreatDoorQ31
import Derived.Test.YtkghmgoefiepeaaGreatDoorQ32
import Derived.Test.YtkghmgoefiepeaaGreatDoorQ47
set_option linter.unusedSimpArgs false
set_option linter.unusedVariables false
set_option maxHeartbeats 4000000
set_option maxRecDepth 100000
namespace Go.Proofs.YtkghmgoefiepeaaGreatDoor.reads
open Go.ChangeShapes Go.WideShapes Go.ChangeAt Go.RowKit Kn Go.Proofs.YtkghmgoefiepeaaGreatDoor.img
theorem run_get (b fuel k:Nat) (h1:1≤k) (h2:k < 23):(runCs b fuel)[1+k]?=some (.func (.func (doF k)) #[] #[]):=by
 obtain rfl | rfl | rfl | rfl | rfl | rfl | rfl | rfl | rfl | rfl | rfl | rfl | rfl | rfl | rfl | rfl | rfl | rfl | rfl | rfl | rfl | rfl:k=1∨k=2∨k=3∨k=4∨k=5∨k=6∨k=7∨k=8∨k=9∨k=10∨k=11∨k=12∨k=13∨k=14∨k=15∨k=16∨k=17∨k=18∨k=19∨k=20∨k=21∨k=22:=by omega
 all_goals rfl
theorem runAt_new (W:World) (b fuel:Nat):RunAt (W.alloc (.cells (runCs b fuel) 174)) b W.heap.size none 0 fuel:=by
 have hb:=(MapKept.heap_alloc W (.cells (runCs b fuel) 174)).1
 have hc:∀ o,(W.alloc (.cells (runCs b fuel) 174)).cell? ⟨W.heap.size,o,none⟩=(runCs b fuel)[o]?:=fun o=>by simp only [World.cell?,hb];rfl
 exact ⟨⟨_,hb,rfl⟩,(hc 0).trans rfl,fun k h1 h2=>(hc _).trans (run_get b fuel k h1 h2),(hc 24).trans rfl,(hc 25).trans rfl,(hc 26).trans rfl⟩
def begW (W:World) (b fuel:Nat):World:=(W.alloc (.cells doAll 170)).alloc (.cells (runCs b fuel) 174)
theorem begW_below (W:World) (b fuel:Nat):Below W.heap.size W (begW W b fuel):=below2 _ _ _
variable {m : Im}
variable {K : Kd}
theorem sg_begin {W:World} (h:KIm W m K) (fuel:Nat):Sg NoD W m K (W.heap.size+1) (begW W K.b fuel) m K fuel [] []:=by
 have hz:(W.alloc (.cells doAll 170)).heap.size=W.heap.size+1:=by simp
 have hr:=runAt_new (W.alloc (.cells doAll 170)) K.b fuel
 rw [hz] at hr
 refine ⟨Step.below h (begW_below _ _ _),hr,trivial,rfl,by simp,fun k hk=>?_,h.ok,fun f hf=>(List.not_mem_nil hf).elim,fun k hk=>hk.elim⟩
 simp only [List.map_nil,List.mem_singleton] at hk
 subst hk
 exact ⟨by omega,by simp [begW],fun e=>by have:=h.lt e;omega⟩
variable {w w0 : World}
variable {m0 : Im}
variable {K0 : Kd}
variable {Dd : Nat → Prop}
variable {bs : List (Nat × Nat)}
variable {fs : List Fr}
theorem nowhere_sg {rb:Nat}{fuel:Nat} (h:Sg Dd w0 m0 K0 rb w m K fuel bs fs) (s:ByteArray) :
 Calls Tryz.prog 90 #[] w fun e w'=>∃ p,e=.returned (.pointer (some ⟨p,0,none⟩))∧Sg Dd w0 m0 K0 rb w' m (K.nowhere p s) fuel bs fs∧(p,s)∈(K.nowhere p s).k.L∧Below w.heap.size w w' :=
 (nowhere_any w).mono (by rintro e w' ⟨rfl,rfl⟩;exact ⟨_,rfl,h.img (h.stp.kim.nowhere s),List.mem_cons_self ..,(Below.refl _ _).alloc (Nat.le_refl _) _⟩)
def outG:Go1→Vl×Int×Im
 | .told m v=>(v,0,m)
 | .stop m e=>(Vl.zero,e,m)
 | .on m _ _=>(Vl.zero,0,m)
def OPost (w:World) (m:Im) (K:Kd) (R:Go1) (e:Ending) (w':World):Prop:=∃ K',e=.returned (.tuple #[(outG R).1.val,.int .i64 (outG R).2.1])∧Step w w' m K (outG R).2.2 K'
structure PQ (s1 s2:Nat) (ds:List Deferred) (a:Act):Prop where
 t10:a.tmps.getD 10 undef=.pointer (some ⟨s1,0,none⟩)
 t11:a.tmps.getD 11 undef=.pointer (some ⟨s2,0,none⟩)
 df:a.defers=ds
def pq (Q:Exit→Act→World→Prop) (s1 s2:Nat) (ds:List Deferred) (Y:List PanicEntry→World→Prop):Exit→Act→World→Prop
 | .panic c,a,w=>PQ s1 s2 ds a∧Y c w
 | e,a,w=>Q e a w
theorem pq_put {Q:Exit→Act→World→Prop}{s1 s2:Nat}{ds:List Deferred}{Y:List PanicEntry→World→Prop}{c:List PanicEntry}{a:Act}{d:Option Tmp}{v:Value} (hd:d≠some 10∧d≠some 11) (h:pq Q s1 s2 ds Y (.panic c) (a.put d v) w):pq Q s1 s2 ds Y (.panic c) a w:=by
 obtain ⟨⟨h1,h2,h3⟩,hy⟩:=h
 cases d with
 | none=>exact ⟨⟨h1,h2,h3⟩,hy⟩
 | some t =>
  have e1:t≠10:=fun e=>hd.1 (by rw [e])
  have e2:t≠11:=fun e=>hd.2 (by rw [e])
  refine ⟨⟨?_,?_,h3⟩,hy⟩
  · rw [← h1];simp [Act.put,Array.getElem?_setIfInBounds,e1]
  · rw [← h2];simp [Act.put,Array.getElem?_setIfInBounds,e2]
theorem pq_normal {Q:Exit→Act→World→Prop}{s1 s2:Nat}{ds:List Deferred}{Y:List PanicEntry→World→Prop}{a:Act} (h:Q .normal a w):pq Q s1 s2 ds Y .normal a w:=h
theorem wp_pq {P:Program}{c:Code}{Q:Exit→Act→World→Prop}{a:Act} (s1 s2:Nat) (ds:List Deferred) (Y:List PanicEntry→World→Prop) (hq:∀ a c w,PQ s1 s2 ds a→Y c w→Q (.panic c) a w) (h:c.wp P (pq Q s1 s2 ds Y) a w):c.wp P Q a w :=
 Code.wp_mono (fun e a w he=>by cases e <;> first | exact he | exact hq _ _ _ he.1 he.2) h
theorem res_out {tmps:Array Value}{s1 s2:Nat} (v0 v1 v:Value) (h10:tmps.getD 10 undef=.pointer (some ⟨s1,0,none⟩)) (h11:tmps.getD 11 undef=.pointer (some ⟨s2,0,none⟩)) (z0:w.cell? ⟨s1,0,none⟩=some v0) (z1:w.cell? ⟨s1,1,none⟩=some v1) (z2:w.cell? ⟨s2,0,none⟩=some v) :
 (results Tryz.f48 tmps).run Tryz.prog w=.ok (.tuple #[.agg #[v0,v1],v]) w:=by
 have hp2:tmps[10]?.getD undef=.pointer (some ⟨s1,0,none⟩):=by rw [← h10];simp
 have hk2:tmps[11]?.getD undef=.pointer (some ⟨s2,0,none⟩):=by rw [← h11];simp
 simp [results,Tryz.results48,hp2,hk2,go_sem,z0,z1,z2]
def YOut (W3:World) (m:Im) (K:Kd) (R:Go1) (c:List PanicEntry) (w':World):Prop:=∃ n m' K',c=gaveUp n∧R=.stop m' n∧Step W3 w' m K m' K'
def dfs (s2:Nat):List Deferred:=[{ target:=Target.fn (Fn.func 87) #[.pointer (some ⟨s2,0,none⟩)],args:=#[] }]
variable {m' : Im}
variable {K' : Kd}
theorem leaves_stop {w W3 w':World}{tmps:Array Value}{s1 s2:Nat}{n:Int} (hk:KIm w m K) (h3:Step w W3 m K m K) (hl1:w.heap.size≤s1∧s1 < W3.heap.size) (hl2:w.heap.size≤s2∧s2 < W3.heap.size) (hne:s1≠s2) (b1:W3.heap[s1]?=some (.cells #[.bool false,.int .i64 0] 33)) (b2:W3.heap[s2]?=some (.cells #[.int .i64 0] 3))
 (h10:tmps.getD 10 undef=.pointer (some ⟨s1,0,none⟩)) (h11:tmps.getD 11 undef=.pointer (some ⟨s2,0,none⟩)) (hst:Step W3 w' m K m' K') :
 Leaves Tryz.prog Tryz.f48 tmps (OPost w m K (.stop m' n)) (dfs s2) (.panicking (gaveUp n)) w':=by
 have nf1:¬ Foot m K s1:=fun e=>by have:=hk.lt e;omega
 have nf2:¬ Foot m K s2:=fun e=>by have:=hk.lt e;omega
 have c1:=(hst.chg.block s1 hl1.2 nf1).trans b1
 have c2:=(hst.chg.block s2 hl2.2 nf2).trans b2
 have z2:w'.cell? ⟨s2,0,none⟩=some (.int .i64 0):=by simp only [World.cell?,c2];rfl
 have z0:w'.cell? ⟨s1,0,none⟩=some (.bool false):=by simp only [World.cell?,c1];rfl
 have z1:w'.cell? ⟨s1,1,none⟩=some (.int .i64 0):=by simp only [World.cell?,c1];rfl
 have e2:(⟨s2,0,none⟩:Addr)≠⟨s1,0,none⟩:=fun e=>by injection e with e _ _;exact hne e.symm
 have e3:(⟨s2,0,none⟩:Addr)≠⟨s1,1,none⟩:=fun e=>by injection e with e _ _;exact hne e.symm
 refine leaves_cons (f:=87) (args:=#[.pointer (some ⟨s2,0,none⟩)]) (by simp) (by simp [go_sem]) ?_
 refine (caught ⟨s2,0,none⟩ 0 n [] w' z2 (Cel.free ⟨_,_,c2⟩ 0)).mono ?_
 rintro e u' w'' ⟨rfl,rfl,rfl⟩
 refine ⟨_,res_out (.bool false) (.int .i64 0) (.int .i64 n) h10 h11 ((cs_other e2).trans z0) ((cs_other e3).trans z1) (cs_same z2),K',rfl,?_⟩
 refine (h3.trans hst).aside (S:=fun k=>k=s2) ((Chg.refl _ _).setCell _ _ (fun _=>rfl)) (fun k e=>⟨by rw [e];exact hl2.1,fun ef=>?_⟩) (fun k hg=>hk.glo.lt hg)
 rw [e] at ef
 rcases hst.foot _ ef with e | e
 · exact nf2 e
 · omega
variable {w' : World}
theorem leaves_told {tmps:Array Value}{s1 s2:Nat}{v:Vl} (h10:tmps.getD 10 undef=.pointer (some ⟨s1,0,none⟩)) (h11:tmps.getD 11 undef=.pointer (some ⟨s2,0,none⟩)) (hst:Step w w' m K m' K') (z0:w'.cell? ⟨s1,0,none⟩=some (.bool v.obj)) (z1:w'.cell? ⟨s1,1,none⟩=some (.int .i64 v.n)) (z2:w'.cell? ⟨s2,0,none⟩=some (.int .i64 0)) :
 Leaves Tryz.prog Tryz.f48 tmps (OPost w m K (.told m' v)) (dfs s2) .returning w':=by
 refine leaves_cons (f:=87) (args:=#[.pointer (some ⟨s2,0,none⟩)]) (by simp) (by simp [go_sem]) ?_
 refine (idle ⟨s2,0,none⟩ w').mono ?_
 rintro e u' w'' ⟨rfl,rfl,rfl⟩
 exact ⟨_,res_out _ _ _ h10 h11 z0 z1 z2,K',rfl,hst⟩
theorem outside_any (h:KIm w m K) (to:Vl) (hto:VlOk m to) (sel:ByteArray) (hs:sel.size≤1000) {av:Value}{args:List Vl}{ab:Nat} (hav:ArgsAt w av args ab) (hab:args≠[]→ab < w.heap.size∧¬ Foot m K ab) (h3:args.length≤3) (hargs:∀ v∈args,VlOk m v) (hsl:selector (bl sel)=true→args.length=argsOf (bl sel)) (fuel:Nat) (hf:fuel≤3000) (R:Go1) (hR:R=runM (2*fuel+64) (m.send fuel (m.of to) to sel args [])) :
 Calls Tryz.prog 48 #[.pointer (some ⟨K.b,0,none⟩),to.val,.string sel,av,.int .i64 (fuel:Nat)] w (OPost w m K R):=by
 obtain ⟨W3,hW3⟩:∃ W3,W3=((w.alloc (.cells #[.bool to.obj,.int .i64 to.n] 33)).alloc (.cells #[.bool false,.int .i64 0] 33)).alloc (.cells #[.int .i64 0] 3):=⟨_,rfl⟩
 have hB3:Below w.heap.size w W3:=by rw [hW3];exact (below2 _ _ _).alloc (by simp;omega) _
 have hz3:W3.heap.size=w.heap.size+3:=by rw [hW3];simp
 have b0:W3.heap[w.heap.size]?=some (.cells #[.bool to.obj,.int .i64 to.n] 33):=by
  rw [hW3,Below.heap_alloc _ _ _ (by simp;omega),Below.heap_alloc _ _ _ (by simp)]
  exact (MapKept.heap_alloc w _).1
 have b1:W3.heap[w.heap.size+1]?=some (.cells #[.bool false,.int .i64 0] 33):=by
  rw [hW3,Below.heap_alloc _ _ _ (by simp)]
  have:=(MapKept.heap_alloc (w.alloc (.cells #[.bool to.obj,.int .i64 to.n] 33)) (.cells #[.bool false,.int .i64 0] 33)).1
  rw [World.size_alloc] at this
  exact this
 have b2:W3.heap[w.heap.size+2]?=some (.cells #[.int .i64 0] 3):=by
  rw [hW3]
  have:=(MapKept.heap_alloc ((w.alloc (.cells #[.bool to.obj,.int .i64 to.n] 33)).alloc (.cells #[.bool false,.int .i64 0] 33)) (.cells #[.int .i64 0] 3)).1
  rw [World.size_alloc,World.size_alloc] at this
  exact this
 have h1:=h.below hB3
 have hsg:=sg_begin h1 fuel
 obtain ⟨rb,hrb⟩:∃ rb,rb=W3.heap.size+1:=⟨_,rfl⟩
 rw [← hrb] at hsg
 obtain ⟨W5,hW5⟩:∃ W5,W5=begW W3 K.b fuel:=⟨_,rfl⟩
 rw [← hW5] at hsg
 have hB5:Below W3.heap.size W3 W5:=by rw [hW5];exact begW_below _ _ _
 have hz5:W5.heap.size=W3.heap.size+2:=by rw [hW5];simp [begW]
 have HR:Hid _:=hR
 clear hR
 unfold Vl.val
 have hmf:∀ (fn:Fn) (first cap:Array Value) (w:World),(Instr.makeFunc fn first cap).run Tryz.prog w=.ok (.func fn first cap) w:=fun _ _ _ _=>rfl
 go_enter_defers Tryz.func48,Tryz.ntmps48
 go_wp2_with fail
 refine (doings_any _).mono ?_
 rintro e wd ⟨rfl,rfl⟩
 rw [← hW3]
 rename_i K1 hK1 K2 hK2
 refine hK2 _ _ (wpList_step (fun K3 hK3=>?_))
 rw [if_pos (by kernel_rfl)]
 refine upon_eq (r':=.ok (.value (.int .i64 (fuel:Nat))) (W3.alloc (.cells doAll 170))) (by kernel_rfl) ?_
 refine hK3 _ _ (wpList_step (fun K4 hK4=>?_))
 rw [if_pos (by kernel_rfl)]
 refine upon_eq (r':=.ok (.value (.agg (runCs K.b fuel))) (W3.alloc (.cells doAll 170))) (by kernel_rfl) ?_
 refine hK4 _ _ (wpList_step (fun K5 hK5=>?_))
 rw [if_pos (by kernel_rfl)]
 refine upon_eq (r':=.ok (.value (.pointer (some ⟨rb,0,none⟩))) W5) ?_ ?_
 · rw [hrb,hW5]
   unfold begW
   rw [show W3.heap.size+1=(W3.alloc (.cells doAll 170)).heap.size by simp]
   kernel_rfl
 refine hK5 _ _ (wpList_step (fun K6 hK6=>?_))
 rw [if_pos (by kernel_rfl)]
 refine upon_eq (r':=.ok (.value (.pointer (some ⟨rb,0,none⟩))) W5) (by kernel_rfl) ?_
 refine hK6 _ _ (wpList_nil ?_)
 refine hK1 _ _ ?_
 clear hK1 hK2 hK3 hK4 hK5 hK6 K1 K2 K3 K4 K5 K6
 simp only [Act.put,List.getElem_toArray,List.getElem_cons_zero,List.getElem_cons_succ,List.setIfInBounds_toArray,List.set_cons_zero,List.set_cons_succ]
 generalize Value.agg doAll=vda
 generalize Value.agg (runCs K.b fuel)=vrc
 have y0:=hsg.run.c0
 have l0:w.heap.size < W5.heap.size:=by omega
 have l1:=hsg.run.cel.lt
 have hkb:∀ k,k < W3.heap.size→W5.heap[k]?=W3.heap[k]?:=fun k hk=>hB5.block k hk
 have v0:W5.cell? ⟨w.heap.size,0,none⟩=some (.bool to.obj):=by simp only [World.cell?,hkb _ (show w.heap.size < W3.heap.size by omega),b0];rfl
 have v1:W5.cell? ⟨w.heap.size,1,none⟩=some (.int .i64 to.n):=by simp only [World.cell?,hkb _ (show w.heap.size < W3.heap.size by omega),b0];rfl
 have HFL:Hid (∀ k,Foot m K k→k < w.heap.size):=by
  have hx:∀ k,Foot m K k→k < w.heap.size:=fun k e=>h.lt e
  exact hx
 have HZ:Hid (W3.heap.size=w.heap.size+3∧rb=W3.heap.size+1∧W5.heap.size=W3.heap.size+2∧Below w.heap.size w W3∧Below W3.heap.size W3 W5):=⟨hz3,hrb,hz5,hB3,hB5⟩
 have HB:Hid (W3.heap[w.heap.size+1]?=some (.cells #[.bool false,.int .i64 0] 33)∧W3.heap[w.heap.size+2]?=some (.cells #[.int .i64 0] 3)):=⟨b1,b2⟩
 have HS:Hid _:=hsg
 have HA:Hid (ArgsAt w av args ab∧(args≠[]→ab < w.heap.size∧¬ Foot m K ab)):=⟨hav,hab⟩
 have HO:Hid _:=hsl
 have HV:Hid (VlOk m to∧(∀ v∈args,VlOk m v)):=⟨hto,hargs⟩
 have HK:Hid (KIm w m K∧KIm W3 m K):=⟨h,h1⟩
 have n0:¬ rb=w.heap.size:=by omega
 clear hW3 hz3 hrb hW5 hz5 hB3 hB5 hkb b0 b1 b2 hsg hav hab hsl hto hargs h h1
 go_wp2_with fail
 refine wp_pq (w.heap.size+1) (w.heap.size+1+1) (dfs (w.heap.size+1+1)) (YOut W3 m K R) ?_ ?_
 · rintro a c w' ⟨h10,h11,hd⟩ ⟨n,m',K',rfl,rfl,hst⟩
   obtain ⟨e1,e2,e3,hb3,hb5⟩:=HZ.out
   show Leaves _ _ _ _ _ _ _
   rw [hd]
   exact leaves_stop HK.out.1 (Step.below HK.out.1 hb3) ⟨by omega,by omega⟩ ⟨by omega,by omega⟩ (by omega) HB.out.1 HB.out.2 h10 h11 hst
 refine wp_region_held_drew (S:=(fun w'=>w'.cell? ⟨rb,0,none⟩=some (.pointer (some ⟨K.b,0,none⟩))∧w'.cell? ⟨w.heap.size,0,none⟩=some (.bool to.obj)∧w'.cell? ⟨w.heap.size,1,none⟩=some (.int .i64 to.n))) (by kernel_rfl) (by go_keep) (fun hHeld=>?_)
 refine wpAnyH_take (i:=0) (oi:=_) (v:=?_) rfl (by kernel_rfl) (by kernel_rfl) (by kernel_rfl) (fun _ _ _ h=>pq_put (by decide) h) (Or.inl ⟨by rfl,?_⟩) (by assumption) ?_
 rotate_left
 · intro w hSw;(try dsimp only at hSw);go_simp <;> with_reducible rfl
 refine wpAnyH_take (i:=2) (oi:=_) (v:=?_) rfl (by kernel_rfl) (by kernel_rfl) (by kernel_rfl) (fun _ _ _ h=>pq_put (by decide) h) (Or.inl ⟨by rfl,?_⟩) (by assumption) ?_
 rotate_left
 · intro w hSw;(try dsimp only at hSw);go_simp <;> with_reducible rfl
 refine wpAnyH_take (i:=3) (oi:=_) (v:=?_) rfl (by kernel_rfl) (by kernel_rfl) (by kernel_rfl) (fun _ _ _ h=>pq_put (by decide) h) (Or.inl ⟨by rfl,?_⟩) (by assumption) ?_
 rotate_left
 · intro w hSw;(try dsimp only at hSw);go_simp <;> with_reducible rfl
 refine wpAnyH_take (i:=4) (oi:=_) (v:=?_) rfl (by kernel_rfl) (by kernel_rfl) (by kernel_rfl) (fun _ _ _ h=>pq_put (by decide) h) (Or.inl ⟨by rfl,?_⟩) (by assumption) ?_
 rotate_left
 · intro w hSw;(try dsimp only at hSw);go_simp <;> with_reducible rfl
 refine wpAnyH_take (i:=5) (oi:=_) (v:=?_) rfl (by kernel_rfl) (by kernel_rfl) (by kernel_rfl) (fun _ _ _ h=>pq_put (by decide) h) (Or.inl ⟨by rfl,?_⟩) (by assumption) ?_
 rotate_left
 · intro w hSw;(try dsimp only at hSw);go_simp <;> with_reducible rfl
 refine wpAnyH_take (i:=6) (oi:=_) (v:=?_) rfl (by kernel_rfl) (by kernel_rfl) (by kernel_rfl) (fun _ _ _ h=>pq_put (by decide) h) (Or.inl ⟨by rfl,?_⟩) (by assumption) ?_
 rotate_left
 · intro w hSw;(try dsimp only at hSw);go_simp <;> with_reducible rfl
 refine wpAnyH_take (i:=8) (oi:=_) (v:=?_) rfl (by kernel_rfl) (by kernel_rfl) (by kernel_rfl) (fun _ _ _ h=>pq_put (by decide) h) (Or.inl ⟨by rfl,?_⟩) (by assumption) ?_
 rotate_left
 · intro w hSw;(try dsimp only at hSw);go_simp <;> with_reducible rfl
 refine wpAnyH_take (i:=10) (oi:=_) (v:=?_) rfl (by kernel_rfl) (by kernel_rfl) (by kernel_rfl) (fun _ _ _ h=>pq_put (by decide) h) (Or.inl ⟨by rfl,?_⟩) (by assumption) ?_
 rotate_left
 · intro w hSw;(try dsimp only at hSw);go_simp <;> with_reducible rfl
 refine wpAnyH_take (i:=11) (oi:=_) (v:=?_) rfl (by kernel_rfl) (by kernel_rfl) (by kernel_rfl) (fun _ _ _ h=>pq_put (by decide) h) (Or.inl ⟨by rfl,?_⟩) (by assumption) ?_
 rotate_left
 · intro w hSw;(try dsimp only at hSw);go_simp <;> with_reducible rfl
 simp only [Act.put,List.getElem_toArray,List.getElem_cons_zero,List.getElem_cons_succ,List.setIfInBounds_toArray,List.set_cons_zero,List.set_cons_succ]
 refine rdH 1 fun Kmac hKmac=>?_
 go_simp
 refine (nowhere_sg (HS.out.below (Below.refl _ _).drew) sel).mono ?_;rintro e w6 ⟨p,rfl,h6,hp,hb6⟩;have hb6':=undrew hb6;have y06:w6.cell? ⟨rb,0,none⟩=some (.pointer (some ⟨K.b,0,none⟩)):=(hb6'.cell (p:=⟨rb,0,none⟩) l1).trans y0;have v06:w6.cell? ⟨w.heap.size,0,none⟩=some (.bool to.obj):=(hb6'.cell (p:=⟨w.heap.size,0,none⟩) l0).trans v0;have v16:w6.cell? ⟨w.heap.size,1,none⟩=some (.int .i64 to.n):=(hb6'.cell (p:=⟨w.heap.size,1,none⟩) l0).trans v1
 try go_wp2_with fail
 refine hKmac.go fun hHeld=>?_
 clear hKmac Kmac
 try refine lyH ?_
 have l16:=h6.run.cel.lt
 have l06:w.heap.size < w6.heap.size:=Nat.lt_of_lt_of_le l0 hb6'.size
 have hco:=classOf_any h6.stp.kim to HV.out.1
 rw [show (K.nowhere p sel).b=K.b from rfl,show (K.nowhere p sel).cb=K.cb from rfl] at hco
 unfold Vl.val at hco
 have H6:Hid (Sg NoD W3 m K rb w6 m (K.nowhere p sel) fuel [] []∧(p,sel)∈(K.nowhere p sel).k.L∧Below W5.heap.size W5 w6):=⟨h6,hp,hb6'⟩
 clear h6 hp hb6 hb6' y0 v0 v1 l0 l1
 refine rdH 7 fun Kmac hKmac=>?_
 go_simp
 refine hco.mono ?_;rintro e w7 ⟨rfl,hb7⟩;have y07:w7.cell? ⟨rb,0,none⟩=some (.pointer (some ⟨K.b,0,none⟩)):=(hb7.cell (p:=⟨rb,0,none⟩) l16).trans y06;have v07:w7.cell? ⟨w.heap.size,0,none⟩=some (.bool to.obj):=(hb7.cell (p:=⟨w.heap.size,0,none⟩) l06).trans v06;have v17:w7.cell? ⟨w.heap.size,1,none⟩=some (.int .i64 to.n):=(hb7.cell (p:=⟨w.heap.size,1,none⟩) l06).trans v16
 try go_wp2_with fail
 refine hKmac.go fun hHeld=>?_
 clear hKmac Kmac
 try refine lyH ?_
 have h7:=H6.out.1.below hb7
 have HW:Hid (Below w.heap.size w w7):=by
  have hx:Below w.heap.size w w7:=HZ.out.2.2.2.1.trans ((HZ.out.2.2.2.2.trans (H6.out.2.2.mono (by have:=HZ.out.2.2.1;omega))).trans (hb7.mono (Nat.le_trans (by have:=HZ.out.2.2.1;omega) H6.out.2.2.size)) |>.mono (by have:=HZ.out.1;omega))
  exact hx
 have hfn:∀ k,Foot m (K.nowhere p sel) k→Foot m K k∨W3.heap.size≤k:=fun k e=>h7.stp.foot k e
 have hsd:=rsend_any h7 HK.out.2.glo H6.out.2.1 (m.of to) (of_lt h7.ok HV.out.1) hs to (HA.out.1.same (fun hn=>HW.out.block ab (HA.out.2 hn).1)) (fun hn=>⟨Nat.lt_of_lt_of_le (HA.out.2 hn).1 HW.out.size,fun e=>by have:=(HA.out.2 hn).1;have:=HZ.out.1;have:=HZ.out.2.1;omega,fun e=>by
  rcases hfn ab e with e | e
  · exact (HA.out.2 hn).2 e
  · have:=(HA.out.2 hn).1;have:=HZ.out.1;omega⟩) h3 (by simp)
 rw [show (K.nowhere p sel).cb=K.cb from rfl] at hsd
 unfold Vl.val at hsd
 have l07:w.heap.size < w7.heap.size:=Nat.lt_of_lt_of_le l06 hb7.size
 clear hco hb7 h7 hfn y06 v06 v16
 refine wpAnyH_take (i:=9) (oi:=_) (v:=?_) rfl (by kernel_rfl) (by kernel_rfl) (by kernel_rfl) (fun _ _ _ h=>pq_put (by decide) h) (Or.inl ⟨by rfl,?_⟩) (by assumption) ?_
 rotate_left
 · intro w hSw;(try dsimp only at hSw);go_simp <;> with_reducible rfl
 simp only [Act.put,List.getElem_toArray,List.getElem_cons_zero,List.getElem_cons_succ,List.setIfInBounds_toArray,List.set_cons_zero,List.set_cons_succ]
 refine rdH 12 fun Kmac hKmac=>?_
 go_simp
 refine hsd.mono ?_
 rintro e w8 ⟨hwp,hkp⟩
 cases hg:m.send fuel (m.of to) to sel args [] with
 | told m' v=>exact absurd hg (send_nt _ _ _ _ _ _ _ _ _)
 | stop m' n' =>
  rw [hg] at hwp
  obtain ⟨rfl,K',hst⟩:=hwp
  exact ⟨⟨rfl,rfl,rfl⟩,n',m',K',rfl,by rw [HR.out,hg,run_stop],hst⟩
 | on m' fuel' fs' =>
  rw [hg] at hwp
  obtain ⟨rfl,K',bs',h8⟩:=hwp
  have hkp:=hkp rfl
  have hvb:=hkp w.heap.size l07 (fun e=>by
   rcases H6.out.1.stp.foot _ e with e | e
   · have:=HFL.out _ e;omega
   · have:=HZ.out.1;omega) (fun e=>n0 e.symm)
  have y08:=sg_c0 HS.out h8
  have v08:w8.cell? ⟨w.heap.size,0,none⟩=some (.bool to.obj):=(World.cell?_of_block (a:=⟨w.heap.size,0,none⟩) hvb).trans v07
  have v18:w8.cell? ⟨w.heap.size,1,none⟩=some (.int .i64 to.n):=(World.cell?_of_block (a:=⟨w.heap.size,1,none⟩) hvb).trans v17
  have hsz:=send_sz m fuel (m.of to) to sel args []
  have hok:=send_ok HK.out.1.ok fuel (m.of to) to sel args [] HV.out.1 HV.out.2 h3 HO.out (of_class HK.out.1.ok HV.out.1) (fun g hg=>(List.not_mem_nil hg).elim) (by simp)
  rw [hg] at hsz hok
  have hfo:FOn W3 m K rb R (2*fuel+64) w8:=⟨m',K',fuel',bs',fs',h8,hok,by rw [hsz.1];exact hf,by have h1:=hsz.1;have h2:=hsz.2;simp only [List.length_nil] at h2;omega,by rw [HR.out,hg]⟩
  have hfr:=frames_any HK.out.2.glo R w8 _ hfo
  have HE:Hid (∀ m' fu fs,R≠.on m' fu fs):=by
   have hx:∀ m2 fu fs,R≠.on m2 fu fs:=fun m2 fu fs=>by
    rw [HR.out,hg]
    exact run_ends _ _ _ _ (by have h1:=hsz.1;have h2:=hsz.2;simp only [List.length_nil] at h2;omega) _ _ _
   exact hx
  clear h8 hkp hsd hvb hsz hok hfo hg y07 v07 v17
  refine hKmac.go fun hHeld=>?_
  clear hKmac Kmac
  try refine lyH ?_
  refine wpAnyH_done (by kernel_rfl) ?_ _
  clear y08 v08 v18
  refine pq_normal ?_
  go_wp2_with fail
  refine hfr.mono ?_
  intro e w9 hwp
  clear hfr
  obtain ⟨e1,e2,e3,hb3,hb5⟩:=HZ.out
  cases R with
  | on m2 fu fs=>exact absurd rfl (HE.out m2 fu fs)
  | stop m2 n2 =>
   obtain ⟨rfl,K2,hst⟩:=hwp
   exact leaves_stop HK.out.1 (Step.below HK.out.1 hb3) ⟨by omega,by omega⟩ ⟨by omega,by omega⟩ (by omega) HB.out.1 HB.out.2 rfl rfl hst
  | told m2 v =>
   obtain ⟨rfl,K2,hst,hcel,ct,c27,c28⟩:=hwp
   have nf1:¬ Foot m K (w.heap.size+1):=fun e=>by have:=HFL.out _ e;omega
   have nf2:¬ Foot m K (w.heap.size+1+1):=fun e=>by have:=HFL.out _ e;omega
   have d1:=(hst.chg.block (w.heap.size+1) (by omega) nf1).trans HB.out.1
   have d2:=(hst.chg.block (w.heap.size+1+1) (by omega) nf2).trans HB.out.2
   have z0:w9.cell? ⟨w.heap.size+1,0,none⟩=some (.bool false):=by simp only [World.cell?,d1];rfl
   have z1:w9.cell? ⟨w.heap.size+1,1,none⟩=some (.int .i64 0):=by simp only [World.cell?,d1];rfl
   have z2:w9.cell? ⟨w.heap.size+1+1,0,none⟩=some (.int .i64 0):=by simp only [World.cell?,d2];rfl
   have f1:∀ o,w9.frozen? ⟨w.heap.size+1,o,none⟩=false:=fun o=>Cel.free ⟨_,_,d1⟩ o
   have f2:∀ o,w9.frozen? ⟨w.heap.size+1+1,o,none⟩=false:=fun o=>Cel.free ⟨_,_,d2⟩ o
   have hl9:=hcel.lt
   have HQ:Hid (Step w w9 m K m2 K2):=(Step.below HK.out.1 hb3).trans hst
   have HN:Hid (¬ Foot m2 K2 (w.heap.size+1)∧¬ Foot m2 K2 (w.heap.size+1+1)):=by
    have hx:¬ Foot m2 K2 (w.heap.size+1)∧¬ Foot m2 K2 (w.heap.size+1+1):=⟨fun e=>by
     rcases hst.foot _ e with e | e
     · exact nf1 e
     · omega,fun e=>by
     rcases hst.foot _ e with e | e
     · exact nf2 e
     · omega⟩
    exact hx
   clear hst hcel d1 d2 nf1 nf2 e1 e2 e3 hb3 hb5 ct
   go_wp2
   have a1:(⟨w.heap.size+1,1,none⟩:Addr)≠⟨w.heap.size+1,0,none⟩:=fun e=>by injection e with _ e _;cases e
   have a2:∀ o,(⟨w.heap.size+1+1,0,none⟩:Addr)≠⟨w.heap.size+1,o,none⟩:=fun o e=>by injection e with e _ _;omega
   have a3:∀ o,(⟨w.heap.size+1,o,none⟩:Addr)≠⟨w.heap.size+1+1,0,none⟩:=fun o e=>by injection e with e _ _;omega
   refine leaves_told (K':=K2) rfl rfl ?_ ((cs_other (a2 0)).trans ((cs_other a1).trans (cs_same z0))) ((cs_other (a2 1)).trans (cs_same ((cs_other (fun e=>a1 e.symm)).trans z1))) (cs_same ((cs_other (a3 1)).trans ((cs_other (a3 0)).trans z2)))
   refine HQ.out.aside (S:=fun k=>k=w.heap.size+1∨k=w.heap.size+1+1) ((((Chg.refl _ _).setCell _ _ (fun _=>.inl rfl)).setCell _ _ (fun _=>.inl rfl)).setCell _ _ (fun _=>.inr rfl)) (fun k e=>?_) (fun k hg=>HK.out.1.glo.lt hg)
   rcases e with e | e <;> subst e
   · exact ⟨by omega,HN.out.1⟩
   · exact ⟨by omega,HN.out.2⟩
def lackB (m:Im) (v:Vl):Bool:=v.obj&&!m.there v.n
theorem lacks_any (h:KIm w m K) (v:Vl) :
 Calls Tryz.prog 46 #[.pointer (some ⟨K.b,0,none⟩),v.val] w fun e w'=>e=.returned (.bool (lackB m v))∧Below w.heap.size w w':=by
 have hb:Below w.heap.size w (w.alloc (.cells #[.bool v.obj,.int .i64 v.n] 33)):=(Below.refl _ w).alloc (Nat.le_refl _) _
 obtain ⟨p,cap,hv,hf⟩:=(h.below hb).obs.form
 have c1:=(h.below hb).hd.c1
 rw [hv] at c1
 have hcall:=has_any h.ok.objs c1 v.n
 have HB:Hid _:=hb
 obtain ⟨bo,n⟩:=v
 unfold Vl.val lackB Im.there
 clear hb hf
 cases bo
 · clear hcall
   go_enter Tryz.func46,Tryz.ntmps46
   go_wp2
   go_ret
   exact ⟨by simp,HB.out⟩
 · obtain ⟨t,ht⟩:∃ t,t=(decide (0≤n)&&decide (n < (m.obs.length:Int))):=⟨_,rfl⟩
   simp only [← ht] at hcall ⊢
   clear ht
   go_enter Tryz.func46,Tryz.ntmps46
   go_wp2_with fail
   refine hcall.mono ?_
   rintro e w2 ⟨rfl,rfl⟩
   go_wp2
   go_ret
   exact ⟨by simp,HB.out⟩
theorem lacks_ent (args:Array Value) (W:World):(callFunc 46 args).run Tryz.prog W=.ok (.enter 46 args) W:=by simp [go_sem]
theorem cell_plain {a:Addr}{v:Value} (h:w.cell? a=some v):a=⟨a.block,a.off,none⟩:=by
 obtain ⟨b,o,sp⟩:=a
 cases sp with
 | none=>rfl
 | some x =>
  simp only [World.cell?] at h
  split at h
  · simp at h
  · cases h
theorem args_get {ap:Option Addr}{cap:Nat}{args:List Vl}{ab:Nat} (h:ArgsAt w (.slice ap args.length cap) args ab) (hne:args≠[]):∃ o,ap=some ⟨ab,o,none⟩∧∀ k v,args[k]?=some v→w.cell? ⟨ab,o+k*2,none⟩=some (.bool v.obj)∧w.cell? ⟨ab,o+k*2+1,none⟩=some (.int .i64 v.n):=by
 obtain ⟨ap',cap',e,h1⟩:=h
 injection e with e1 e2 e3
 subst e1
 obtain ⟨ad,e2,e3,h2⟩:=h1 hne
 obtain ⟨v0,hv0⟩:∃ v,args[0]?=some v:=by
  cases args with
  | nil=>exact absurd rfl hne
  | cons v r=>exact ⟨v,rfl⟩
 have hp:=cell_plain (h2 _ _ (vcs_get _ _ v0 hv0).1)
 simp only [Nat.zero_mul,Addr.add,if_true] at hp
 subst e3
 refine ⟨ad.off,by rw [e2,← hp],fun k v hk=>?_⟩
 obtain ⟨g1,g2⟩:=vcs_get _ _ v hk
 have c0:=h2 _ _ g1
 have c1:=h2 _ _ g2
 rw [hp,add_plain] at c0 c1
 exact ⟨c0,c1⟩
theorem index_lacks (h:KIm w m K) {ap:Option Addr}{cap:Nat}{args:List Vl}{ab:Nat} (hav:ArgsAt w (.slice ap args.length cap) args ab) (hab:args≠[]→ab < w.heap.size) (h3:args.length≤3) :
 Calls Tryz.prog 86 #[.slice ap args.length cap,.func (.func 46) #[.pointer (some ⟨K.b,0,none⟩)] #[]] w fun e w'=>∃ r:Int,e=.returned (.int .i64 r)∧Below w.heap.size w w'∧decide (0≤r)=args.any (lackB m):=by
 have HT:Hid (KIm w m K∧ArgsAt w (.slice ap args.length cap) args ab∧(args≠[]→ab < w.heap.size)):=⟨h,hav,hab⟩
 obtain ⟨n,hn⟩:∃ n,n=args.length:=⟨_,rfl⟩
 rw [← hn] at h3 ⊢
 have HN:Hid _:=hn
 clear h hav hab hn
 go_enter Tryz.func86,Tryz.ntmps86
 go_wp2
 go_loopw [8] (fun i wr=>∃ k:Nat,i=.int .i64 k∧k≤n∧(∀ i v,i < k→args[i]?=some v→lackB m v=false)∧Below w.heap.size w wr) (fun i _=>n - (intOf i).toNat)
 case atStart=>exact ⟨0,rfl,by omega,fun i v hi=>by omega,Below.refl _ _⟩
 case round =>
  obtain ⟨k,rfl,hk,hno,hb⟩:=hrel
  have HR:Hid ((∀ i v,i < k→args[i]?=some v→lackB m v=false)∧Below w.heap.size w wr):=⟨hno,hb⟩
  clear hno
  by_cases hkn:k < n
  · obtain ⟨v,hv⟩:∃ v,args[k]?=some v:=⟨_,List.getElem?_eq_getElem (by rw [← HN.out];exact hkn)⟩
    have hne:args≠[]:=fun e=>by rw [e] at hv;cases hv
    obtain ⟨o,had,hget⟩:=args_get HT.out.2.1 hne
    obtain ⟨c0,c1⟩:=hget k v hv
    have hlb:=HT.out.2.2 hne
    have c0:wr.cell? ⟨ab,o+k*2,none⟩=some (.bool v.obj):=(hb.cell (p:=⟨ab,o+k*2,none⟩) hlb).trans c0
    have c1:wr.cell? ⟨ab,o+k*2+1,none⟩=some (.int .i64 v.n):=(hb.cell (p:=⟨ab,o+k*2+1,none⟩) hlb).trans c1
    have hent:=lacks_ent
    have hsay:=lacks_any (HT.out.1.below hb) v
    unfold Vl.val at hsay
    have h3i:(n:Int)≤3:=by omega
    have HV:Hid _:=hv
    subst had
    have hadd:(⟨ab,o,none⟩:Addr).add (k*2)=⟨ab,o+k*2,none⟩:=add_plain _ _ _
    clear hb hv hget hne hlb
    go_wp2_with fail
    refine hsay.mono ?_
    rintro e w2 ⟨rfl,hb2⟩
    have HB2:Hid (Below w.heap.size w w2):=HR.out.2.trans (hb2.mono HR.out.2.size)
    clear hb2 c0 c1 hsay hent
    cases hp:lackB m v with
    | true =>
     have HP:Hid _:=hp
     clear hp
     go_wp2
     go_ret
     refine ⟨k,rfl,HB2.out,?_⟩
     rw [decide_eq_true (by omega:(0:Int)≤k)]
     exact (List.any_eq_true.2 ⟨v,List.mem_of_getElem? HV.out,HP.out⟩).symm
    | false =>
     have HP:Hid _:=hp
     clear hp
     go_wp2
     go_roundw
     case rel =>
      refine ⟨k+1,by go_num,by omega,fun i u hi hu=>?_,HB2.out⟩
      by_cases e:i=k
      · subst e
        have:=HV.out.symm.trans hu
        injection this with this
        rw [← this]
        exact HP.out
      · exact HR.out.1 i u (by omega) hu
     case measure=>simp [intOf] <;> omega
  · obtain rfl:k=n:=by omega
    clear hb
    go_wp2
    go_ret
    refine ⟨-1,rfl,HR.out.2,?_⟩
    have:args.any (lackB m)=false:=by
     rw [List.any_eq_false]
     intro v hv
     obtain ⟨i,hi⟩:=List.getElem?_of_mem hv
     rw [HR.out.1 i v (by have:=(List.getElem?_eq_some_iff.1 hi).1;rw [HN.out];exact this) hi]
     simp
    rw [this]
    rfl
theorem contains_lacks (h:KIm w m K) {ap:Option Addr}{cap:Nat}{args:List Vl}{ab:Nat} (hav:ArgsAt w (.slice ap args.length cap) args ab) (hab:args≠[]→ab < w.heap.size) (h3:args.length≤3) :
 Calls Tryz.prog 47 #[.slice ap args.length cap,.func (.func 46) #[.pointer (some ⟨K.b,0,none⟩)] #[]] w fun e w'=>e=.returned (.bool (args.any (lackB m)))∧Below w.heap.size w w':=by
 have hi:=index_lacks h hav hab h3
 clear h hav hab h3
 go_enter Tryz.func47,Tryz.ntmps47
 go_wp2_with fail
 refine hi.mono ?_
 rintro e w1 ⟨r,rfl,hb,hd⟩
 have HD:Hid (decide (0≤r)=args.any (lackB m)∧Below w.heap.size w w1):=⟨hd,hb⟩
 clear hd hb hi
 go_wp2
 go_ret
 exact ⟨by rw [← HD.out.1];rfl,HD.out.2⟩
theorem sends_any (h:KIm w m K):Calls Tryz.prog 29 #[.pointer (some ⟨K.b,0,none⟩)] w fun e w'=>e=.returned (.tuple #[.int .i64 (Go.RowKit.wrap64 (m.looks:Nat)),.int .i64 (Go.RowKit.wrap64 (K.climbs:Nat))])∧Below w.heap.size w w':=by
 have c2:=h.hd.c2
 have c3:=h.hd.c3
 have hl:=h.cor.tab.cel.lt
 clear h
 go_enter Tryz.func29,Tryz.ntmps29
 go_wp2_with fail
 go_region
 go_wp2
 go_ret2
 exact ⟨rfl,(Below.refl _ _).drew⟩
theorem results_snd {fn:Func}{p k l:Tmp} (h:fn.results=#[.cell p 33,.tmp k,.tmp l]) {tmps:Array Value}{z:Nat} (v0 v1 v u:Value) (hp:tmps.getD p undef=.pointer (some ⟨z,0,none⟩)) (hk:tmps.getD k undef=v) (hl:tmps.getD l undef=u) (z0:w.cell? ⟨z,0,none⟩=some v0) (z1:w.cell? ⟨z,1,none⟩=some v1) :
 (results fn tmps).run Tryz.prog w=.ok (.tuple #[.agg #[v0,v1],v,u]) w:=by
 have hp2:tmps[p]?.getD undef=.pointer (some ⟨z,0,none⟩):=by rw [← hp];simp
 have hk2:tmps[k]?.getD undef=v:=by rw [← hk];simp
 have hl2:tmps[l]?.getD undef=u:=by rw [← hl];simp
 simp [results,h,hp2,hk2,hl2,go_sem,z0,z1]
def SOut (w:World) (m:Im) (K:Kd) (r:Vl×Int×Int×Im) (e:Ending) (w':World):Prop:=∃ K',e=.returned (.tuple #[r.1.val,.int .i64 r.2.1,.int .i64 r.2.2.1])∧Step w w' m K r.2.2.2 K'
structure Sn (w w':World) (to:Vl):Prop where
 bel:Below w.heap.size w w'
 lt:w.heap.size+2≤w'.heap.size
 b0:w'.heap[w.heap.size]?=some (.cells #[.bool to.obj,.int .i64 to.n] 33)
 b1:w'.heap[w.heap.size+1]?=some (.cells #[.bool false,.int .i64 0] 33)
variable {w1 w2 : World}
theorem Sn.below {to:Vl} (h:Sn w w1 to) (hb:Below w1.heap.size w1 w2):Sn w w2 to :=
 ⟨h.bel.trans (hb.mono h.bel.size),Nat.le_trans h.lt hb.size,(hb.block _ (by have:=h.lt;omega)).trans h.b0,(hb.block _ (by have:=h.lt;omega)).trans h.b1⟩
theorem Sn.new (w:World) (to:Vl):Sn w ((w.alloc (.cells #[.bool to.obj,.int .i64 to.n] 33)).alloc (.cells #[.bool false,.int .i64 0] 33)) to:=by
 refine ⟨below2 _ _ _,by simp,?_,?_⟩
 · rw [Below.heap_alloc _ _ _ (by simp)]
   exact (MapKept.heap_alloc w _).1
 · have:=(MapKept.heap_alloc (w.alloc (.cells #[.bool to.obj,.int .i64 to.n] 33)) (.cells #[.bool false,.int .i64 0] 33)).1
   rw [World.size_alloc] at this
   exact this
theorem Sn.err {to:Vl} (h:Sn w w' to) (hk:KIm w m K) (e:Int):SOut w m K (Vl.zero,0,e,m) (.returned (.tuple #[.agg #[.bool false,.int .i64 0],.int .i64 0,.int .i64 e])) ((w'.setCell ⟨w.heap.size+1,0,none⟩ (.bool false)).setCell ⟨w.heap.size+1,1,none⟩ (.int .i64 0)):=by
 refine ⟨K,rfl,Step.below hk ?_⟩
 exact (h.bel.setCell (Nat.le_succ _) _).setCell (Nat.le_succ _) _
theorem Sn.z0 {to:Vl} (h:Sn w w' to):w'.cell? ⟨w.heap.size+1,0,none⟩=some (.bool false):=by simp only [World.cell?,h.b1];rfl
theorem Sn.z1 {to:Vl} (h:Sn w w' to):w'.cell? ⟨w.heap.size+1,1,none⟩=some (.int .i64 0):=by simp only [World.cell?,h.b1];rfl
theorem Sn.v0 {to:Vl} (h:Sn w w' to):w'.cell? ⟨w.heap.size,0,none⟩=some (.bool to.obj):=by simp only [World.cell?,h.b0];rfl
theorem Sn.v1 {to:Vl} (h:Sn w w' to):w'.cell? ⟨w.heap.size,1,none⟩=some (.int .i64 to.n):=by simp only [World.cell?,h.b0];rfl
theorem a01 (s:Nat):(⟨s,1,none⟩:Addr)≠⟨s,0,none⟩:=fun e=>by injection e with _ e _;cases e
theorem Sn.ret {to:Vl} (h:Sn w w' to) (hk:KIm w m K) (e:Int) {r:Vl×Int×Int×Im} (hr:r=(Vl.zero,0,e,m)) {a:Act} (hd:a.defers=[]) (h10:a.tmps.getD 10 undef=.pointer (some ⟨w.heap.size+1,0,none⟩)) (h11:a.tmps.getD 11 undef=.int .i64 0) (h12:a.tmps.getD 12 undef=.int .i64 e) :
 bodyPost Tryz.prog Tryz.f18 (SOut w m K r) .ret a ((w'.setCell ⟨w.heap.size+1,0,none⟩ (.bool false)).setCell ⟨w.heap.size+1,1,none⟩ (.int .i64 0)):=by
 refine bodyPost_ret (results_snd rfl _ _ _ _ h10 h11 h12 ((cs_other (a01 _)).trans (cs_same h.z0)) (cs_same ((cs_other (fun e=>a01 _ e.symm)).trans h.z1))) hd ?_
 rw [hr]
 exact h.err hk e
theorem sendO_any (h:KIm w m K) (to:Vl) (hto:isI64 to.n) (sel:ByteArray) (hs:sel.size≤140737488355328) {ap:Option Addr}{cap:Nat}{args:List Vl}{ab:Nat} (hav:ArgsAt w (.slice ap args.length cap) args ab) (hab:args≠[]→ab < w.heap.size∧¬ Foot m K ab) (hargs:∀ v∈args,isI64 v.n) (fuel:Int) :
 Calls Tryz.prog 18 #[.pointer (some ⟨K.b,0,none⟩),to.val,.string sel,.slice ap args.length cap,.int .i64 fuel] w (SOut w m K (m.sendOut to sel args fuel)):=by
 obtain ⟨W2,hW2⟩:∃ W2,W2=(w.alloc (.cells #[.bool to.obj,.int .i64 to.n] 33)).alloc (.cells #[.bool false,.int .i64 0] 33):=⟨_,rfl⟩
 have HSn:Hid (Sn w W2 to):=by rw [hW2];exact Sn.new w to
 have HK:Hid _:=h
 have HA:Hid (ArgsAt w (.slice ap args.length cap) args ab∧(args≠[]→ab < w.heap.size∧¬ Foot m K ab)):=⟨hav,hab⟩
 have HI:Hid (isI64 to.n∧∀ v∈args,isI64 v.n):=⟨hto,hargs⟩
 obtain ⟨r,hr⟩:∃ r,r=m.sendOut to sel args fuel:=⟨_,rfl⟩
 rw [← hr]
 have HR:Hid _:=hr
 clear hr h hav hab hto hargs
 obtain ⟨na,hna⟩:∃ na,na=args.length:=⟨_,rfl⟩
 have HN:Hid _:=hna
 rw [← hna]
 clear hna
 unfold Vl.val
 cases hsl:selector (bl sel) with
 | false =>
  have hse:=isSelector_any sel W2 hs
  rw [hsl] at hse
  have HE:Hid (r=(Vl.zero,0,1,m)):=by
   have hx:r=(Vl.zero,0,1,m):=by rw [HR.out];unfold Im.sendOut;rw [if_pos (.inl hsl)]
   exact hx
  clear hsl
  go_enter Tryz.func18,Tryz.ntmps18
  go_wp2_with fail
  rw [← hW2]
  clear hW2
  refine hse.mono ?_
  rintro e w3 ⟨rfl,hb3⟩
  have hsn:=HSn.out.below hb3
  have H3:Hid _:=hsn
  have z0:=hsn.z0
  have z1:=hsn.z1
  have f1:∀ o,w3.frozen? ⟨w.heap.size+1,o,none⟩=false:=fun o=>Cel.free ⟨_,_,hsn.b1⟩ o
  clear hse hb3 hsn
  go_wp2
  exact H3.out.ret HK.out 1 HE.out rfl rfl rfl rfl
 | true =>
  have hse:=isSelector_any sel W2 hs
  rw [hsl] at hse
  have HL:Hid (selector (bl sel)=true∧sel.size≤8):=⟨hsl,sel_small hsl⟩
  have ha3:=argsOf_le hsl
  clear hsl
  obtain ⟨no,hno⟩:∃ no,no=argsOf (bl sel):=⟨_,rfl⟩
  have HNo:Hid _:=hno
  rw [← hno] at ha3
  clear hno
  go_enter Tryz.func18,Tryz.ntmps18
  go_wp2_with fail
  rw [← hW2]
  clear hW2
  refine hse.mono ?_
  rintro e w3 ⟨rfl,hb3⟩
  have H3:Hid (Sn w w3 to):=HSn.out.below hb3
  clear hse hb3
  go_wp2_with fail
  refine (argumentsOf_any sel w3 HL.out.1).mono ?_
  rw [← HNo.out]
  rintro e w4 ⟨rfl,hb4⟩
  have H4:Hid (Sn w w4 to):=H3.out.below hb4
  have z0:=H4.out.z0
  have z1:=H4.out.z1
  have f1:∀ o,w4.frozen? ⟨w.heap.size+1,o,none⟩=false:=fun o=>Cel.free ⟨_,_,H4.out.b1⟩ o
  have v0:=H4.out.v0
  have v1:=H4.out.v1
  clear hb4
  by_cases hbad:no≠na∨fuel < 0∨3000 < fuel
  · have HE:Hid (r=(Vl.zero,0,1,m)):=by
     have hx:r=(Vl.zero,0,1,m):=by
      rw [HR.out]
      unfold Im.sendOut
      rw [if_pos (.inr (by rw [← HNo.out,← HN.out];exact hbad))]
     exact hx
    by_cases h1:no=na
    · subst h1
      by_cases h2:fuel < 0
      · clear hbad
        go_wp2
        exact H4.out.ret HK.out 1 HE.out rfl rfl rfl rfl
      · have h3:3000 < fuel:=by omega
        clear hbad
        go_wp2
        exact H4.out.ret HK.out 1 HE.out rfl rfl rfl rfl
    · have h1':¬ ((no:Int)=(na:Int)):=by omega
      clear hbad h1
      go_wp2
      exact H4.out.ret HK.out 1 HE.out rfl rfl rfl rfl
  · have h1:no=na:=by omega
    have h2:¬ fuel < 0:=by omega
    have h3:¬ 3000 < fuel:=by omega
    obtain ⟨fu,rfl⟩:∃ fu:Nat,fuel=(fu:Int):=⟨fuel.toNat,by omega⟩
    subst h1
    clear hbad
    have hmf:∀ (fn:Fn) (first cap:Array Value) (w:World),(Instr.makeFunc fn first cap).run Tryz.prog w=.ok (.func fn first cap) w:=fun _ _ _ _=>rfl
    have hlk:=lacks_any (HK.out.below H4.out.bel) to
    unfold Vl.val at hlk
    go_wp2_with fail
    refine hlk.mono ?_
    rintro e w5 ⟨rfl,hb5⟩
    have H5:Hid (Sn w w5 to):=H4.out.below hb5
    have z05:=H5.out.z0
    have z15:=H5.out.z1
    have f15:∀ o,w5.frozen? ⟨w.heap.size+1,o,none⟩=false:=fun o=>Cel.free ⟨_,_,H5.out.b1⟩ o
    have v05:=H5.out.v0
    have v15:=H5.out.v1
    clear hb5 hlk z0 z1 f1 v0 v1
    have HS0:Hid (¬ (selector (bl sel)=false∨argsOf (bl sel)≠args.length∨(fu:Int) < 0∨3000 < (fu:Int))):=by
     have hx:¬ (selector (bl sel)=false∨argsOf (bl sel)≠args.length∨(fu:Int) < 0∨3000 < (fu:Int)):=by
      rw [HL.out.1,← HNo.out,← HN.out]
      simp
      omega
     exact hx
    cases hla:lackB m to with
    | true =>
     have HE:Hid (r=(Vl.zero,0,4,m)):=by
      have hx:r=(Vl.zero,0,4,m):=by
       rw [HR.out]
       unfold Im.sendOut
       rw [if_neg HS0.out,if_pos (by rw [List.any_cons];unfold lackB at hla;rw [hla];rfl)]
      exact hx
     clear hla
     go_wp2
     exact H5.out.ret HK.out 4 HE.out rfl rfl rfl rfl
    | false =>
     have HT:Hid _:=hla
     have hcf:=contains_lacks (HK.out.below H5.out.bel) (HA.out.1.same (fun hn=>H5.out.bel.block ab (HA.out.2 hn).1)) (fun hn=>Nat.lt_of_lt_of_le (HA.out.2 hn).1 H5.out.bel.size) (by rw [← HN.out];exact ha3)
     rw [← HN.out] at hcf
     clear hla
     go_wp2_with fail
     refine hcf.mono ?_
     rintro e w6 ⟨rfl,hb6⟩
     have H6:Hid (Sn w w6 to):=H5.out.below hb6
     have z06:=H6.out.z0
     have z16:=H6.out.z1
     have f16:∀ o,w6.frozen? ⟨w.heap.size+1,o,none⟩=false:=fun o=>Cel.free ⟨_,_,H6.out.b1⟩ o
     have v06:=H6.out.v0
     have v16:=H6.out.v1
     clear hb6 hcf z05 z15 f15 v05 v15
     cases hlb:args.any (lackB m) with
     | true =>
      have HE:Hid (r=(Vl.zero,0,4,m)):=by
       have hx:r=(Vl.zero,0,4,m):=by
        rw [HR.out]
        unfold Im.sendOut
        rw [if_neg HS0.out,if_pos (by rw [List.any_cons];unfold lackB at hlb;rw [hlb];simp)]
       exact hx
      clear hlb
      go_wp2
      exact H6.out.ret HK.out 4 HE.out rfl rfl rfl rfl
     | false =>
      obtain ⟨R,hR⟩:∃ R,R=runM (2*fu+64) (m.send fu (m.of to) to sel args []):=⟨_,rfl⟩
      have HE:Hid (r=((outG R).1,(outG R).2.1,0,(outG R).2.2)):=by
       have hx:r=((outG R).1,(outG R).2.1,0,(outG R).2.2):=by
        rw [HR.out]
        have hT:=HT.out
        unfold Im.sendOut
        unfold lackB at hlb hT
        rw [if_neg HS0.out,if_neg (by rw [List.any_cons,hT,hlb];simp),Int.toNat_natCast,← hR]
        cases R <;> rfl
       exact hx
      have hvo:∀ v,isI64 v.n→lackB m v=false→VlOk m v:=fun v h1 h2=>⟨h1,fun ho=>by
       unfold lackB at h2
       rw [ho,Bool.true_and,Bool.not_eq_false'] at h2
       exact h2⟩
      have hall:∀ v∈args,VlOk m v:=fun v hv=>hvo v (HI.out.2 v hv) (by
       have:=List.any_eq_false.1 hlb v hv
       simpa using this)
      have hou:=outside_any (HK.out.below H6.out.bel) to (hvo to HI.out.1 HT.out) sel (by have:=HL.out.2;omega) (HA.out.1.same (fun hn=>H6.out.bel.block ab (HA.out.2 hn).1)) (fun hn=>⟨Nat.lt_of_lt_of_le (HA.out.2 hn).1 H6.out.bel.size,(HA.out.2 hn).2⟩) (by rw [← HN.out];exact ha3) hall (fun _=>by rw [← HN.out];exact HNo.out) fu (by omega) R hR
      rw [← HN.out] at hou
      unfold Vl.val at hou
      clear hlb hR hvo hall
      go_wp2_with fail
      refine hou.mono ?_
      rintro e w7 ⟨K7,rfl,hst⟩
      have d1:w7.heap[w.heap.size+1]?=some (.cells #[.bool false,.int .i64 0] 33):=(hst.chg.block _ (by have:=H6.out.lt;omega) (fun e=>by have:=HK.out.lt e;omega)).trans H6.out.b1
      have z07:w7.cell? ⟨w.heap.size+1,0,none⟩=some (.bool false):=by simp only [World.cell?,d1];rfl
      have z17:w7.cell? ⟨w.heap.size+1,1,none⟩=some (.int .i64 0):=by simp only [World.cell?,d1];rfl
      have f17:∀ o,w7.frozen? ⟨w.heap.size+1,o,none⟩=false:=fun o=>Cel.free ⟨_,_,d1⟩ o
      have hl7:w.heap.size+1 < w7.heap.size:=(Array.getElem?_eq_some_iff.1 d1).1
      have HQ:Hid (Step w w7 m K (outG R).2.2 K7):=(Step.below HK.out H6.out.bel).trans hst
      have HN7:Hid (¬ Foot (outG R).2.2 K7 (w.heap.size+1)):=by
       have hx:¬ Foot (outG R).2.2 K7 (w.heap.size+1):=fun e=>by
        rcases hst.foot _ e with e | e
        · have:=HK.out.lt e;omega
        · have:=H6.out.lt;omega
       exact hx
      clear hou hst d1 z06 z16 f16 v06 v16
      obtain ⟨og,hog⟩:∃ og,og=outG R:=⟨_,rfl⟩
      rw [← hog] at HQ HN7 HE ⊢
      clear hog
      obtain ⟨⟨vo,vn⟩,n,m'⟩:=og
      unfold Vl.val
      go_wp2
      obtain ⟨W8,hW8⟩:∃ W8,W8=(w7.setCell ⟨w.heap.size+1,0,none⟩ (.bool vo)).setCell ⟨w.heap.size+1,1,none⟩ (.int .i64 vn):=⟨_,rfl⟩
      have y0:W8.cell? ⟨w.heap.size+1,0,none⟩=some (.bool vo):=by rw [hW8];exact (cs_other (a01 _)).trans (cs_same z07)
      have y1:W8.cell? ⟨w.heap.size+1,1,none⟩=some (.int .i64 vn):=by rw [hW8];exact cs_same ((cs_other (fun e=>a01 _ e.symm)).trans z17)
      have hl8:w.heap.size+1 < W8.heap.size:=by rw [hW8];simp [World.setCell];omega
      have hb8:Below W8.heap.size W8 (W8.alloc (.cells #[.bool vo,.int .i64 vn] 33)):=(Below.refl _ _).alloc (Nat.le_refl _) _
      have hst8:Step w W8 m K m' K7:=by
       rw [hW8]
       exact HQ.out.aside (S:=fun k=>k=w.heap.size+1) (((Chg.refl _ (fun k=>k=w.heap.size+1)).setCell ⟨w.heap.size+1,0,none⟩ _ (fun _=>rfl)).setCell ⟨w.heap.size+1,1,none⟩ _ (fun _=>rfl)) (fun k e=>⟨by omega,by rw [e];exact HN7.out⟩) (fun k hg=>HK.out.glo.lt hg)
      rw [← hW8]
      refine bodyPost_ret (results_snd rfl _ _ _ _ rfl rfl rfl ((hb8.cell (p:=⟨w.heap.size+1,0,none⟩) hl8).trans y0) ((hb8.cell (p:=⟨w.heap.size+1,1,none⟩) hl8).trans y1)) rfl ?_
      rw [HE.out]
      exact ⟨K7,rfl,hst8.trans (Step.below hst8.kim hb8)⟩
end Go.Proofs.YtkghmgoefiepeaaGreatDoor.reads
