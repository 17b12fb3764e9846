import Derived.Test.YtkghmgoefiepeaaGreatDoorQ0
import Derived.Test.YtkghmgoefiepeaaGreatDoorQ36
set_option linter.unusedSimpArgs false
set_option linter.unusedVariables false
set_option maxHeartbeats 4000000
set_option maxRecDepth 100000
namespace Go.Proofs.YtkghmgoefiepeaaGreatDoor.reads
open Go.ChangeShapes Go.WideShapes Go.ChangeAt Go.RowKit Kn Go.Proofs.YtkghmgoefiepeaaGreatDoor.img
def wcs (x:Kn.W) (pl:Option Addr):Array Value:=#[.int .i64 (kindOf x.k:Nat),.int .i64 x.n,.string (ofL x.a),.string (ofL x.sel),.string (ofL x.b),.pointer pl]
def wval (x:Kn.W) (pl:Option Addr):Value:=.agg (wcs x pl)
structure Bx (Dd:Nat→Prop) (w0:World) (m0:Im) (K0:Kd) (rb:Nat) (w W1:World) (m:Im) (K:Kd) (fuel fb mk:Nat) (bs:List (Nat×Nat)) (f:Fr) (fs:List Fr) (x:Kn.W) (pl:Option Addr):Prop where
 sg:Sg Dd w0 m0 K0 rb W1 m K fuel ((fb,mk)::bs) (f::fs)
 below:Below w.heap.size w W1
 blk:W1.heap[w.heap.size]?=some (.cells (wcs x pl) 146)
 x1:W1.cell? ⟨w.heap.size,1,none⟩=some (.int .i64 x.n)
 x2:W1.cell? ⟨w.heap.size,2,none⟩=some (.string (ofL x.a))
 x3:W1.cell? ⟨w.heap.size,3,none⟩=some (.string (ofL x.sel))
 x4:W1.cell? ⟨w.heap.size,4,none⟩=some (.string (ofL x.b))
 x5:W1.cell? ⟨w.heap.size,5,none⟩=some (.pointer pl)
 ct:W1.cell? ⟨rb,24,none⟩=some (.pointer (some ⟨fb,0,none⟩))
 c0:W1.cell? ⟨rb,0,none⟩=some (.pointer (some ⟨K.b,0,none⟩))
 n1:rb≠fb
 n2:w.heap.size≠fb
 n3:w.heap.size≠rb
 l1:rb < W1.heap.size
 l2:fb < W1.heap.size
 l3:w.heap.size < W1.heap.size
 nf:¬ Foot m K w.heap.size
variable {w w0 : World}
variable {m m0 : Im}
variable {K K0 : Kd}
variable {Dd : Nat → Prop}
variable {bs : List (Nat × Nat)}
variable {fs : List Fr}
variable {f : Fr}
theorem Sg.box {rb:Nat}{fuel fb mk:Nat} (h:Sg Dd w0 m0 K0 rb w m K fuel ((fb,mk)::bs) (f::fs)) (x:Kn.W) (pl:Option Addr) {W1:World} (hW:W1=w.alloc (.cells (wcs x pl) 146)):Bx Dd w0 m0 K0 rb w W1 m K fuel fb mk bs f fs x pl:=by
 subst hW
 have hB:Below w.heap.size w (w.alloc (.cells (wcs x pl) 146)):=(Below.refl _ w).alloc (Nat.le_refl _) _
 have h1:=h.below hB
 have hb:(w.alloc (.cells (wcs x pl) 146)).heap[w.heap.size]?=some (.cells (wcs x pl) 146):=(MapKept.heap_alloc w _).1
 have hnd:=h.nd
 simp only [List.map_cons,List.nodup_cons,List.mem_cons,not_or] at hnd
 have l1:=(h.lo rb (by simp)).2.1
 have l2:=(h.lo fb (by simp)).2.1
 refine ⟨h1,hB,hb,?_,?_,?_,?_,?_,h1.run.ct,h1.run.c0,hnd.1.1,by omega,by omega,by simp;omega,by simp;omega,by simp,fun e=>by have:=h.stp.kim.lt e;omega⟩ <;> (simp only [World.cell?,hb];rfl)
theorem do_number {rb:Nat}{fuel fb mk:Nat} (h:Sg Dd w0 m0 K0 rb w m K fuel ((fb,mk)::bs) (f::fs)) (h0:Glo w0) (x:Kn.W) (pl:Option Addr) (hk:x.k=110) (hr:f.st.length < 16) :
 Calls Tryz.prog 114 #[.pointer (some ⟨rb,0,none⟩),wval x pl] w (WPost Dd w0 m0 K0 rb (wordM m fuel x f fs)):=by
 have hw:wordM m fuel x f fs=.on m fuel ({ f with st:=⟨false,x.n⟩::f.st }::fs):=by unfold wordM;simp [hk]
 rw [hw]
 obtain ⟨W1,hW1⟩:∃ W1,W1=w.alloc (.cells (wcs x pl) 146):=⟨_,rfl⟩
 have B:=h.box x pl hW1
 have ct:=B.ct
 have x1:=B.x1
 have l1:=B.l1
 have l2:=B.l2
 have l3:=B.l3
 have hlay:=lay_any (w:=W1.drew) (B.sg.frs.1.raw.same rfl) hr ⟨false,x.n⟩
 have HB:Hid _:=B
 unfold wcs at hW1
 unfold Vl.val at hlay
 unfold wval wcs
 clear B hw h hk
 go_enter Tryz.func114,Tryz.ntmps114
 go_wp2_with fail
 rw [← hW1]
 clear hW1
 refine wp_region_noPanic ?_
 refine wp_region_held_drew (S:=(fun w'=>w'.cell? ⟨rb,24,none⟩=some (.pointer (some ⟨fb,0,none⟩))∧w'.cell? ⟨w.heap.size,1,none⟩=some (.int .i64 x.n))) (by kernel_rfl) (by go_keep) (fun hHeld=>?_)
 refine tkH 0 ?_
 refine tkH 1 ?_
 refine tkH 2 ?_
 refine tkH 3 ?_
 refine tkH 4 ?_
 refine tkH 5 ?_
 refine tkL 6 ?_
 refine rdH 7 fun Kmac hKmac=>?_
 go_simp
 refine hlay.mono ?_;rintro e w3 ⟨rfl,hf3,hc3⟩;have ct3:w3.cell? ⟨rb,24,none⟩=some (.pointer (some ⟨fb,0,none⟩)):=(World.cell?_of_block (a:=⟨rb,24,none⟩) (hc3.block _ l1 HB.out.n1)).trans ct;have x13:w3.cell? ⟨w.heap.size,1,none⟩=some (.int .i64 x.n):=(World.cell?_of_block (a:=⟨w.heap.size,1,none⟩) (hc3.block _ l3 HB.out.n2)).trans x1
 try go_wp2_with fail
 refine hKmac.go fun hHeld=>?_
 clear hKmac Kmac
 try refine lyH ?_
 refine wpAnyH_done (by kernel_rfl) ?_ _
 refine NoPanic.normal ?_
 go_end0
 exact ⟨rfl,K,_,HB.out.sg.top (f':={ f with st:=⟨false,x.n⟩::f.st }) h0 ((Chg.refl W1 _).drew.then hc3 (fun k _ e=>e)) hf3 rfl rfl⟩
end Go.Proofs.YtkghmgoefiepeaaGreatDoor.reads
