import Derived.Test.YtkghmgoefiepeaaGreatDoorQ0
import Derived.Test.YtkghmgoefiepeaaGreatDoorQ28
import Derived.Test.YtkghmgoefiepeaaGreatDoorQ40
set_option linter.unusedSimpArgs false
set_option linter.unusedVariables false
set_option maxHeartbeats 4000000
set_option maxRecDepth 100000
namespace Go.Proofs.YtkghmgoefiepeaaGreatDoor.reads
open Go.ChangeShapes Go.WideShapes Go.ChangeAt Go.RowKit Kn Go.Proofs.YtkghmgoefiepeaaGreatDoor.img
variable {w w0 : World}
variable {m m0 : Im}
variable {K K0 : Kd}
variable {Dd : Nat → Prop}
variable {bs : List (Nat × Nat)}
variable {fs : List Fr}
variable {f : Fr}
theorem do_drop {rb:Nat}{fuel fb mk:Nat} (h:Sg Dd w0 m0 K0 rb w m K fuel ((fb,mk)::bs) (f::fs)) (h0:Glo w0) (x:Kn.W) (pl:Option Addr) (hk:x.k=120)  :
 Calls Tryz.prog 132 #[.pointer (some ⟨rb,0,none⟩),wval x pl] w (WPost Dd w0 m0 K0 rb (wordM m fuel x f fs)):=by
 have hw:wordM m fuel x f fs=if (m.drop (ofL x.a) (ofL x.sel)).1=0 then .on (m.drop (ofL x.a) (ofL x.sel)).2 fuel (f::fs) else .stop (m.drop (ofL x.a) (ofL x.sel)).2 3:=by unfold wordM;simp [hk]
 rw [hw]
 obtain ⟨W1,hW1⟩:∃ W1,W1=w.alloc (.cells (wcs x pl) 146):=⟨_,rfl⟩
 have B:=h.box x pl hW1
 have c0:=B.c0
 have x2:=B.x2
 have x3:=B.x3
 have l1:=B.l1
 have l3:=B.l3
 have hcall:=drop_any (B.sg.stp.kim.drew) (ofL x.a) (ofL x.sel)
 obtain ⟨⟨e0,m'⟩,hd⟩:∃ r,m.drop (ofL x.a) (ofL x.sel)=r:=⟨_,rfl⟩
 rw [hd] at hcall ⊢
 have HB:Hid _:=B
 unfold wcs at hW1
 unfold wval wcs
 clear B h hw hk hd
 by_cases he:e0=0
 · subst he
   rw [if_pos rfl]
   go_enter Tryz.func132,Tryz.ntmps132
   go_wp2_with fail
   rw [← hW1]
   clear hW1
   refine wp_region_held_drew (S:=(fun w'=>w'.cell? ⟨rb,0,none⟩=some (.pointer (some ⟨K.b,0,none⟩))∧w'.cell? ⟨w.heap.size,2,none⟩=some (.string (ofL x.a))∧w'.cell? ⟨w.heap.size,3,none⟩=some (.string (ofL x.sel)))) (by kernel_rfl) (by go_keep) (fun hHeld=>?_)
   refine tkH 0 ?_
   refine tkH 1 ?_
   refine tkH 2 ?_
   refine tkH 3 ?_
   refine tkH 4 ?_
   refine tkH 5 ?_
   refine tkH 6 ?_
   refine tkL 7 ?_
   refine rdH 8 fun Kmac hKmac=>?_
   go_simp
   refine hcall.mono ?_;rintro e w2 ⟨rfl,K',hst⟩;have hcm:=HB.out.calm hst;have d2:w2.cell? ⟨w.heap.size,2,none⟩=some (.string (ofL x.a)):=(World.cell?_of_block (a:=⟨w.heap.size,2,none⟩) hcm.2.1).trans x2;have d3:w2.cell? ⟨w.heap.size,3,none⟩=some (.string (ofL x.sel)):=(World.cell?_of_block (a:=⟨w.heap.size,3,none⟩) hcm.2.1).trans x3;have d0:=hcm.2.2.1
   try go_wp2_with fail
   refine hKmac.go fun hHeld=>?_
   clear hKmac Kmac
   try refine lyH ?_
   have hmu:=must_ok w2
   refine rdH 9 fun Kmac hKmac=>?_
   go_simp
   refine hmu.mono ?_;rintro e w3 ⟨rfl,rfl⟩
   try go_wp2_with fail
   refine hKmac.go fun hHeld=>?_
   clear hKmac Kmac
   try refine lyH ?_
   refine wpAnyH_done (by kernel_rfl) ?_ _
   go_end0
   exact ⟨rfl,K',_,hcm.1⟩
 · rw [if_neg he]
   go_enter Tryz.func132,Tryz.ntmps132
   go_wp2_with fail
   rw [← hW1]
   clear hW1
   refine wp_region_held_drew (S:=(fun w'=>w'.cell? ⟨rb,0,none⟩=some (.pointer (some ⟨K.b,0,none⟩))∧w'.cell? ⟨w.heap.size,2,none⟩=some (.string (ofL x.a))∧w'.cell? ⟨w.heap.size,3,none⟩=some (.string (ofL x.sel)))) (by kernel_rfl) (by go_keep) (fun hHeld=>?_)
   refine tkH 0 ?_
   refine tkH 1 ?_
   refine tkH 2 ?_
   refine tkH 3 ?_
   refine tkH 4 ?_
   refine tkH 5 ?_
   refine tkH 6 ?_
   refine tkL 7 ?_
   refine rdH 8 fun Kmac hKmac=>?_
   go_simp
   refine hcall.mono ?_;rintro e w2 ⟨rfl,K',hst⟩;have hcm:=HB.out.calm hst;have d2:w2.cell? ⟨w.heap.size,2,none⟩=some (.string (ofL x.a)):=(World.cell?_of_block (a:=⟨w.heap.size,2,none⟩) hcm.2.1).trans x2;have d3:w2.cell? ⟨w.heap.size,3,none⟩=some (.string (ofL x.sel)):=(World.cell?_of_block (a:=⟨w.heap.size,3,none⟩) hcm.2.1).trans x3;have d0:=hcm.2.2.1
   try go_wp2_with fail
   refine hKmac.go fun hHeld=>?_
   clear hKmac Kmac
   try refine lyH ?_
   have hmu:=must_no e0 he w2
   refine rdH 9 fun Kmac hKmac=>?_
   go_simp
   refine hmu.mono ?_
   rintro e w3 ⟨rfl,rfl⟩
   exact ⟨rfl,rfl,K',hcm.1.stp⟩
theorem do_move {rb:Nat}{fuel fb mk:Nat} (h:Sg Dd w0 m0 K0 rb w m K fuel ((fb,mk)::bs) (f::fs)) (h0:Glo w0) (x:Kn.W) (pl:Option Addr) (hk:x.k=118)  :
 Calls Tryz.prog 133 #[.pointer (some ⟨rb,0,none⟩),wval x pl] w (WPost Dd w0 m0 K0 rb (wordM m fuel x f fs)):=by
 have hw:wordM m fuel x f fs=if (m.move (ofL x.a) (ofL x.b)).1=0 then .on (m.move (ofL x.a) (ofL x.b)).2 fuel (f::fs) else .stop (m.move (ofL x.a) (ofL x.b)).2 3:=by unfold wordM;simp [hk]
 rw [hw]
 obtain ⟨W1,hW1⟩:∃ W1,W1=w.alloc (.cells (wcs x pl) 146):=⟨_,rfl⟩
 have B:=h.box x pl hW1
 have c0:=B.c0
 have x2:=B.x2
 have x4:=B.x4
 have l1:=B.l1
 have l3:=B.l3
 have hcall:=move_any (B.sg.stp.kim.drew) (ofL x.a) (ofL x.b)
 obtain ⟨⟨e0,m'⟩,hd⟩:∃ r,m.move (ofL x.a) (ofL x.b)=r:=⟨_,rfl⟩
 rw [hd] at hcall ⊢
 have HB:Hid _:=B
 unfold wcs at hW1
 unfold wval wcs
 clear B h hw hk hd
 by_cases he:e0=0
 · subst he
   rw [if_pos rfl]
   go_enter Tryz.func133,Tryz.ntmps133
   go_wp2_with fail
   rw [← hW1]
   clear hW1
   refine wp_region_held_drew (S:=(fun w'=>w'.cell? ⟨rb,0,none⟩=some (.pointer (some ⟨K.b,0,none⟩))∧w'.cell? ⟨w.heap.size,2,none⟩=some (.string (ofL x.a))∧w'.cell? ⟨w.heap.size,4,none⟩=some (.string (ofL x.b)))) (by kernel_rfl) (by go_keep) (fun hHeld=>?_)
   refine tkH 0 ?_
   refine tkH 1 ?_
   refine tkH 2 ?_
   refine tkH 3 ?_
   refine tkH 4 ?_
   refine tkH 5 ?_
   refine tkH 6 ?_
   refine tkL 7 ?_
   refine rdH 8 fun Kmac hKmac=>?_
   go_simp
   refine hcall.mono ?_;rintro e w2 ⟨rfl,K',hst⟩;have hcm:=HB.out.calm hst;have d2:w2.cell? ⟨w.heap.size,2,none⟩=some (.string (ofL x.a)):=(World.cell?_of_block (a:=⟨w.heap.size,2,none⟩) hcm.2.1).trans x2;have d4:w2.cell? ⟨w.heap.size,4,none⟩=some (.string (ofL x.b)):=(World.cell?_of_block (a:=⟨w.heap.size,4,none⟩) hcm.2.1).trans x4;have d0:=hcm.2.2.1
   try go_wp2_with fail
   refine hKmac.go fun hHeld=>?_
   clear hKmac Kmac
   try refine lyH ?_
   have hmu:=must_ok w2
   refine rdH 9 fun Kmac hKmac=>?_
   go_simp
   refine hmu.mono ?_;rintro e w3 ⟨rfl,rfl⟩
   try go_wp2_with fail
   refine hKmac.go fun hHeld=>?_
   clear hKmac Kmac
   try refine lyH ?_
   refine wpAnyH_done (by kernel_rfl) ?_ _
   go_end0
   exact ⟨rfl,K',_,hcm.1⟩
 · rw [if_neg he]
   go_enter Tryz.func133,Tryz.ntmps133
   go_wp2_with fail
   rw [← hW1]
   clear hW1
   refine wp_region_held_drew (S:=(fun w'=>w'.cell? ⟨rb,0,none⟩=some (.pointer (some ⟨K.b,0,none⟩))∧w'.cell? ⟨w.heap.size,2,none⟩=some (.string (ofL x.a))∧w'.cell? ⟨w.heap.size,4,none⟩=some (.string (ofL x.b)))) (by kernel_rfl) (by go_keep) (fun hHeld=>?_)
   refine tkH 0 ?_
   refine tkH 1 ?_
   refine tkH 2 ?_
   refine tkH 3 ?_
   refine tkH 4 ?_
   refine tkH 5 ?_
   refine tkH 6 ?_
   refine tkL 7 ?_
   refine rdH 8 fun Kmac hKmac=>?_
   go_simp
   refine hcall.mono ?_;rintro e w2 ⟨rfl,K',hst⟩;have hcm:=HB.out.calm hst;have d2:w2.cell? ⟨w.heap.size,2,none⟩=some (.string (ofL x.a)):=(World.cell?_of_block (a:=⟨w.heap.size,2,none⟩) hcm.2.1).trans x2;have d4:w2.cell? ⟨w.heap.size,4,none⟩=some (.string (ofL x.b)):=(World.cell?_of_block (a:=⟨w.heap.size,4,none⟩) hcm.2.1).trans x4;have d0:=hcm.2.2.1
   try go_wp2_with fail
   refine hKmac.go fun hHeld=>?_
   clear hKmac Kmac
   try refine lyH ?_
   have hmu:=must_no e0 he w2
   refine rdH 9 fun Kmac hKmac=>?_
   go_simp
   refine hmu.mono ?_
   rintro e w3 ⟨rfl,rfl⟩
   exact ⟨rfl,rfl,K',hcm.1.stp⟩
theorem do_copy {rb:Nat}{fuel fb mk:Nat} (h:Sg Dd w0 m0 K0 rb w m K fuel ((fb,mk)::bs) (f::fs)) (h0:Glo w0) (x:Kn.W) (pl:Option Addr) (hk:x.k=99)  :
 Calls Tryz.prog 134 #[.pointer (some ⟨rb,0,none⟩),wval x pl] w (WPost Dd w0 m0 K0 rb (wordM m fuel x f fs)):=by
 have hw:wordM m fuel x f fs=if (m.copy (ofL x.a) (ofL x.sel) (ofL x.b)).1=0 then .on (m.copy (ofL x.a) (ofL x.sel) (ofL x.b)).2 fuel (f::fs) else .stop (m.copy (ofL x.a) (ofL x.sel) (ofL x.b)).2 3:=by unfold wordM;simp [hk]
 rw [hw]
 obtain ⟨W1,hW1⟩:∃ W1,W1=w.alloc (.cells (wcs x pl) 146):=⟨_,rfl⟩
 have B:=h.box x pl hW1
 have c0:=B.c0
 have x2:=B.x2
 have x3:=B.x3
 have x4:=B.x4
 have l1:=B.l1
 have l3:=B.l3
 have hcall:=copy_all (B.sg.stp.kim.drew) (ofL x.a) (ofL x.sel) (ofL x.b)
 obtain ⟨⟨e0,m'⟩,hd⟩:∃ r,m.copy (ofL x.a) (ofL x.sel) (ofL x.b)=r:=⟨_,rfl⟩
 rw [hd] at hcall ⊢
 have HB:Hid _:=B
 unfold wcs at hW1
 unfold wval wcs
 clear B h hw hk hd
 by_cases he:e0=0
 · subst he
   rw [if_pos rfl]
   go_enter Tryz.func134,Tryz.ntmps134
   go_wp2_with fail
   rw [← hW1]
   clear hW1
   refine wp_region_held_drew (S:=(fun w'=>w'.cell? ⟨rb,0,none⟩=some (.pointer (some ⟨K.b,0,none⟩))∧w'.cell? ⟨w.heap.size,2,none⟩=some (.string (ofL x.a))∧w'.cell? ⟨w.heap.size,3,none⟩=some (.string (ofL x.sel))∧w'.cell? ⟨w.heap.size,4,none⟩=some (.string (ofL x.b)))) (by kernel_rfl) (by go_keep) (fun hHeld=>?_)
   refine tkH 0 ?_
   refine tkH 1 ?_
   refine tkH 2 ?_
   refine tkH 3 ?_
   refine tkH 4 ?_
   refine tkH 5 ?_
   refine tkH 6 ?_
   refine tkH 7 ?_
   refine tkH 8 ?_
   refine tkL 9 ?_
   refine rdH 10 fun Kmac hKmac=>?_
   go_simp
   refine hcall.mono ?_;rintro e w2 ⟨rfl,K',hst⟩;have hcm:=HB.out.calm hst;have d2:w2.cell? ⟨w.heap.size,2,none⟩=some (.string (ofL x.a)):=(World.cell?_of_block (a:=⟨w.heap.size,2,none⟩) hcm.2.1).trans x2;have d3:w2.cell? ⟨w.heap.size,3,none⟩=some (.string (ofL x.sel)):=(World.cell?_of_block (a:=⟨w.heap.size,3,none⟩) hcm.2.1).trans x3;have d4:w2.cell? ⟨w.heap.size,4,none⟩=some (.string (ofL x.b)):=(World.cell?_of_block (a:=⟨w.heap.size,4,none⟩) hcm.2.1).trans x4;have d0:=hcm.2.2.1
   try go_wp2_with fail
   refine hKmac.go fun hHeld=>?_
   clear hKmac Kmac
   try refine lyH ?_
   have hmu:=must_ok w2
   refine rdH 11 fun Kmac hKmac=>?_
   go_simp
   refine hmu.mono ?_;rintro e w3 ⟨rfl,rfl⟩
   try go_wp2_with fail
   refine hKmac.go fun hHeld=>?_
   clear hKmac Kmac
   try refine lyH ?_
   refine wpAnyH_done (by kernel_rfl) ?_ _
   go_end0
   exact ⟨rfl,K',_,hcm.1⟩
 · rw [if_neg he]
   go_enter Tryz.func134,Tryz.ntmps134
   go_wp2_with fail
   rw [← hW1]
   clear hW1
   refine wp_region_held_drew (S:=(fun w'=>w'.cell? ⟨rb,0,none⟩=some (.pointer (some ⟨K.b,0,none⟩))∧w'.cell? ⟨w.heap.size,2,none⟩=some (.string (ofL x.a))∧w'.cell? ⟨w.heap.size,3,none⟩=some (.string (ofL x.sel))∧w'.cell? ⟨w.heap.size,4,none⟩=some (.string (ofL x.b)))) (by kernel_rfl) (by go_keep) (fun hHeld=>?_)
   refine tkH 0 ?_
   refine tkH 1 ?_
   refine tkH 2 ?_
   refine tkH 3 ?_
   refine tkH 4 ?_
   refine tkH 5 ?_
   refine tkH 6 ?_
   refine tkH 7 ?_
   refine tkH 8 ?_
   refine tkL 9 ?_
   refine rdH 10 fun Kmac hKmac=>?_
   go_simp
   refine hcall.mono ?_;rintro e w2 ⟨rfl,K',hst⟩;have hcm:=HB.out.calm hst;have d2:w2.cell? ⟨w.heap.size,2,none⟩=some (.string (ofL x.a)):=(World.cell?_of_block (a:=⟨w.heap.size,2,none⟩) hcm.2.1).trans x2;have d3:w2.cell? ⟨w.heap.size,3,none⟩=some (.string (ofL x.sel)):=(World.cell?_of_block (a:=⟨w.heap.size,3,none⟩) hcm.2.1).trans x3;have d4:w2.cell? ⟨w.heap.size,4,none⟩=some (.string (ofL x.b)):=(World.cell?_of_block (a:=⟨w.heap.size,4,none⟩) hcm.2.1).trans x4;have d0:=hcm.2.2.1
   try go_wp2_with fail
   refine hKmac.go fun hHeld=>?_
   clear hKmac Kmac
   try refine lyH ?_
   have hmu:=must_no e0 he w2
   refine rdH 11 fun Kmac hKmac=>?_
   go_simp
   refine hmu.mono ?_
   rintro e w3 ⟨rfl,rfl⟩
   exact ⟨rfl,rfl,K',hcm.1.stp⟩
end Go.Proofs.YtkghmgoefiepeaaGreatDoor.reads
