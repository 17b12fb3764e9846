import Derived.Test.YtkghmgoefiepeaaGreatDoorQ0
import Derived.Test.YtkghmgoefiepeaaGreatDoorQ34
import Derived.Test.YtkghmgoefiepeaaGreatDoorQ38
set_option linter.unusedSimpArgs false
set_option linter.unusedVariables false
set_option maxHeartbeats 4000000
set_option maxRecDepth 100000
namespace Go.Proofs.YtkghmgoefiepeaaGreatDoor.reads
open Go.ChangeShapes Go.WideShapes Go.ChangeAt Go.RowKit Kn Go.Proofs.YtkghmgoefiepeaaGreatDoor.img
theorem same_if {α:Type} (a b:Vl) (t:Bool→α):(if b.obj=a.obj then if b.n=a.n then t true else t false else t false)=t (decide (a=b)):=by
 obtain ⟨ao,an⟩:=a
 obtain ⟨bo,bn⟩:=b
 by_cases e1:bo=ao
 · by_cases e2:bn=an
   · subst e1 e2;simp
   · have e3:¬ an=bn:=fun e=>e2 e.symm
     subst e1;simp [e2,e3]
 · have e3:¬ ao=bo:=fun e=>e1 e.symm
   simp [e1,e3]
variable {w w0 : World}
variable {m m0 : Im}
variable {K K0 : Kd}
variable {Dd : Nat → Prop}
variable {bs : List (Nat × Nat)}
variable {fs : List Fr}
variable {f : Fr}
theorem do_same {rb:Nat}{fuel fb mk:Nat} (h:Sg Dd w0 m0 K0 rb w m K fuel ((fb,mk)::bs) (f::fs)) (h0:Glo w0) (x:Kn.W) (pl:Option Addr) (hk:x.k=61) {a b:Vl}{r:List Vl} (hst:f.st=b::a::r) :
 Calls Tryz.prog 123 #[.pointer (some ⟨rb,0,none⟩),wval x pl] w (WPost Dd w0 m0 K0 rb (wordM m fuel x f fs)):=by
 have hw:wordM m fuel x f fs=.on m fuel ({ f with st:=b2v (decide (a=b))::r }::fs):=by unfold wordM;simp [hk,hst]
 rw [hw]
 obtain ⟨W1,hW1⟩:∃ W1,W1=w.alloc (.cells (wcs x pl) 146):=⟨_,rfl⟩
 have B:=h.box x pl hW1
 have ct:=B.ct
 have l1:=B.l1
 have l2:=B.l2
 have hraw:=B.sg.frs.1.raw
 have h16:=hraw.s16
 rw [hst] at hraw h16
 simp only [List.length_cons] at h16
 have HB:Hid _:=B
 unfold wcs at hW1
 unfold wval wcs
 clear B h hw hk hst
 go_enter Tryz.func123,Tryz.ntmps123
 go_wp2_with fail
 rw [← hW1]
 clear hW1
 refine wp_region_noPanic ?_
 refine wp_region_held_drew (S:=(fun w'=>w'.cell? ⟨rb,24,none⟩=some (.pointer (some ⟨fb,0,none⟩)))) (by kernel_rfl) (by go_keep) (fun hHeld=>?_)
 refine tkH 0 ?_
 refine tkH 1 ?_
 refine tkH 2 ?_
 refine tkH 3 ?_
 refine tkH 5 ?_
 refine tkH 6 ?_
 refine tkH 7 ?_
 refine tkL 8 ?_
 obtain ⟨V0,hV0⟩:∃ V,V=W1.drew:=⟨_,rfl⟩
 rw [← hV0]
 have hc0:Chg W1 V0 (fun k=>k=fb):=by rw [hV0];exact (Chg.refl _ _).drew
 have fr0:FrRaw V0 fb (some ⟨mk,0,none⟩) (some ⟨K.cb f.home,0,none⟩) f.self f.args f.pc (b::a::r) (bs.head?.map (·.1)):=hraw.same (by rw [hV0];rfl)
 have ct0:V0.cell? ⟨rb,24,none⟩=some (.pointer (some ⟨fb,0,none⟩)):=by rw [hV0];exact ct
 have l0:rb < V0.heap.size:=by rw [hV0];exact l1
 clear hV0 hraw ct
 refine wpAnyH_ready (rs:=[4,10,11]) (by kernel_rfl) (by simp) ?_
 refine (AllReadyH.cons (o:=_) rfl (fun Kmac hKmac=>?Fx1) (AllReadyH.cons (o:=_) rfl (fun Kmac hKmac=>?Fx2) (AllReadyH.cons (o:=_) rfl (fun Kmac hKmac=>?Fx3) AllReadyH.nil)))
 case' Fx1 =>
  go_simp
  have htk:=take_any fr0;unfold Vl.val at htk;refine htk.mono ?_;clear htk;rintro e V1 ⟨rfl,fr1,hcc⟩;have ct1:V1.cell? ⟨rb,24,none⟩=some (.pointer (some ⟨fb,0,none⟩)):=(World.cell?_of_block (a:=⟨rb,24,none⟩) (hcc.block _ l0 HB.out.n1)).trans ct0
  try go_wp2_with fail
  refine hKmac.go fun hHeld=>?_
  clear hKmac Kmac
  try refine lyH ?_
  have hc1:Chg W1 V1 (fun k=>k=fb):=hc0.then hcc (fun k _ e=>e)
  have l1:rb < V1.heap.size:=Nat.lt_of_lt_of_le l0 hcc.size
  clear hcc
  refine wpAnyH_ready (rs:=[9,10,11]) (by kernel_rfl) (by simp) ?_
  refine (AllReadyH.cons (o:=_) rfl (fun Kmac hKmac=>?Fax1) (AllReadyH.cons (o:=_) rfl (fun Kmac hKmac=>?Fax2) (AllReadyH.cons (o:=_) rfl (fun Kmac hKmac=>?Fax3) AllReadyH.nil)))
  case' Fax1 =>
   go_simp
   have htk:=take_any fr1;unfold Vl.val at htk;refine htk.mono ?_;clear htk;rintro e V2 ⟨rfl,fr2,hcc⟩;have ct2:V2.cell? ⟨rb,24,none⟩=some (.pointer (some ⟨fb,0,none⟩)):=(World.cell?_of_block (a:=⟨rb,24,none⟩) (hcc.block _ l1 HB.out.n1)).trans ct1
   try go_wp2_with fail
   refine hKmac.go fun hHeld=>?_
   clear hKmac Kmac
   try refine lyH ?_
   have hc2:Chg W1 V2 (fun k=>k=fb):=hc1.then hcc (fun k _ e=>e)
   have l2:rb < V2.heap.size:=Nat.lt_of_lt_of_le l1 hcc.size
   clear hcc ct1 l1 fr1 hc1
   refine wpAnyH_ready (rs:=[10,11]) (by kernel_rfl) (by simp) ?_
   refine (AllReadyH.cons (o:=_) rfl (fun Kmac hKmac=>?Fabx1) (AllReadyH.cons (o:=_) rfl (fun Kmac hKmac=>?Fabx2) AllReadyH.nil))
   case' Fabx1 =>
    go_simp
    refine hKmac.go fun hHeld=>?_
    clear hKmac Kmac
    try refine lyH ?_
    obtain ⟨V3,hV3⟩:∃ V,V=V2.alloc (.cells #[.bool false,.int .i64 0] 33):=⟨_,rfl⟩
    obtain ⟨z10,hz10⟩:∃ z,z=V2.heap.size:=⟨_,rfl⟩
    rw [← hV3,← hz10]
    have hB3:Below V2.heap.size V2 V3:=by rw [hV3];exact (Below.refl _ _).alloc (Nat.le_refl _) _
    have hy10:V3.heap[z10]?=some (.cells #[.bool false,.int .i64 0] 33):=by rw [hV3,hz10];exact (MapKept.heap_alloc _ _).1
    have hw10:W1.heap.size≤z10:=by rw [hz10];exact hc2.size
    have hc3:Chg W1 V3 (fun k=>k=fb):=hc2.then (Chg.of_below hB3 (fun _=>False)) (fun _ _ e=>e.elim)
    have fr3:FrRaw V3 fb (some ⟨mk,0,none⟩) (some ⟨K.cb f.home,0,none⟩) f.self f.args f.pc r (bs.head?.map (·.1)):=fr2.same (hB3.block fb fr2.cel.lt)
    have ct3:V3.cell? ⟨rb,24,none⟩=some (.pointer (some ⟨fb,0,none⟩)):=(hB3.cell (p:=⟨rb,24,none⟩) l2).trans ct2
    have l3:rb < V3.heap.size:=Nat.lt_of_lt_of_le l2 hB3.size
    clear hV3 hB3 ct2 l2 fr2 hc2
    clear hz10
    have hlt:z10 < V3.heap.size:=(Array.getElem?_eq_some_iff.1 hy10).1
    refine rdH 11 fun Kmac hKmac=>?_
    go_simp
    refine hKmac.go fun hHeld=>?_
    clear hKmac Kmac
    try refine lyH ?_
    obtain ⟨V4,hV4⟩:∃ V,V=V3.alloc (.cells #[.bool false,.int .i64 0] 33):=⟨_,rfl⟩
    obtain ⟨z11,hz11⟩:∃ z,z=V3.heap.size:=⟨_,rfl⟩
    rw [← hV4,← hz11]
    have hB4:Below V3.heap.size V3 V4:=by rw [hV4];exact (Below.refl _ _).alloc (Nat.le_refl _) _
    have hy11:V4.heap[z11]?=some (.cells #[.bool false,.int .i64 0] 33):=by rw [hV4,hz11];exact (MapKept.heap_alloc _ _).1
    have hw11:W1.heap.size≤z11:=by rw [hz11];exact hc3.size
    have hc4:Chg W1 V4 (fun k=>k=fb):=hc3.then (Chg.of_below hB4 (fun _=>False)) (fun _ _ e=>e.elim)
    have fr4:FrRaw V4 fb (some ⟨mk,0,none⟩) (some ⟨K.cb f.home,0,none⟩) f.self f.args f.pc r (bs.head?.map (·.1)):=fr3.same (hB4.block fb fr3.cel.lt)
    have ct4:V4.cell? ⟨rb,24,none⟩=some (.pointer (some ⟨fb,0,none⟩)):=(hB4.cell (p:=⟨rb,24,none⟩) l3).trans ct3
    have l4:rb < V4.heap.size:=Nat.lt_of_lt_of_le l3 hB4.size
    have hy10:V4.heap[z10]?=some (.cells #[.bool false,.int .i64 0] 33):=(hB4.block z10 (Array.getElem?_eq_some_iff.1 hy10).1).trans hy10
    clear hV4 hB4 ct3 l3 fr3 hc3
    rw [← hz11] at hlt
    clear hz11
    refine ?lf
   case' Fabx2 =>
    go_simp
    refine hKmac.go fun hHeld=>?_
    clear hKmac Kmac
    try refine lyH ?_
    obtain ⟨V3,hV3⟩:∃ V,V=V2.alloc (.cells #[.bool false,.int .i64 0] 33):=⟨_,rfl⟩
    obtain ⟨z11,hz11⟩:∃ z,z=V2.heap.size:=⟨_,rfl⟩
    rw [← hV3,← hz11]
    have hB3:Below V2.heap.size V2 V3:=by rw [hV3];exact (Below.refl _ _).alloc (Nat.le_refl _) _
    have hy11:V3.heap[z11]?=some (.cells #[.bool false,.int .i64 0] 33):=by rw [hV3,hz11];exact (MapKept.heap_alloc _ _).1
    have hw11:W1.heap.size≤z11:=by rw [hz11];exact hc2.size
    have hc3:Chg W1 V3 (fun k=>k=fb):=hc2.then (Chg.of_below hB3 (fun _=>False)) (fun _ _ e=>e.elim)
    have fr3:FrRaw V3 fb (some ⟨mk,0,none⟩) (some ⟨K.cb f.home,0,none⟩) f.self f.args f.pc r (bs.head?.map (·.1)):=fr2.same (hB3.block fb fr2.cel.lt)
    have ct3:V3.cell? ⟨rb,24,none⟩=some (.pointer (some ⟨fb,0,none⟩)):=(hB3.cell (p:=⟨rb,24,none⟩) l2).trans ct2
    have l3:rb < V3.heap.size:=Nat.lt_of_lt_of_le l2 hB3.size
    clear hV3 hB3 ct2 l2 fr2 hc2
    clear hz11
    have hlt:z11 < V3.heap.size:=(Array.getElem?_eq_some_iff.1 hy11).1
    refine rdH 10 fun Kmac hKmac=>?_
    go_simp
    refine hKmac.go fun hHeld=>?_
    clear hKmac Kmac
    try refine lyH ?_
    obtain ⟨V4,hV4⟩:∃ V,V=V3.alloc (.cells #[.bool false,.int .i64 0] 33):=⟨_,rfl⟩
    obtain ⟨z10,hz10⟩:∃ z,z=V3.heap.size:=⟨_,rfl⟩
    rw [← hV4,← hz10]
    have hB4:Below V3.heap.size V3 V4:=by rw [hV4];exact (Below.refl _ _).alloc (Nat.le_refl _) _
    have hy10:V4.heap[z10]?=some (.cells #[.bool false,.int .i64 0] 33):=by rw [hV4,hz10];exact (MapKept.heap_alloc _ _).1
    have hw10:W1.heap.size≤z10:=by rw [hz10];exact hc3.size
    have hc4:Chg W1 V4 (fun k=>k=fb):=hc3.then (Chg.of_below hB4 (fun _=>False)) (fun _ _ e=>e.elim)
    have fr4:FrRaw V4 fb (some ⟨mk,0,none⟩) (some ⟨K.cb f.home,0,none⟩) f.self f.args f.pc r (bs.head?.map (·.1)):=fr3.same (hB4.block fb fr3.cel.lt)
    have ct4:V4.cell? ⟨rb,24,none⟩=some (.pointer (some ⟨fb,0,none⟩)):=(hB4.cell (p:=⟨rb,24,none⟩) l3).trans ct3
    have l4:rb < V4.heap.size:=Nat.lt_of_lt_of_le l3 hB4.size
    have hy11:V4.heap[z11]?=some (.cells #[.bool false,.int .i64 0] 33):=(hB4.block z11 (Array.getElem?_eq_some_iff.1 hy11).1).trans hy11
    clear hV4 hB4 ct3 l3 fr3 hc3
    rw [← hz10] at hlt
    clear hz10
    refine ?lf
  case' Fax2 =>
   go_simp
   refine hKmac.go fun hHeld=>?_
   clear hKmac Kmac
   try refine lyH ?_
   obtain ⟨V2,hV2⟩:∃ V,V=V1.alloc (.cells #[.bool false,.int .i64 0] 33):=⟨_,rfl⟩
   obtain ⟨z10,hz10⟩:∃ z,z=V1.heap.size:=⟨_,rfl⟩
   rw [← hV2,← hz10]
   have hB2:Below V1.heap.size V1 V2:=by rw [hV2];exact (Below.refl _ _).alloc (Nat.le_refl _) _
   have hy10:V2.heap[z10]?=some (.cells #[.bool false,.int .i64 0] 33):=by rw [hV2,hz10];exact (MapKept.heap_alloc _ _).1
   have hw10:W1.heap.size≤z10:=by rw [hz10];exact hc1.size
   have hc2:Chg W1 V2 (fun k=>k=fb):=hc1.then (Chg.of_below hB2 (fun _=>False)) (fun _ _ e=>e.elim)
   have fr2:FrRaw V2 fb (some ⟨mk,0,none⟩) (some ⟨K.cb f.home,0,none⟩) f.self f.args f.pc (a::r) (bs.head?.map (·.1)):=fr1.same (hB2.block fb fr1.cel.lt)
   have ct2:V2.cell? ⟨rb,24,none⟩=some (.pointer (some ⟨fb,0,none⟩)):=(hB2.cell (p:=⟨rb,24,none⟩) l1).trans ct1
   have l2:rb < V2.heap.size:=Nat.lt_of_lt_of_le l1 hB2.size
   clear hV2 hB2 ct1 l1 fr1 hc1
   clear hz10
   refine wpAnyH_ready (rs:=[9,11]) (by kernel_rfl) (by simp) ?_
   refine (AllReadyH.cons (o:=_) rfl (fun Kmac hKmac=>?Facx1) (AllReadyH.cons (o:=_) rfl (fun Kmac hKmac=>?Facx2) AllReadyH.nil))
   case' Facx1 =>
    go_simp
    have htk:=take_any fr2;unfold Vl.val at htk;refine htk.mono ?_;clear htk;rintro e V3 ⟨rfl,fr3,hcc⟩;have ct3:V3.cell? ⟨rb,24,none⟩=some (.pointer (some ⟨fb,0,none⟩)):=(World.cell?_of_block (a:=⟨rb,24,none⟩) (hcc.block _ l2 HB.out.n1)).trans ct2
    try go_wp2_with fail
    refine hKmac.go fun hHeld=>?_
    clear hKmac Kmac
    try refine lyH ?_
    have hc3:Chg W1 V3 (fun k=>k=fb):=hc2.then hcc (fun k _ e=>e)
    have l3:rb < V3.heap.size:=Nat.lt_of_lt_of_le l2 hcc.size
    have hy10:V3.heap[z10]?=some (.cells #[.bool false,.int .i64 0] 33):=(hcc.block z10 (Array.getElem?_eq_some_iff.1 hy10).1 (by omega)).trans hy10
    clear hcc ct2 l2 fr2 hc2
    have hlt:z10 < V3.heap.size:=(Array.getElem?_eq_some_iff.1 hy10).1
    refine rdH 11 fun Kmac hKmac=>?_
    go_simp
    refine hKmac.go fun hHeld=>?_
    clear hKmac Kmac
    try refine lyH ?_
    obtain ⟨V4,hV4⟩:∃ V,V=V3.alloc (.cells #[.bool false,.int .i64 0] 33):=⟨_,rfl⟩
    obtain ⟨z11,hz11⟩:∃ z,z=V3.heap.size:=⟨_,rfl⟩
    rw [← hV4,← hz11]
    have hB4:Below V3.heap.size V3 V4:=by rw [hV4];exact (Below.refl _ _).alloc (Nat.le_refl _) _
    have hy11:V4.heap[z11]?=some (.cells #[.bool false,.int .i64 0] 33):=by rw [hV4,hz11];exact (MapKept.heap_alloc _ _).1
    have hw11:W1.heap.size≤z11:=by rw [hz11];exact hc3.size
    have hc4:Chg W1 V4 (fun k=>k=fb):=hc3.then (Chg.of_below hB4 (fun _=>False)) (fun _ _ e=>e.elim)
    have fr4:FrRaw V4 fb (some ⟨mk,0,none⟩) (some ⟨K.cb f.home,0,none⟩) f.self f.args f.pc r (bs.head?.map (·.1)):=fr3.same (hB4.block fb fr3.cel.lt)
    have ct4:V4.cell? ⟨rb,24,none⟩=some (.pointer (some ⟨fb,0,none⟩)):=(hB4.cell (p:=⟨rb,24,none⟩) l3).trans ct3
    have l4:rb < V4.heap.size:=Nat.lt_of_lt_of_le l3 hB4.size
    have hy10:V4.heap[z10]?=some (.cells #[.bool false,.int .i64 0] 33):=(hB4.block z10 (Array.getElem?_eq_some_iff.1 hy10).1).trans hy10
    clear hV4 hB4 ct3 l3 fr3 hc3
    rw [← hz11] at hlt
    clear hz11
    refine ?lf
   case' Facx2 =>
    have hlt:z10 < V2.heap.size:=(Array.getElem?_eq_some_iff.1 hy10).1
    go_simp
    refine hKmac.go fun hHeld=>?_
    clear hKmac Kmac
    try refine lyH ?_
    obtain ⟨V3,hV3⟩:∃ V,V=V2.alloc (.cells #[.bool false,.int .i64 0] 33):=⟨_,rfl⟩
    obtain ⟨z11,hz11⟩:∃ z,z=V2.heap.size:=⟨_,rfl⟩
    rw [← hV3,← hz11]
    have hB3:Below V2.heap.size V2 V3:=by rw [hV3];exact (Below.refl _ _).alloc (Nat.le_refl _) _
    have hy11:V3.heap[z11]?=some (.cells #[.bool false,.int .i64 0] 33):=by rw [hV3,hz11];exact (MapKept.heap_alloc _ _).1
    have hw11:W1.heap.size≤z11:=by rw [hz11];exact hc2.size
    have hc3:Chg W1 V3 (fun k=>k=fb):=hc2.then (Chg.of_below hB3 (fun _=>False)) (fun _ _ e=>e.elim)
    have fr3:FrRaw V3 fb (some ⟨mk,0,none⟩) (some ⟨K.cb f.home,0,none⟩) f.self f.args f.pc (a::r) (bs.head?.map (·.1)):=fr2.same (hB3.block fb fr2.cel.lt)
    have ct3:V3.cell? ⟨rb,24,none⟩=some (.pointer (some ⟨fb,0,none⟩)):=(hB3.cell (p:=⟨rb,24,none⟩) l2).trans ct2
    have l3:rb < V3.heap.size:=Nat.lt_of_lt_of_le l2 hB3.size
    have hy10:V3.heap[z10]?=some (.cells #[.bool false,.int .i64 0] 33):=(hB3.block z10 (Array.getElem?_eq_some_iff.1 hy10).1).trans hy10
    clear hV3 hB3 ct2 l2 fr2 hc2
    rw [← hz11] at hlt
    clear hz11
    refine rdH 9 fun Kmac hKmac=>?_
    go_simp
    have htk:=take_any fr3;unfold Vl.val at htk;refine htk.mono ?_;clear htk;rintro e V4 ⟨rfl,fr4,hcc⟩;have ct4:V4.cell? ⟨rb,24,none⟩=some (.pointer (some ⟨fb,0,none⟩)):=(World.cell?_of_block (a:=⟨rb,24,none⟩) (hcc.block _ l3 HB.out.n1)).trans ct3
    try go_wp2_with fail
    refine hKmac.go fun hHeld=>?_
    clear hKmac Kmac
    try refine lyH ?_
    have hc4:Chg W1 V4 (fun k=>k=fb):=hc3.then hcc (fun k _ e=>e)
    have l4:rb < V4.heap.size:=Nat.lt_of_lt_of_le l3 hcc.size
    have hy10:V4.heap[z10]?=some (.cells #[.bool false,.int .i64 0] 33):=(hcc.block z10 (Array.getElem?_eq_some_iff.1 hy10).1 (by omega)).trans hy10
    have hy11:V4.heap[z11]?=some (.cells #[.bool false,.int .i64 0] 33):=(hcc.block z11 (Array.getElem?_eq_some_iff.1 hy11).1 (by omega)).trans hy11
    clear hcc ct3 l3 fr3 hc3
    refine ?lf
  case' Fax3 =>
   go_simp
   refine hKmac.go fun hHeld=>?_
   clear hKmac Kmac
   try refine lyH ?_
   obtain ⟨V2,hV2⟩:∃ V,V=V1.alloc (.cells #[.bool false,.int .i64 0] 33):=⟨_,rfl⟩
   obtain ⟨z11,hz11⟩:∃ z,z=V1.heap.size:=⟨_,rfl⟩
   rw [← hV2,← hz11]
   have hB2:Below V1.heap.size V1 V2:=by rw [hV2];exact (Below.refl _ _).alloc (Nat.le_refl _) _
   have hy11:V2.heap[z11]?=some (.cells #[.bool false,.int .i64 0] 33):=by rw [hV2,hz11];exact (MapKept.heap_alloc _ _).1
   have hw11:W1.heap.size≤z11:=by rw [hz11];exact hc1.size
   have hc2:Chg W1 V2 (fun k=>k=fb):=hc1.then (Chg.of_below hB2 (fun _=>False)) (fun _ _ e=>e.elim)
   have fr2:FrRaw V2 fb (some ⟨mk,0,none⟩) (some ⟨K.cb f.home,0,none⟩) f.self f.args f.pc (a::r) (bs.head?.map (·.1)):=fr1.same (hB2.block fb fr1.cel.lt)
   have ct2:V2.cell? ⟨rb,24,none⟩=some (.pointer (some ⟨fb,0,none⟩)):=(hB2.cell (p:=⟨rb,24,none⟩) l1).trans ct1
   have l2:rb < V2.heap.size:=Nat.lt_of_lt_of_le l1 hB2.size
   clear hV2 hB2 ct1 l1 fr1 hc1
   clear hz11
   refine wpAnyH_ready (rs:=[9,10]) (by kernel_rfl) (by simp) ?_
   refine (AllReadyH.cons (o:=_) rfl (fun Kmac hKmac=>?Fadx1) (AllReadyH.cons (o:=_) rfl (fun Kmac hKmac=>?Fadx2) AllReadyH.nil))
   case' Fadx1 =>
    go_simp
    have htk:=take_any fr2;unfold Vl.val at htk;refine htk.mono ?_;clear htk;rintro e V3 ⟨rfl,fr3,hcc⟩;have ct3:V3.cell? ⟨rb,24,none⟩=some (.pointer (some ⟨fb,0,none⟩)):=(World.cell?_of_block (a:=⟨rb,24,none⟩) (hcc.block _ l2 HB.out.n1)).trans ct2
    try go_wp2_with fail
    refine hKmac.go fun hHeld=>?_
    clear hKmac Kmac
    try refine lyH ?_
    have hc3:Chg W1 V3 (fun k=>k=fb):=hc2.then hcc (fun k _ e=>e)
    have l3:rb < V3.heap.size:=Nat.lt_of_lt_of_le l2 hcc.size
    have hy11:V3.heap[z11]?=some (.cells #[.bool false,.int .i64 0] 33):=(hcc.block z11 (Array.getElem?_eq_some_iff.1 hy11).1 (by omega)).trans hy11
    clear hcc ct2 l2 fr2 hc2
    have hlt:z11 < V3.heap.size:=(Array.getElem?_eq_some_iff.1 hy11).1
    refine rdH 10 fun Kmac hKmac=>?_
    go_simp
    refine hKmac.go fun hHeld=>?_
    clear hKmac Kmac
    try refine lyH ?_
    obtain ⟨V4,hV4⟩:∃ V,V=V3.alloc (.cells #[.bool false,.int .i64 0] 33):=⟨_,rfl⟩
    obtain ⟨z10,hz10⟩:∃ z,z=V3.heap.size:=⟨_,rfl⟩
    rw [← hV4,← hz10]
    have hB4:Below V3.heap.size V3 V4:=by rw [hV4];exact (Below.refl _ _).alloc (Nat.le_refl _) _
    have hy10:V4.heap[z10]?=some (.cells #[.bool false,.int .i64 0] 33):=by rw [hV4,hz10];exact (MapKept.heap_alloc _ _).1
    have hw10:W1.heap.size≤z10:=by rw [hz10];exact hc3.size
    have hc4:Chg W1 V4 (fun k=>k=fb):=hc3.then (Chg.of_below hB4 (fun _=>False)) (fun _ _ e=>e.elim)
    have fr4:FrRaw V4 fb (some ⟨mk,0,none⟩) (some ⟨K.cb f.home,0,none⟩) f.self f.args f.pc r (bs.head?.map (·.1)):=fr3.same (hB4.block fb fr3.cel.lt)
    have ct4:V4.cell? ⟨rb,24,none⟩=some (.pointer (some ⟨fb,0,none⟩)):=(hB4.cell (p:=⟨rb,24,none⟩) l3).trans ct3
    have l4:rb < V4.heap.size:=Nat.lt_of_lt_of_le l3 hB4.size
    have hy11:V4.heap[z11]?=some (.cells #[.bool false,.int .i64 0] 33):=(hB4.block z11 (Array.getElem?_eq_some_iff.1 hy11).1).trans hy11
    clear hV4 hB4 ct3 l3 fr3 hc3
    rw [← hz10] at hlt
    clear hz10
    refine ?lf
   case' Fadx2 =>
    have hlt:z11 < V2.heap.size:=(Array.getElem?_eq_some_iff.1 hy11).1
    go_simp
    refine hKmac.go fun hHeld=>?_
    clear hKmac Kmac
    try refine lyH ?_
    obtain ⟨V3,hV3⟩:∃ V,V=V2.alloc (.cells #[.bool false,.int .i64 0] 33):=⟨_,rfl⟩
    obtain ⟨z10,hz10⟩:∃ z,z=V2.heap.size:=⟨_,rfl⟩
    rw [← hV3,← hz10]
    have hB3:Below V2.heap.size V2 V3:=by rw [hV3];exact (Below.refl _ _).alloc (Nat.le_refl _) _
    have hy10:V3.heap[z10]?=some (.cells #[.bool false,.int .i64 0] 33):=by rw [hV3,hz10];exact (MapKept.heap_alloc _ _).1
    have hw10:W1.heap.size≤z10:=by rw [hz10];exact hc2.size
    have hc3:Chg W1 V3 (fun k=>k=fb):=hc2.then (Chg.of_below hB3 (fun _=>False)) (fun _ _ e=>e.elim)
    have fr3:FrRaw V3 fb (some ⟨mk,0,none⟩) (some ⟨K.cb f.home,0,none⟩) f.self f.args f.pc (a::r) (bs.head?.map (·.1)):=fr2.same (hB3.block fb fr2.cel.lt)
    have ct3:V3.cell? ⟨rb,24,none⟩=some (.pointer (some ⟨fb,0,none⟩)):=(hB3.cell (p:=⟨rb,24,none⟩) l2).trans ct2
    have l3:rb < V3.heap.size:=Nat.lt_of_lt_of_le l2 hB3.size
    have hy11:V3.heap[z11]?=some (.cells #[.bool false,.int .i64 0] 33):=(hB3.block z11 (Array.getElem?_eq_some_iff.1 hy11).1).trans hy11
    clear hV3 hB3 ct2 l2 fr2 hc2
    rw [← hz10] at hlt
    clear hz10
    refine rdH 9 fun Kmac hKmac=>?_
    go_simp
    have htk:=take_any fr3;unfold Vl.val at htk;refine htk.mono ?_;clear htk;rintro e V4 ⟨rfl,fr4,hcc⟩;have ct4:V4.cell? ⟨rb,24,none⟩=some (.pointer (some ⟨fb,0,none⟩)):=(World.cell?_of_block (a:=⟨rb,24,none⟩) (hcc.block _ l3 HB.out.n1)).trans ct3
    try go_wp2_with fail
    refine hKmac.go fun hHeld=>?_
    clear hKmac Kmac
    try refine lyH ?_
    have hc4:Chg W1 V4 (fun k=>k=fb):=hc3.then hcc (fun k _ e=>e)
    have l4:rb < V4.heap.size:=Nat.lt_of_lt_of_le l3 hcc.size
    have hy10:V4.heap[z10]?=some (.cells #[.bool false,.int .i64 0] 33):=(hcc.block z10 (Array.getElem?_eq_some_iff.1 hy10).1 (by omega)).trans hy10
    have hy11:V4.heap[z11]?=some (.cells #[.bool false,.int .i64 0] 33):=(hcc.block z11 (Array.getElem?_eq_some_iff.1 hy11).1 (by omega)).trans hy11
    clear hcc ct3 l3 fr3 hc3
    refine ?lf
 case' Fx2 =>
  go_simp
  refine hKmac.go fun hHeld=>?_
  clear hKmac Kmac
  try refine lyH ?_
  obtain ⟨V1,hV1⟩:∃ V,V=V0.alloc (.cells #[.bool false,.int .i64 0] 33):=⟨_,rfl⟩
  obtain ⟨z10,hz10⟩:∃ z,z=V0.heap.size:=⟨_,rfl⟩
  rw [← hV1,← hz10]
  have hB1:Below V0.heap.size V0 V1:=by rw [hV1];exact (Below.refl _ _).alloc (Nat.le_refl _) _
  have hy10:V1.heap[z10]?=some (.cells #[.bool false,.int .i64 0] 33):=by rw [hV1,hz10];exact (MapKept.heap_alloc _ _).1
  have hw10:W1.heap.size≤z10:=by rw [hz10];exact hc0.size
  have hc1:Chg W1 V1 (fun k=>k=fb):=hc0.then (Chg.of_below hB1 (fun _=>False)) (fun _ _ e=>e.elim)
  have fr1:FrRaw V1 fb (some ⟨mk,0,none⟩) (some ⟨K.cb f.home,0,none⟩) f.self f.args f.pc (b::a::r) (bs.head?.map (·.1)):=fr0.same (hB1.block fb fr0.cel.lt)
  have ct1:V1.cell? ⟨rb,24,none⟩=some (.pointer (some ⟨fb,0,none⟩)):=(hB1.cell (p:=⟨rb,24,none⟩) l0).trans ct0
  have l1:rb < V1.heap.size:=Nat.lt_of_lt_of_le l0 hB1.size
  clear hV1 hB1
  clear hz10
  refine wpAnyH_ready (rs:=[4,11]) (by kernel_rfl) (by simp) ?_
  refine (AllReadyH.cons (o:=_) rfl (fun Kmac hKmac=>?Fcx1) (AllReadyH.cons (o:=_) rfl (fun Kmac hKmac=>?Fcx2) AllReadyH.nil))
  case' Fcx1 =>
   go_simp
   have htk:=take_any fr1;unfold Vl.val at htk;refine htk.mono ?_;clear htk;rintro e V2 ⟨rfl,fr2,hcc⟩;have ct2:V2.cell? ⟨rb,24,none⟩=some (.pointer (some ⟨fb,0,none⟩)):=(World.cell?_of_block (a:=⟨rb,24,none⟩) (hcc.block _ l1 HB.out.n1)).trans ct1
   try go_wp2_with fail
   refine hKmac.go fun hHeld=>?_
   clear hKmac Kmac
   try refine lyH ?_
   have hc2:Chg W1 V2 (fun k=>k=fb):=hc1.then hcc (fun k _ e=>e)
   have l2:rb < V2.heap.size:=Nat.lt_of_lt_of_le l1 hcc.size
   have hy10:V2.heap[z10]?=some (.cells #[.bool false,.int .i64 0] 33):=(hcc.block z10 (Array.getElem?_eq_some_iff.1 hy10).1 (by omega)).trans hy10
   clear hcc ct1 l1 fr1 hc1
   refine wpAnyH_ready (rs:=[9,11]) (by kernel_rfl) (by simp) ?_
   refine (AllReadyH.cons (o:=_) rfl (fun Kmac hKmac=>?Fcax1) (AllReadyH.cons (o:=_) rfl (fun Kmac hKmac=>?Fcax2) AllReadyH.nil))
   case' Fcax1 =>
    go_simp
    have htk:=take_any fr2;unfold Vl.val at htk;refine htk.mono ?_;clear htk;rintro e V3 ⟨rfl,fr3,hcc⟩;have ct3:V3.cell? ⟨rb,24,none⟩=some (.pointer (some ⟨fb,0,none⟩)):=(World.cell?_of_block (a:=⟨rb,24,none⟩) (hcc.block _ l2 HB.out.n1)).trans ct2
    try go_wp2_with fail
    refine hKmac.go fun hHeld=>?_
    clear hKmac Kmac
    try refine lyH ?_
    have hc3:Chg W1 V3 (fun k=>k=fb):=hc2.then hcc (fun k _ e=>e)
    have l3:rb < V3.heap.size:=Nat.lt_of_lt_of_le l2 hcc.size
    have hy10:V3.heap[z10]?=some (.cells #[.bool false,.int .i64 0] 33):=(hcc.block z10 (Array.getElem?_eq_some_iff.1 hy10).1 (by omega)).trans hy10
    clear hcc ct2 l2 fr2 hc2
    have hlt:z10 < V3.heap.size:=(Array.getElem?_eq_some_iff.1 hy10).1
    refine rdH 11 fun Kmac hKmac=>?_
    go_simp
    refine hKmac.go fun hHeld=>?_
    clear hKmac Kmac
    try refine lyH ?_
    obtain ⟨V4,hV4⟩:∃ V,V=V3.alloc (.cells #[.bool false,.int .i64 0] 33):=⟨_,rfl⟩
    obtain ⟨z11,hz11⟩:∃ z,z=V3.heap.size:=⟨_,rfl⟩
    rw [← hV4,← hz11]
    have hB4:Below V3.heap.size V3 V4:=by rw [hV4];exact (Below.refl _ _).alloc (Nat.le_refl _) _
    have hy11:V4.heap[z11]?=some (.cells #[.bool false,.int .i64 0] 33):=by rw [hV4,hz11];exact (MapKept.heap_alloc _ _).1
    have hw11:W1.heap.size≤z11:=by rw [hz11];exact hc3.size
    have hc4:Chg W1 V4 (fun k=>k=fb):=hc3.then (Chg.of_below hB4 (fun _=>False)) (fun _ _ e=>e.elim)
    have fr4:FrRaw V4 fb (some ⟨mk,0,none⟩) (some ⟨K.cb f.home,0,none⟩) f.self f.args f.pc r (bs.head?.map (·.1)):=fr3.same (hB4.block fb fr3.cel.lt)
    have ct4:V4.cell? ⟨rb,24,none⟩=some (.pointer (some ⟨fb,0,none⟩)):=(hB4.cell (p:=⟨rb,24,none⟩) l3).trans ct3
    have l4:rb < V4.heap.size:=Nat.lt_of_lt_of_le l3 hB4.size
    have hy10:V4.heap[z10]?=some (.cells #[.bool false,.int .i64 0] 33):=(hB4.block z10 (Array.getElem?_eq_some_iff.1 hy10).1).trans hy10
    clear hV4 hB4 ct3 l3 fr3 hc3
    rw [← hz11] at hlt
    clear hz11
    refine ?lf
   case' Fcax2 =>
    have hlt:z10 < V2.heap.size:=(Array.getElem?_eq_some_iff.1 hy10).1
    go_simp
    refine hKmac.go fun hHeld=>?_
    clear hKmac Kmac
    try refine lyH ?_
    obtain ⟨V3,hV3⟩:∃ V,V=V2.alloc (.cells #[.bool false,.int .i64 0] 33):=⟨_,rfl⟩
    obtain ⟨z11,hz11⟩:∃ z,z=V2.heap.size:=⟨_,rfl⟩
    rw [← hV3,← hz11]
    have hB3:Below V2.heap.size V2 V3:=by rw [hV3];exact (Below.refl _ _).alloc (Nat.le_refl _) _
    have hy11:V3.heap[z11]?=some (.cells #[.bool false,.int .i64 0] 33):=by rw [hV3,hz11];exact (MapKept.heap_alloc _ _).1
    have hw11:W1.heap.size≤z11:=by rw [hz11];exact hc2.size
    have hc3:Chg W1 V3 (fun k=>k=fb):=hc2.then (Chg.of_below hB3 (fun _=>False)) (fun _ _ e=>e.elim)
    have fr3:FrRaw V3 fb (some ⟨mk,0,none⟩) (some ⟨K.cb f.home,0,none⟩) f.self f.args f.pc (a::r) (bs.head?.map (·.1)):=fr2.same (hB3.block fb fr2.cel.lt)
    have ct3:V3.cell? ⟨rb,24,none⟩=some (.pointer (some ⟨fb,0,none⟩)):=(hB3.cell (p:=⟨rb,24,none⟩) l2).trans ct2
    have l3:rb < V3.heap.size:=Nat.lt_of_lt_of_le l2 hB3.size
    have hy10:V3.heap[z10]?=some (.cells #[.bool false,.int .i64 0] 33):=(hB3.block z10 (Array.getElem?_eq_some_iff.1 hy10).1).trans hy10
    clear hV3 hB3 ct2 l2 fr2 hc2
    rw [← hz11] at hlt
    clear hz11
    refine rdH 9 fun Kmac hKmac=>?_
    go_simp
    have htk:=take_any fr3;unfold Vl.val at htk;refine htk.mono ?_;clear htk;rintro e V4 ⟨rfl,fr4,hcc⟩;have ct4:V4.cell? ⟨rb,24,none⟩=some (.pointer (some ⟨fb,0,none⟩)):=(World.cell?_of_block (a:=⟨rb,24,none⟩) (hcc.block _ l3 HB.out.n1)).trans ct3
    try go_wp2_with fail
    refine hKmac.go fun hHeld=>?_
    clear hKmac Kmac
    try refine lyH ?_
    have hc4:Chg W1 V4 (fun k=>k=fb):=hc3.then hcc (fun k _ e=>e)
    have l4:rb < V4.heap.size:=Nat.lt_of_lt_of_le l3 hcc.size
    have hy10:V4.heap[z10]?=some (.cells #[.bool false,.int .i64 0] 33):=(hcc.block z10 (Array.getElem?_eq_some_iff.1 hy10).1 (by omega)).trans hy10
    have hy11:V4.heap[z11]?=some (.cells #[.bool false,.int .i64 0] 33):=(hcc.block z11 (Array.getElem?_eq_some_iff.1 hy11).1 (by omega)).trans hy11
    clear hcc ct3 l3 fr3 hc3
    refine ?lf
  case' Fcx2 =>
   have hlt:z10 < V1.heap.size:=(Array.getElem?_eq_some_iff.1 hy10).1
   go_simp
   refine hKmac.go fun hHeld=>?_
   clear hKmac Kmac
   try refine lyH ?_
   obtain ⟨V2,hV2⟩:∃ V,V=V1.alloc (.cells #[.bool false,.int .i64 0] 33):=⟨_,rfl⟩
   obtain ⟨z11,hz11⟩:∃ z,z=V1.heap.size:=⟨_,rfl⟩
   rw [← hV2,← hz11]
   have hB2:Below V1.heap.size V1 V2:=by rw [hV2];exact (Below.refl _ _).alloc (Nat.le_refl _) _
   have hy11:V2.heap[z11]?=some (.cells #[.bool false,.int .i64 0] 33):=by rw [hV2,hz11];exact (MapKept.heap_alloc _ _).1
   have hw11:W1.heap.size≤z11:=by rw [hz11];exact hc1.size
   have hc2:Chg W1 V2 (fun k=>k=fb):=hc1.then (Chg.of_below hB2 (fun _=>False)) (fun _ _ e=>e.elim)
   have fr2:FrRaw V2 fb (some ⟨mk,0,none⟩) (some ⟨K.cb f.home,0,none⟩) f.self f.args f.pc (b::a::r) (bs.head?.map (·.1)):=fr1.same (hB2.block fb fr1.cel.lt)
   have ct2:V2.cell? ⟨rb,24,none⟩=some (.pointer (some ⟨fb,0,none⟩)):=(hB2.cell (p:=⟨rb,24,none⟩) l1).trans ct1
   have l2:rb < V2.heap.size:=Nat.lt_of_lt_of_le l1 hB2.size
   have hy10:V2.heap[z10]?=some (.cells #[.bool false,.int .i64 0] 33):=(hB2.block z10 (Array.getElem?_eq_some_iff.1 hy10).1).trans hy10
   clear hV2 hB2 ct1 l1 fr1 hc1
   rw [← hz11] at hlt
   clear hz11
   refine rdH 4 fun Kmac hKmac=>?_
   go_simp
   have htk:=take_any fr2;unfold Vl.val at htk;refine htk.mono ?_;clear htk;rintro e V3 ⟨rfl,fr3,hcc⟩;have ct3:V3.cell? ⟨rb,24,none⟩=some (.pointer (some ⟨fb,0,none⟩)):=(World.cell?_of_block (a:=⟨rb,24,none⟩) (hcc.block _ l2 HB.out.n1)).trans ct2
   try go_wp2_with fail
   refine hKmac.go fun hHeld=>?_
   clear hKmac Kmac
   try refine lyH ?_
   have hc3:Chg W1 V3 (fun k=>k=fb):=hc2.then hcc (fun k _ e=>e)
   have l3:rb < V3.heap.size:=Nat.lt_of_lt_of_le l2 hcc.size
   have hy10:V3.heap[z10]?=some (.cells #[.bool false,.int .i64 0] 33):=(hcc.block z10 (Array.getElem?_eq_some_iff.1 hy10).1 (by omega)).trans hy10
   have hy11:V3.heap[z11]?=some (.cells #[.bool false,.int .i64 0] 33):=(hcc.block z11 (Array.getElem?_eq_some_iff.1 hy11).1 (by omega)).trans hy11
   clear hcc ct2 l2 fr2 hc2
   refine rdH 9 fun Kmac hKmac=>?_
   go_simp
   have htk:=take_any fr3;unfold Vl.val at htk;refine htk.mono ?_;clear htk;rintro e V4 ⟨rfl,fr4,hcc⟩;have ct4:V4.cell? ⟨rb,24,none⟩=some (.pointer (some ⟨fb,0,none⟩)):=(World.cell?_of_block (a:=⟨rb,24,none⟩) (hcc.block _ l3 HB.out.n1)).trans ct3
   try go_wp2_with fail
   refine hKmac.go fun hHeld=>?_
   clear hKmac Kmac
   try refine lyH ?_
   have hc4:Chg W1 V4 (fun k=>k=fb):=hc3.then hcc (fun k _ e=>e)
   have l4:rb < V4.heap.size:=Nat.lt_of_lt_of_le l3 hcc.size
   have hy10:V4.heap[z10]?=some (.cells #[.bool false,.int .i64 0] 33):=(hcc.block z10 (Array.getElem?_eq_some_iff.1 hy10).1 (by omega)).trans hy10
   have hy11:V4.heap[z11]?=some (.cells #[.bool false,.int .i64 0] 33):=(hcc.block z11 (Array.getElem?_eq_some_iff.1 hy11).1 (by omega)).trans hy11
   clear hcc ct3 l3 fr3 hc3
   refine ?lf
 case' Fx3 =>
  go_simp
  refine hKmac.go fun hHeld=>?_
  clear hKmac Kmac
  try refine lyH ?_
  obtain ⟨V1,hV1⟩:∃ V,V=V0.alloc (.cells #[.bool false,.int .i64 0] 33):=⟨_,rfl⟩
  obtain ⟨z11,hz11⟩:∃ z,z=V0.heap.size:=⟨_,rfl⟩
  rw [← hV1,← hz11]
  have hB1:Below V0.heap.size V0 V1:=by rw [hV1];exact (Below.refl _ _).alloc (Nat.le_refl _) _
  have hy11:V1.heap[z11]?=some (.cells #[.bool false,.int .i64 0] 33):=by rw [hV1,hz11];exact (MapKept.heap_alloc _ _).1
  have hw11:W1.heap.size≤z11:=by rw [hz11];exact hc0.size
  have hc1:Chg W1 V1 (fun k=>k=fb):=hc0.then (Chg.of_below hB1 (fun _=>False)) (fun _ _ e=>e.elim)
  have fr1:FrRaw V1 fb (some ⟨mk,0,none⟩) (some ⟨K.cb f.home,0,none⟩) f.self f.args f.pc (b::a::r) (bs.head?.map (·.1)):=fr0.same (hB1.block fb fr0.cel.lt)
  have ct1:V1.cell? ⟨rb,24,none⟩=some (.pointer (some ⟨fb,0,none⟩)):=(hB1.cell (p:=⟨rb,24,none⟩) l0).trans ct0
  have l1:rb < V1.heap.size:=Nat.lt_of_lt_of_le l0 hB1.size
  clear hV1 hB1
  clear hz11
  refine wpAnyH_ready (rs:=[4,10]) (by kernel_rfl) (by simp) ?_
  refine (AllReadyH.cons (o:=_) rfl (fun Kmac hKmac=>?Fdx1) (AllReadyH.cons (o:=_) rfl (fun Kmac hKmac=>?Fdx2) AllReadyH.nil))
  case' Fdx1 =>
   go_simp
   have htk:=take_any fr1;unfold Vl.val at htk;refine htk.mono ?_;clear htk;rintro e V2 ⟨rfl,fr2,hcc⟩;have ct2:V2.cell? ⟨rb,24,none⟩=some (.pointer (some ⟨fb,0,none⟩)):=(World.cell?_of_block (a:=⟨rb,24,none⟩) (hcc.block _ l1 HB.out.n1)).trans ct1
   try go_wp2_with fail
   refine hKmac.go fun hHeld=>?_
   clear hKmac Kmac
   try refine lyH ?_
   have hc2:Chg W1 V2 (fun k=>k=fb):=hc1.then hcc (fun k _ e=>e)
   have l2:rb < V2.heap.size:=Nat.lt_of_lt_of_le l1 hcc.size
   have hy11:V2.heap[z11]?=some (.cells #[.bool false,.int .i64 0] 33):=(hcc.block z11 (Array.getElem?_eq_some_iff.1 hy11).1 (by omega)).trans hy11
   clear hcc ct1 l1 fr1 hc1
   refine wpAnyH_ready (rs:=[9,10]) (by kernel_rfl) (by simp) ?_
   refine (AllReadyH.cons (o:=_) rfl (fun Kmac hKmac=>?Fdax1) (AllReadyH.cons (o:=_) rfl (fun Kmac hKmac=>?Fdax2) AllReadyH.nil))
   case' Fdax1 =>
    go_simp
    have htk:=take_any fr2;unfold Vl.val at htk;refine htk.mono ?_;clear htk;rintro e V3 ⟨rfl,fr3,hcc⟩;have ct3:V3.cell? ⟨rb,24,none⟩=some (.pointer (some ⟨fb,0,none⟩)):=(World.cell?_of_block (a:=⟨rb,24,none⟩) (hcc.block _ l2 HB.out.n1)).trans ct2
    try go_wp2_with fail
    refine hKmac.go fun hHeld=>?_
    clear hKmac Kmac
    try refine lyH ?_
    have hc3:Chg W1 V3 (fun k=>k=fb):=hc2.then hcc (fun k _ e=>e)
    have l3:rb < V3.heap.size:=Nat.lt_of_lt_of_le l2 hcc.size
    have hy11:V3.heap[z11]?=some (.cells #[.bool false,.int .i64 0] 33):=(hcc.block z11 (Array.getElem?_eq_some_iff.1 hy11).1 (by omega)).trans hy11
    clear hcc ct2 l2 fr2 hc2
    have hlt:z11 < V3.heap.size:=(Array.getElem?_eq_some_iff.1 hy11).1
    refine rdH 10 fun Kmac hKmac=>?_
    go_simp
    refine hKmac.go fun hHeld=>?_
    clear hKmac Kmac
    try refine lyH ?_
    obtain ⟨V4,hV4⟩:∃ V,V=V3.alloc (.cells #[.bool false,.int .i64 0] 33):=⟨_,rfl⟩
    obtain ⟨z10,hz10⟩:∃ z,z=V3.heap.size:=⟨_,rfl⟩
    rw [← hV4,← hz10]
    have hB4:Below V3.heap.size V3 V4:=by rw [hV4];exact (Below.refl _ _).alloc (Nat.le_refl _) _
    have hy10:V4.heap[z10]?=some (.cells #[.bool false,.int .i64 0] 33):=by rw [hV4,hz10];exact (MapKept.heap_alloc _ _).1
    have hw10:W1.heap.size≤z10:=by rw [hz10];exact hc3.size
    have hc4:Chg W1 V4 (fun k=>k=fb):=hc3.then (Chg.of_below hB4 (fun _=>False)) (fun _ _ e=>e.elim)
    have fr4:FrRaw V4 fb (some ⟨mk,0,none⟩) (some ⟨K.cb f.home,0,none⟩) f.self f.args f.pc r (bs.head?.map (·.1)):=fr3.same (hB4.block fb fr3.cel.lt)
    have ct4:V4.cell? ⟨rb,24,none⟩=some (.pointer (some ⟨fb,0,none⟩)):=(hB4.cell (p:=⟨rb,24,none⟩) l3).trans ct3
    have l4:rb < V4.heap.size:=Nat.lt_of_lt_of_le l3 hB4.size
    have hy11:V4.heap[z11]?=some (.cells #[.bool false,.int .i64 0] 33):=(hB4.block z11 (Array.getElem?_eq_some_iff.1 hy11).1).trans hy11
    clear hV4 hB4 ct3 l3 fr3 hc3
    rw [← hz10] at hlt
    clear hz10
    refine ?lf
   case' Fdax2 =>
    have hlt:z11 < V2.heap.size:=(Array.getElem?_eq_some_iff.1 hy11).1
    go_simp
    refine hKmac.go fun hHeld=>?_
    clear hKmac Kmac
    try refine lyH ?_
    obtain ⟨V3,hV3⟩:∃ V,V=V2.alloc (.cells #[.bool false,.int .i64 0] 33):=⟨_,rfl⟩
    obtain ⟨z10,hz10⟩:∃ z,z=V2.heap.size:=⟨_,rfl⟩
    rw [← hV3,← hz10]
    have hB3:Below V2.heap.size V2 V3:=by rw [hV3];exact (Below.refl _ _).alloc (Nat.le_refl _) _
    have hy10:V3.heap[z10]?=some (.cells #[.bool false,.int .i64 0] 33):=by rw [hV3,hz10];exact (MapKept.heap_alloc _ _).1
    have hw10:W1.heap.size≤z10:=by rw [hz10];exact hc2.size
    have hc3:Chg W1 V3 (fun k=>k=fb):=hc2.then (Chg.of_below hB3 (fun _=>False)) (fun _ _ e=>e.elim)
    have fr3:FrRaw V3 fb (some ⟨mk,0,none⟩) (some ⟨K.cb f.home,0,none⟩) f.self f.args f.pc (a::r) (bs.head?.map (·.1)):=fr2.same (hB3.block fb fr2.cel.lt)
    have ct3:V3.cell? ⟨rb,24,none⟩=some (.pointer (some ⟨fb,0,none⟩)):=(hB3.cell (p:=⟨rb,24,none⟩) l2).trans ct2
    have l3:rb < V3.heap.size:=Nat.lt_of_lt_of_le l2 hB3.size
    have hy11:V3.heap[z11]?=some (.cells #[.bool false,.int .i64 0] 33):=(hB3.block z11 (Array.getElem?_eq_some_iff.1 hy11).1).trans hy11
    clear hV3 hB3 ct2 l2 fr2 hc2
    rw [← hz10] at hlt
    clear hz10
    refine rdH 9 fun Kmac hKmac=>?_
    go_simp
    have htk:=take_any fr3;unfold Vl.val at htk;refine htk.mono ?_;clear htk;rintro e V4 ⟨rfl,fr4,hcc⟩;have ct4:V4.cell? ⟨rb,24,none⟩=some (.pointer (some ⟨fb,0,none⟩)):=(World.cell?_of_block (a:=⟨rb,24,none⟩) (hcc.block _ l3 HB.out.n1)).trans ct3
    try go_wp2_with fail
    refine hKmac.go fun hHeld=>?_
    clear hKmac Kmac
    try refine lyH ?_
    have hc4:Chg W1 V4 (fun k=>k=fb):=hc3.then hcc (fun k _ e=>e)
    have l4:rb < V4.heap.size:=Nat.lt_of_lt_of_le l3 hcc.size
    have hy10:V4.heap[z10]?=some (.cells #[.bool false,.int .i64 0] 33):=(hcc.block z10 (Array.getElem?_eq_some_iff.1 hy10).1 (by omega)).trans hy10
    have hy11:V4.heap[z11]?=some (.cells #[.bool false,.int .i64 0] 33):=(hcc.block z11 (Array.getElem?_eq_some_iff.1 hy11).1 (by omega)).trans hy11
    clear hcc ct3 l3 fr3 hc3
    refine ?lf
  case' Fdx2 =>
   have hlt:z11 < V1.heap.size:=(Array.getElem?_eq_some_iff.1 hy11).1
   go_simp
   refine hKmac.go fun hHeld=>?_
   clear hKmac Kmac
   try refine lyH ?_
   obtain ⟨V2,hV2⟩:∃ V,V=V1.alloc (.cells #[.bool false,.int .i64 0] 33):=⟨_,rfl⟩
   obtain ⟨z10,hz10⟩:∃ z,z=V1.heap.size:=⟨_,rfl⟩
   rw [← hV2,← hz10]
   have hB2:Below V1.heap.size V1 V2:=by rw [hV2];exact (Below.refl _ _).alloc (Nat.le_refl _) _
   have hy10:V2.heap[z10]?=some (.cells #[.bool false,.int .i64 0] 33):=by rw [hV2,hz10];exact (MapKept.heap_alloc _ _).1
   have hw10:W1.heap.size≤z10:=by rw [hz10];exact hc1.size
   have hc2:Chg W1 V2 (fun k=>k=fb):=hc1.then (Chg.of_below hB2 (fun _=>False)) (fun _ _ e=>e.elim)
   have fr2:FrRaw V2 fb (some ⟨mk,0,none⟩) (some ⟨K.cb f.home,0,none⟩) f.self f.args f.pc (b::a::r) (bs.head?.map (·.1)):=fr1.same (hB2.block fb fr1.cel.lt)
   have ct2:V2.cell? ⟨rb,24,none⟩=some (.pointer (some ⟨fb,0,none⟩)):=(hB2.cell (p:=⟨rb,24,none⟩) l1).trans ct1
   have l2:rb < V2.heap.size:=Nat.lt_of_lt_of_le l1 hB2.size
   have hy11:V2.heap[z11]?=some (.cells #[.bool false,.int .i64 0] 33):=(hB2.block z11 (Array.getElem?_eq_some_iff.1 hy11).1).trans hy11
   clear hV2 hB2 ct1 l1 fr1 hc1
   rw [← hz10] at hlt
   clear hz10
   refine rdH 4 fun Kmac hKmac=>?_
   go_simp
   have htk:=take_any fr2;unfold Vl.val at htk;refine htk.mono ?_;clear htk;rintro e V3 ⟨rfl,fr3,hcc⟩;have ct3:V3.cell? ⟨rb,24,none⟩=some (.pointer (some ⟨fb,0,none⟩)):=(World.cell?_of_block (a:=⟨rb,24,none⟩) (hcc.block _ l2 HB.out.n1)).trans ct2
   try go_wp2_with fail
   refine hKmac.go fun hHeld=>?_
   clear hKmac Kmac
   try refine lyH ?_
   have hc3:Chg W1 V3 (fun k=>k=fb):=hc2.then hcc (fun k _ e=>e)
   have l3:rb < V3.heap.size:=Nat.lt_of_lt_of_le l2 hcc.size
   have hy10:V3.heap[z10]?=some (.cells #[.bool false,.int .i64 0] 33):=(hcc.block z10 (Array.getElem?_eq_some_iff.1 hy10).1 (by omega)).trans hy10
   have hy11:V3.heap[z11]?=some (.cells #[.bool false,.int .i64 0] 33):=(hcc.block z11 (Array.getElem?_eq_some_iff.1 hy11).1 (by omega)).trans hy11
   clear hcc ct2 l2 fr2 hc2
   refine rdH 9 fun Kmac hKmac=>?_
   go_simp
   have htk:=take_any fr3;unfold Vl.val at htk;refine htk.mono ?_;clear htk;rintro e V4 ⟨rfl,fr4,hcc⟩;have ct4:V4.cell? ⟨rb,24,none⟩=some (.pointer (some ⟨fb,0,none⟩)):=(World.cell?_of_block (a:=⟨rb,24,none⟩) (hcc.block _ l3 HB.out.n1)).trans ct3
   try go_wp2_with fail
   refine hKmac.go fun hHeld=>?_
   clear hKmac Kmac
   try refine lyH ?_
   have hc4:Chg W1 V4 (fun k=>k=fb):=hc3.then hcc (fun k _ e=>e)
   have l4:rb < V4.heap.size:=Nat.lt_of_lt_of_le l3 hcc.size
   have hy10:V4.heap[z10]?=some (.cells #[.bool false,.int .i64 0] 33):=(hcc.block z10 (Array.getElem?_eq_some_iff.1 hy10).1 (by omega)).trans hy10
   have hy11:V4.heap[z11]?=some (.cells #[.bool false,.int .i64 0] 33):=(hcc.block z11 (Array.getElem?_eq_some_iff.1 hy11).1 (by omega)).trans hy11
   clear hcc ct3 l3 fr3 hc3
   refine ?lf
 all_goals
  have u0:V4.cell? ⟨z10,0,none⟩=some (.bool false):=by simp only [World.cell?,hy10];rfl
  have u1:V4.cell? ⟨z10,1,none⟩=some (.int .i64 0):=by simp only [World.cell?,hy10];rfl
  have uf:∀ o,V4.frozen? ⟨z10,o,none⟩=false:=fun o=>Cel.free ⟨_,_,hy10⟩ o
  have v0:V4.cell? ⟨z11,0,none⟩=some (.bool false):=by simp only [World.cell?,hy11];rfl
  have v1:V4.cell? ⟨z11,1,none⟩=some (.int .i64 0):=by simp only [World.cell?,hy11];rfl
  have vf:∀ o,V4.frozen? ⟨z11,o,none⟩=false:=fun o=>Cel.free ⟨_,_,hy11⟩ o
  have q0:¬ z10=z11:=fun e=>by have:=hlt;omega
  have q1:¬ z11=z10:=fun e=>q0 e.symm
  have q2:¬ z10=rb:=by omega
  have q3:¬ rb=z10:=by omega
  have q4:¬ z11=rb:=by omega
  have q5:¬ rb=z11:=by omega
  have q6:¬ fb=z10:=by omega
  have q7:¬ fb=z11:=by omega
  have ly10:=(Array.getElem?_eq_some_iff.1 hy10).1
  have ly11:=(Array.getElem?_eq_some_iff.1 hy11).1
  refine rdH 12 fun Kmac hKmac=>?_
  go_simp
  refine hKmac.go fun hHeld=>?_
  clear hKmac Kmac
  try refine lyH ?_
  refine rdH 13 fun Kmac hKmac=>?_
  go_simp
  refine hKmac.go fun hHeld=>?_
  clear hKmac Kmac
  try refine lyH ?_
  refine wpAnyH_done (by kernel_rfl) ?_ _
  refine NoPanic.normal ?_
  obtain ⟨W5,hW5⟩:∃ W5,W5=(((V4.setCell ⟨z10,0,none⟩ (.bool b.obj)).setCell ⟨z10,1,none⟩ (.int .i64 b.n)).setCell ⟨z11,0,none⟩ (.bool a.obj)).setCell ⟨z11,1,none⟩ (.int .i64 a.n):=⟨_,rfl⟩
  rw [← hW5]
  have hx10:W5.heap[z10]?=some (.cells #[.bool b.obj,.int .i64 b.n] 33):=by rw [hW5,Below.heap_setCell _ _ _ _ q0,Below.heap_setCell _ _ _ _ q0];exact set2 hy10
  have hx11:W5.heap[z11]?=some (.cells #[.bool a.obj,.int .i64 a.n] 33):=by rw [hW5];exact set2 ((Below.heap_setCell _ _ _ _ q1).trans ((Below.heap_setCell _ _ _ _ q1).trans hy11))
  have hc5:Chg W1 W5 (fun k=>k=fb):=by rw [hW5];exact (((hc4.setCell _ _ (fun e=>by simp only at e;omega)).setCell _ _ (fun e=>by simp only at e;omega)).setCell _ _ (fun e=>by simp only at e;omega)).setCell _ _ (fun e=>by simp only at e;omega)
  have fr5:FrRaw W5 fb (some ⟨mk,0,none⟩) (some ⟨K.cb f.home,0,none⟩) f.self f.args f.pc r (bs.head?.map (·.1)):=by rw [hW5];exact fr4.same ((Below.heap_setCell _ _ _ _ q7).trans ((Below.heap_setCell _ _ _ _ q7).trans ((Below.heap_setCell _ _ _ _ q6).trans (Below.heap_setCell _ _ _ _ q6))))
  clear hW5 u0 u1 uf v0 v1 vf hy10 hy11 ct4 l4 fr4 hc4 ly10 ly11
  have u0:W5.cell? ⟨z10,0,none⟩=some (.bool b.obj):=by simp only [World.cell?,hx10];rfl
  have u1:W5.cell? ⟨z10,1,none⟩=some (.int .i64 b.n):=by simp only [World.cell?,hx10];rfl
  have v0:W5.cell? ⟨z11,0,none⟩=some (.bool a.obj):=by simp only [World.cell?,hx11];rfl
  have v1:W5.cell? ⟨z11,1,none⟩=some (.int .i64 a.n):=by simp only [World.cell?,hx11];rfl
  have ly10:=(Array.getElem?_eq_some_iff.1 hx10).1
  have ly11:=(Array.getElem?_eq_some_iff.1 hx11).1
  have ct5:W5.cell? ⟨rb,24,none⟩=some (.pointer (some ⟨fb,0,none⟩)):=(World.cell?_of_block (a:=⟨rb,24,none⟩) (hc5.block _ l1 HB.out.n1)).trans HB.out.ct
  have l5:rb < W5.heap.size:=Nat.lt_of_lt_of_le l1 hc5.size
  have HF5:Hid _:=fr5
  have HC5:Hid _:=hc5
  clear hx10 hx11 fr5 hc5
  go_wp2_with fail
  refine wp_region_noPanic ?_
  refine wp_region_held_drew (S:=(fun w'=>w'.cell? ⟨rb,24,none⟩=some (.pointer (some ⟨fb,0,none⟩))∧w'.cell? ⟨z10,0,none⟩=some (.bool b.obj)∧w'.cell? ⟨z10,1,none⟩=some (.int .i64 b.n)∧w'.cell? ⟨z11,0,none⟩=some (.bool a.obj)∧w'.cell? ⟨z11,1,none⟩=some (.int .i64 a.n))) (by kernel_rfl) (by go_keep) (fun hHeld=>?_)
  refine tkH 0 ?_
  refine tkH 1 ?_
  refine tkH 2 ?_
  refine tkH 3 ?_
  refine tkH 4 ?_
  refine tkL 5 ?_
  refine rdH 6 fun Kmac hKmac=>?_
  go_simp
  have hif:=same_if a b (fun q=>(Result.ok (Next.value (Value.bool q)) W5.drew:Result Next))
  rw [hif,Oper.upon_value]
  refine hKmac.go fun hHeld=>?_
  clear hKmac Kmac
  try refine lyH ?_
  have htr:=truth_any (decide (a=b)) W5.drew
  refine rdH 7 fun Kmac hKmac=>?_
  go_simp
  refine htr.mono ?_;rintro e w6 ⟨rfl,hb6⟩;have hb6':=undrew hb6;have ct6:w6.cell? ⟨rb,24,none⟩=some (.pointer (some ⟨fb,0,none⟩)):=(hb6'.cell (p:=⟨rb,24,none⟩) l5).trans ct5;have u06:w6.cell? ⟨z10,0,none⟩=some (.bool b.obj):=(hb6'.cell (p:=⟨z10,0,none⟩) ly10).trans u0;have u16:w6.cell? ⟨z10,1,none⟩=some (.int .i64 b.n):=(hb6'.cell (p:=⟨z10,1,none⟩) ly10).trans u1;have v06:w6.cell? ⟨z11,0,none⟩=some (.bool a.obj):=(hb6'.cell (p:=⟨z11,0,none⟩) ly11).trans v0;have v16:w6.cell? ⟨z11,1,none⟩=some (.int .i64 a.n):=(hb6'.cell (p:=⟨z11,1,none⟩) ly11).trans v1
  try go_wp2_with fail
  refine hKmac.go fun hHeld=>?_
  clear hKmac Kmac
  try refine lyH ?_
  have hf6:=HF5.out.same (hb6'.block fb HF5.out.cel.lt)
  have hlay:=lay_any hf6 (by omega) (b2v (decide (a=b)))
  have hs6:=hb6'.size
  have HC6:Hid _:=HC5.out.then (Chg.of_below hb6' (fun _=>False)) (fun _ _ e=>e.elim)
  clear htr hb6 hf6 hif
  refine rdH 8 fun Kmac hKmac=>?_
  go_simp
  refine hlay.mono ?_;rintro e w7 ⟨rfl,hf7,hc7⟩;have ct7:w7.cell? ⟨rb,24,none⟩=some (.pointer (some ⟨fb,0,none⟩)):=(World.cell?_of_block (a:=⟨rb,24,none⟩) (hc7.block _ (Nat.lt_of_lt_of_le l5 hs6) HB.out.n1)).trans ct6;have u07:w7.cell? ⟨z10,0,none⟩=some (.bool b.obj):=(World.cell?_of_block (a:=⟨z10,0,none⟩) (hc7.block _ (Nat.lt_of_lt_of_le ly10 hs6) (fun e=>q6 e.symm))).trans u06;have u17:w7.cell? ⟨z10,1,none⟩=some (.int .i64 b.n):=(World.cell?_of_block (a:=⟨z10,1,none⟩) (hc7.block _ (Nat.lt_of_lt_of_le ly10 hs6) (fun e=>q6 e.symm))).trans u16;have v07:w7.cell? ⟨z11,0,none⟩=some (.bool a.obj):=(World.cell?_of_block (a:=⟨z11,0,none⟩) (hc7.block _ (Nat.lt_of_lt_of_le ly11 hs6) (fun e=>q7 e.symm))).trans v06;have v17:w7.cell? ⟨z11,1,none⟩=some (.int .i64 a.n):=(World.cell?_of_block (a:=⟨z11,1,none⟩) (hc7.block _ (Nat.lt_of_lt_of_le ly11 hs6) (fun e=>q7 e.symm))).trans v16
  try go_wp2_with fail
  refine hKmac.go fun hHeld=>?_
  clear hKmac Kmac
  try refine lyH ?_
  refine wpAnyH_done (by kernel_rfl) ?_ _
  refine NoPanic.normal ?_
  go_end0
  exact ⟨rfl,K,_,HB.out.sg.top (f':={ f with st:=b2v (decide (a=b))::r }) h0 (HC6.out.then hc7 (fun k _ e=>e)) hf7 rfl rfl⟩
end Go.Proofs.YtkghmgoefiepeaaGreatDoor.reads
