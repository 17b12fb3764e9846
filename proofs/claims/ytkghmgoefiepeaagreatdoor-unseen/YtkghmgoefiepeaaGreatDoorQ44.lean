import Derived.Test.YtkghmgoefiepeaaGreatDoorQ0
import Derived.Test.YtkghmgoefiepeaaGreatDoorQ43
set_option linter.unusedSimpArgs false
set_option linter.unusedVariables false
set_option maxHeartbeats 4000000
set_option maxRecDepth 100000
namespace Go.Proofs.YtkghmgoefiepeaaGreatDoor.reads
open Go.ChangeShapes Go.WideShapes Go.ChangeAt Go.RowKit Kn Go.Proofs.YtkghmgoefiepeaaGreatDoor.img
variable {w w0 : World}
variable {m m0 : Im}
variable {K K0 : Kd}
variable {Dd : Nat → Prop}
variable {bs : List (Nat × Nat)}
variable {fs : List Fr}
variable {f : Fr}
theorem do_be_num {rb:Nat}{fuel fb mk:Nat} (h:Sg Dd w0 m0 K0 rb w m K fuel ((fb,mk)::bs) (f::fs)) (h0:Glo w0) (x:Kn.W) (pl:Option Addr) (hk:x.k=98) {n:Int}{r:List Vl} (hst:f.st=⟨false,n⟩::r) :
 Calls Tryz.prog 131 #[.pointer (some ⟨rb,0,none⟩),wval x pl] w (WPost Dd w0 m0 K0 rb (wordM m fuel x f fs)):=by
 have hw:wordM m fuel x f fs=.stop m 3:=by unfold wordM;simp [hk,hst]
 rw [hw]
 obtain ⟨W1,hW1⟩:∃ W1,W1=w.alloc (.cells (wcs x pl) 146):=⟨_,rfl⟩
 have B:=h.box x pl hW1
 have ctw:=h.run.ct
 simp only [List.head?_cons,Option.map_some,cptr] at ctw
 have lw:=(h.lo rb (by simp)).2.1
 have hraw:=B.sg.frs.1.raw
 rw [hst] at hraw
 have hcall:=take_any hraw
 unfold Vl.val at hcall
 have HB:Hid _:=B
 unfold wcs at hW1
 unfold wval wcs
 clear B h hw hk hst hraw
 go_enter Tryz.func131,Tryz.ntmps131
 go_wp2_with fail
 rw [← hW1]
 clear hW1
 refine hcall.mono ?_
 rintro e w2 ⟨rfl,hf2,hc2⟩
 have HC2:Hid _:=hc2
 clear hcall hf2 hc2 ctw lw
 go_wp2
 exact ⟨rfl,rfl,K,HB.out.gave h0 (HC2.out.alloc _)⟩
theorem do_be_ok {rb:Nat}{fuel fb mk:Nat} (h:Sg Dd w0 m0 K0 rb w m K fuel ((fb,mk)::bs) (f::fs)) (h0:Glo w0) (x:Kn.W) (pl:Option Addr) (hk:x.k=98) {n:Int}{r:List Vl} (hst:f.st=⟨true,n⟩::r) (he:(m.be n (ofL x.a)).1=0) :
 Calls Tryz.prog 131 #[.pointer (some ⟨rb,0,none⟩),wval x pl] w (WPost Dd w0 m0 K0 rb (wordM m fuel x f fs)):=by
 have hw:wordM m fuel x f fs=.on (m.be n (ofL x.a)).2 fuel (f::fs):=by unfold wordM;simp [hk,hst,he]
 rw [hw]
 obtain ⟨W1,hW1⟩:∃ W1,W1=w.alloc (.cells (wcs x pl) 146):=⟨_,rfl⟩
 have B:=h.box x pl hW1
 have ctw:=h.run.ct
 simp only [List.head?_cons,Option.map_some,cptr] at ctw
 have lw:=(h.lo rb (by simp)).2.1
 have hraw:=B.sg.frs.1.raw
 have h16:=hraw.s16
 rw [hst] at hraw h16
 simp only [List.length_cons] at h16
 have hcall:=take_any hraw
 unfold Vl.val at hcall
 have x2:=B.x2
 have l3:=B.l3
 have HB:Hid _:=B
 have HST:Hid _:=hst
 obtain ⟨⟨e0,m'⟩,hd⟩:∃ q,m.be n (ofL x.a)=q:=⟨_,rfl⟩
 rw [hd] at he ⊢
 simp only at he ⊢
 have HD:Hid _:=hd
 have HFL:Hid (∀ k,Foot m K k→k < w.heap.size):=by
  have hx:∀ k,Foot m K k→k < w.heap.size:=fun k e=>h.stp.kim.lt e
  exact hx
 unfold wcs at hW1
 unfold wval wcs
 clear B h hw hk hst hraw hd
 go_enter Tryz.func131,Tryz.ntmps131
 go_wp2_with fail
 rw [← hW1]
 clear hW1
 refine hcall.mono ?_
 rintro e w2 ⟨rfl,hf2,hc2⟩
 have h2:=HB.out.sg.top (f':={ f with st:=r }) h0 hc2 hf2 rfl rfl
 have H2:Hid (Sg Dd w0 m0 K0 rb w2 m K fuel ((fb,mk)::bs) ({ f with st:=r }::fs)∧Chg W1 w2 (fun k=>k=fb)):=⟨h2,hc2⟩
 clear hcall hf2 hc2 h2 ctw lw
 go_wp2_with fail
 obtain ⟨W3,hW3⟩:∃ W3,W3=w2.alloc (.cells #[.bool true,.int .i64 n] 33):=⟨_,rfl⟩
 rw [← hW3]
 have hb3:Below w2.heap.size w2 W3:=by rw [hW3];exact (Below.refl _ _).alloc (Nat.le_refl _) _
 have hz3:W3.heap[w2.heap.size]?=some (.cells #[.bool true,.int .i64 n] 33):=by rw [hW3];exact (MapKept.heap_alloc _ _).1
 have h3:=H2.out.1.below hb3
 have hs2:=H2.out.2.size
 have y2:W3.cell? ⟨w.heap.size,2,none⟩=some (.string (ofL x.a)):=(hb3.cell (p:=⟨w.heap.size,2,none⟩) (by show w.heap.size < w2.heap.size;omega)).trans ((World.cell?_of_block (a:=⟨w.heap.size,2,none⟩) (H2.out.2.block _ l3 HB.out.n2)).trans x2)
 have y0:=h3.run.c0
 have v0:W3.cell? ⟨w2.heap.size,0,none⟩=some (.bool true):=by simp only [World.cell?,hz3];rfl
 have v1:W3.cell? ⟨w2.heap.size,1,none⟩=some (.int .i64 n):=by simp only [World.cell?,hz3];rfl
 have hbe:=be_any h3.stp.kim.drew n (ofL x.a)
 rw [HD.out] at hbe
 have l13:=h3.run.cel.lt
 have l33:w.heap.size < W3.heap.size:=by have:=hb3.size;omega
 have l43:w2.heap.size < W3.heap.size:=(Array.getElem?_eq_some_iff.1 hz3).1
 have H3:Hid (Sg Dd w0 m0 K0 rb W3 m K fuel ((fb,mk)::bs) ({ f with st:=r }::fs)∧W3.heap[w2.heap.size]?=some (.cells #[.bool true,.int .i64 n] 33)):=⟨h3,hz3⟩
 clear hW3 h3 hz3 hb3
 refine wp_region_held_drew (S:=(fun w'=>w'.cell? ⟨rb,0,none⟩=some (.pointer (some ⟨K.b,0,none⟩))∧w'.cell? ⟨w.heap.size,2,none⟩=some (.string (ofL x.a))∧w'.cell? ⟨w2.heap.size,1,none⟩=some (.int .i64 n))) (by kernel_rfl) (by go_keep) (fun hHeld=>?_)
 refine tkH 0 ?_
 refine tkH 1 ?_
 refine tkH 2 ?_
 refine tkH 3 ?_
 refine tkH 4 ?_
 refine tkH 5 ?_
 refine tkH 6 ?_
 refine tkL 7 ?_
 refine rdH 8 fun Kmac hKmac=>?_
 go_simp
 refine hbe.mono ?_;rintro e w4 ⟨rfl,K',hst4⟩;have h4:=(H3.out.1.below (Below.refl _ _).drew).img hst4;have hk4:∀ k,k < W3.heap.size→w.heap.size≤k→w4.heap[k]?=W3.heap[k]?:=fun k e1 e2=>hst4.chg.block k e1 (fun e=>by have:=HFL.out k e;omega);have y04:=h4.run.c0;have y24:w4.cell? ⟨w.heap.size,2,none⟩=some (.string (ofL x.a)):=(World.cell?_of_block (a:=⟨w.heap.size,2,none⟩) (hk4 _ l33 (Nat.le_refl _))).trans y2;have v14:w4.cell? ⟨w2.heap.size,1,none⟩=some (.int .i64 n):=(World.cell?_of_block (a:=⟨w2.heap.size,1,none⟩) (hk4 _ l43 (by show w.heap.size≤w2.heap.size;omega))).trans v1;rw [hst4.b] at y04
 try go_wp2_with fail
 refine hKmac.go fun hHeld=>?_
 clear hKmac Kmac
 try refine lyH ?_
 subst he
 have hmu:=must_ok w4
 have v04:w4.cell? ⟨w2.heap.size,0,none⟩=some (.bool true):=(World.cell?_of_block (a:=⟨w2.heap.size,0,none⟩) (hk4 _ l43 (by show w.heap.size≤w2.heap.size;omega))).trans v0
 have hs4:W3.heap.size≤w4.heap.size:=hst4.chg.size
 have ct4:=h4.run.ct
 simp only [List.head?_cons,Option.map_some,cptr] at ct4
 have l14:=h4.run.cel.lt
 have l44:w2.heap.size < w4.heap.size:=by omega
 have hlay:=lay_any (w:=w4.drew) (h4.frs.1.raw.same rfl) (by show r.length < 16;omega) ⟨true,n⟩
 unfold Vl.val at hlay
 have hnf:w2.heap.size≠fb:=fun e=>by have:=(H2.out.1.lo fb (by simp)).2.1;omega
 have H4:Hid _:=h4
 clear hbe hst4 hk4 h4
 refine rdH 9 fun Kmac hKmac=>?_
 go_simp
 refine hmu.mono ?_;rintro e w5 ⟨rfl,rfl⟩
 try go_wp2_with fail
 refine hKmac.go fun hHeld=>?_
 clear hKmac Kmac
 try refine lyH ?_
 refine wpAnyH_done (by kernel_rfl) ?_ _
 clear hmu
 go_wp2_with fail
 refine wp_region_noPanic ?_
 refine wp_region_held_drew (S:=(fun w'=>w'.cell? ⟨rb,24,none⟩=some (.pointer (some ⟨fb,0,none⟩))∧w'.cell? ⟨w2.heap.size,0,none⟩=some (.bool true)∧w'.cell? ⟨w2.heap.size,1,none⟩=some (.int .i64 n))) (by kernel_rfl) (by go_keep) (fun hHeld=>?_)
 refine tkH 0 ?_
 refine tkH 1 ?_
 refine tkH 2 ?_
 refine tkH 3 ?_
 refine tkL 4 ?_
 refine rdH 5 fun Kmac hKmac=>?_
 go_simp
 refine hlay.mono ?_;rintro e w6 ⟨rfl,hf6,hc6⟩;have ct6:w6.cell? ⟨rb,24,none⟩=some (.pointer (some ⟨fb,0,none⟩)):=(World.cell?_of_block (a:=⟨rb,24,none⟩) (hc6.block _ l14 HB.out.n1)).trans ct4;have v06:w6.cell? ⟨w2.heap.size,0,none⟩=some (.bool true):=(World.cell?_of_block (a:=⟨w2.heap.size,0,none⟩) (hc6.block _ l44 hnf)).trans v04;have v16:w6.cell? ⟨w2.heap.size,1,none⟩=some (.int .i64 n):=(World.cell?_of_block (a:=⟨w2.heap.size,1,none⟩) (hc6.block _ l44 hnf)).trans v14
 try go_wp2_with fail
 refine hKmac.go fun hHeld=>?_
 clear hKmac Kmac
 try refine lyH ?_
 refine wpAnyH_done (by kernel_rfl) ?_ _
 refine NoPanic.normal ?_
 go_end0
 have h6:=H4.out.top (f':={ f with st:=⟨true,n⟩::r }) h0 ((Chg.refl _ (fun k=>k=fb)).drew.then hc6 (fun k _ e=>e)) hf6 rfl rfl
 rw [show ({ f with st:=⟨true,n⟩::r }:Fr)=f from by rw [← HST.out]] at h6
 exact ⟨rfl,K',_,h6⟩
theorem do_be_no {rb:Nat}{fuel fb mk:Nat} (h:Sg Dd w0 m0 K0 rb w m K fuel ((fb,mk)::bs) (f::fs)) (h0:Glo w0) (x:Kn.W) (pl:Option Addr) (hk:x.k=98) {n:Int}{r:List Vl} (hst:f.st=⟨true,n⟩::r) (he:(m.be n (ofL x.a)).1≠0) :
 Calls Tryz.prog 131 #[.pointer (some ⟨rb,0,none⟩),wval x pl] w (WPost Dd w0 m0 K0 rb (wordM m fuel x f fs)):=by
 have hw:wordM m fuel x f fs=.stop (m.be n (ofL x.a)).2 3:=by unfold wordM;simp [hk,hst,he]
 rw [hw]
 obtain ⟨W1,hW1⟩:∃ W1,W1=w.alloc (.cells (wcs x pl) 146):=⟨_,rfl⟩
 have B:=h.box x pl hW1
 have ctw:=h.run.ct
 simp only [List.head?_cons,Option.map_some,cptr] at ctw
 have lw:=(h.lo rb (by simp)).2.1
 have hraw:=B.sg.frs.1.raw
 have h16:=hraw.s16
 rw [hst] at hraw h16
 simp only [List.length_cons] at h16
 have hcall:=take_any hraw
 unfold Vl.val at hcall
 have x2:=B.x2
 have l3:=B.l3
 have HB:Hid _:=B
 have HST:Hid _:=hst
 obtain ⟨⟨e0,m'⟩,hd⟩:∃ q,m.be n (ofL x.a)=q:=⟨_,rfl⟩
 rw [hd] at he ⊢
 simp only at he ⊢
 have HD:Hid _:=hd
 have HFL:Hid (∀ k,Foot m K k→k < w.heap.size):=by
  have hx:∀ k,Foot m K k→k < w.heap.size:=fun k e=>h.stp.kim.lt e
  exact hx
 unfold wcs at hW1
 unfold wval wcs
 clear B h hw hk hst hraw hd
 go_enter Tryz.func131,Tryz.ntmps131
 go_wp2_with fail
 rw [← hW1]
 clear hW1
 refine hcall.mono ?_
 rintro e w2 ⟨rfl,hf2,hc2⟩
 have h2:=HB.out.sg.top (f':={ f with st:=r }) h0 hc2 hf2 rfl rfl
 have H2:Hid (Sg Dd w0 m0 K0 rb w2 m K fuel ((fb,mk)::bs) ({ f with st:=r }::fs)∧Chg W1 w2 (fun k=>k=fb)):=⟨h2,hc2⟩
 clear hcall hf2 hc2 h2 ctw lw
 go_wp2_with fail
 obtain ⟨W3,hW3⟩:∃ W3,W3=w2.alloc (.cells #[.bool true,.int .i64 n] 33):=⟨_,rfl⟩
 rw [← hW3]
 have hb3:Below w2.heap.size w2 W3:=by rw [hW3];exact (Below.refl _ _).alloc (Nat.le_refl _) _
 have hz3:W3.heap[w2.heap.size]?=some (.cells #[.bool true,.int .i64 n] 33):=by rw [hW3];exact (MapKept.heap_alloc _ _).1
 have h3:=H2.out.1.below hb3
 have hs2:=H2.out.2.size
 have y2:W3.cell? ⟨w.heap.size,2,none⟩=some (.string (ofL x.a)):=(hb3.cell (p:=⟨w.heap.size,2,none⟩) (by show w.heap.size < w2.heap.size;omega)).trans ((World.cell?_of_block (a:=⟨w.heap.size,2,none⟩) (H2.out.2.block _ l3 HB.out.n2)).trans x2)
 have y0:=h3.run.c0
 have v0:W3.cell? ⟨w2.heap.size,0,none⟩=some (.bool true):=by simp only [World.cell?,hz3];rfl
 have v1:W3.cell? ⟨w2.heap.size,1,none⟩=some (.int .i64 n):=by simp only [World.cell?,hz3];rfl
 have hbe:=be_any h3.stp.kim.drew n (ofL x.a)
 rw [HD.out] at hbe
 have l13:=h3.run.cel.lt
 have l33:w.heap.size < W3.heap.size:=by have:=hb3.size;omega
 have l43:w2.heap.size < W3.heap.size:=(Array.getElem?_eq_some_iff.1 hz3).1
 have H3:Hid (Sg Dd w0 m0 K0 rb W3 m K fuel ((fb,mk)::bs) ({ f with st:=r }::fs)∧W3.heap[w2.heap.size]?=some (.cells #[.bool true,.int .i64 n] 33)):=⟨h3,hz3⟩
 clear hW3 h3 hz3 hb3
 refine wp_region_held_drew (S:=(fun w'=>w'.cell? ⟨rb,0,none⟩=some (.pointer (some ⟨K.b,0,none⟩))∧w'.cell? ⟨w.heap.size,2,none⟩=some (.string (ofL x.a))∧w'.cell? ⟨w2.heap.size,1,none⟩=some (.int .i64 n))) (by kernel_rfl) (by go_keep) (fun hHeld=>?_)
 refine tkH 0 ?_
 refine tkH 1 ?_
 refine tkH 2 ?_
 refine tkH 3 ?_
 refine tkH 4 ?_
 refine tkH 5 ?_
 refine tkH 6 ?_
 refine tkL 7 ?_
 refine rdH 8 fun Kmac hKmac=>?_
 go_simp
 refine hbe.mono ?_;rintro e w4 ⟨rfl,K',hst4⟩;have h4:=(H3.out.1.below (Below.refl _ _).drew).img hst4;have hk4:∀ k,k < W3.heap.size→w.heap.size≤k→w4.heap[k]?=W3.heap[k]?:=fun k e1 e2=>hst4.chg.block k e1 (fun e=>by have:=HFL.out k e;omega);have y04:=h4.run.c0;have y24:w4.cell? ⟨w.heap.size,2,none⟩=some (.string (ofL x.a)):=(World.cell?_of_block (a:=⟨w.heap.size,2,none⟩) (hk4 _ l33 (Nat.le_refl _))).trans y2;have v14:w4.cell? ⟨w2.heap.size,1,none⟩=some (.int .i64 n):=(World.cell?_of_block (a:=⟨w2.heap.size,1,none⟩) (hk4 _ l43 (by show w.heap.size≤w2.heap.size;omega))).trans v1;rw [hst4.b] at y04
 try go_wp2_with fail
 refine hKmac.go fun hHeld=>?_
 clear hKmac Kmac
 try refine lyH ?_
 have hmu:=must_no e0 he w4
 refine rdH 9 fun Kmac hKmac=>?_
 go_simp
 refine hmu.mono ?_
 rintro e w5 ⟨rfl,rfl⟩
 exact ⟨rfl,rfl,K',h4.stp⟩
theorem do_new_ok {rb:Nat}{fuel fb mk:Nat} (h:Sg Dd w0 m0 K0 rb w m K fuel ((fb,mk)::bs) (f::fs)) (h0:Glo w0) (x:Kn.W) (pl:Option Addr) (hk:x.k=119) (hr:f.st.length < 16) (he:(m.make (ofL x.a)).2.1=0) :
 Calls Tryz.prog 130 #[.pointer (some ⟨rb,0,none⟩),wval x pl] w (WPost Dd w0 m0 K0 rb (wordM m fuel x f fs)):=by
 have hw:wordM m fuel x f fs=.on (m.make (ofL x.a)).2.2 fuel ({ f with st:=(m.make (ofL x.a)).1::f.st }::fs):=by unfold wordM;simp [hk,he]
 rw [hw]
 obtain ⟨W1,hW1⟩:∃ W1,W1=w.alloc (.cells (wcs x pl) 146):=⟨_,rfl⟩
 have B:=h.box x pl hW1
 have c0:=B.c0
 have x2:=B.x2
 have l1:=B.l1
 have l3:=B.l3
 have HB:Hid _:=B
 have hmk:∀ W,Below W1.heap.size W1 W→Calls Tryz.prog 16 #[.pointer (some ⟨K.b,0,none⟩),.string (ofL x.a)] W fun e w'=>e=.returned (.tuple #[(m.make (ofL x.a)).1.val,.int .i64 (m.make (ofL x.a)).2.1])∧∃ K',Step W w' m K (m.make (ofL x.a)).2.2 K':=fun W hW=>make_any (B.sg.below hW).stp.kim (ofL x.a)
 obtain ⟨⟨v,e0,m'⟩,hd⟩:∃ q,m.make (ofL x.a)=q:=⟨_,rfl⟩
 rw [hd] at he hmk ⊢
 simp only at he hmk ⊢
 have HFL:Hid (∀ k,Foot m K k→k < w.heap.size):=by
  have hx:∀ k,Foot m K k→k < w.heap.size:=fun k e=>h.stp.kim.lt e
  exact hx
 unfold Vl.val at hmk
 unfold wcs at hW1
 unfold wval wcs
 have hBa:Below W1.heap.size W1 W1.drew:=(Below.refl _ _).drew
 have hBb:Below W1.heap.size W1 (W1.alloc (.cells #[.bool false,.int .i64 0] 33)).drew:=((Below.refl _ _).alloc (Nat.le_refl _) _).drew
 clear B h hw hk hd
 go_enter Tryz.func130,Tryz.ntmps130
 go_wp2_with fail
 rw [← hW1]
 clear hW1
 refine wp_region_noPanic ?_
 refine wp_region_held_drew (S:=(fun w'=>w'.cell? ⟨rb,0,none⟩=some (.pointer (some ⟨K.b,0,none⟩))∧w'.cell? ⟨w.heap.size,2,none⟩=some (.string (ofL x.a)))) (by kernel_rfl) (by go_keep) (fun hHeld=>?_)
 refine tkH 0 ?_
 refine tkH 1 ?_
 refine tkH 2 ?_
 refine tkH 3 ?_
 refine tkH 4 ?_
 refine tkL 5 ?_
 refine wpAnyH_ready (rs:=[6,10]) (by kernel_rfl) (by simp) ?_
 refine (AllReadyH.cons (o:=_) rfl (fun Kmac hKmac=>?_) (AllReadyH.cons (o:=_) rfl (fun Kmac hKmac=>?_) AllReadyH.nil))
 case' refine_1 =>
  go_simp
  refine (hmk _ hBa).mono ?_;rintro e w2 ⟨rfl,K',hst⟩;have h2:=(HB.out.sg.below hBa).img hst;have y0:=h2.run.c0;rw [hst.b] at y0;have y2:w2.cell? ⟨w.heap.size,2,none⟩=some (.string (ofL x.a)):=(World.cell?_of_block (a:=⟨w.heap.size,2,none⟩) (hst.chg.block _ l3 (fun e=>by have:=HFL.out _ e;simp only at this;omega))).trans x2
  try go_wp2_with fail
  refine hKmac.go fun hHeld=>?_
  clear hKmac Kmac
  try refine lyH ?_
  have l12:=h2.run.cel.lt
  have l32:w.heap.size < w2.heap.size:=Nat.lt_of_lt_of_le l3 hst.chg.size
  refine tkH 7 ?_
  refine tkH 8 ?_
  refine tkL 9 ?_
  refine rdH 10 fun Kmac hKmac=>?_
  go_simp
  refine hKmac.go fun hHeld=>?_
  clear hKmac Kmac
  try refine lyH ?_
  refine rdH 11 fun Kmac hKmac=>?_
  go_simp
  refine hKmac.go fun hHeld=>?_
  clear hKmac Kmac
  try refine lyH ?_
  refine tkL 12 ?_
  refine wpAnyH_done (by kernel_rfl) ?_ _
  refine NoPanic.normal ?_
  obtain ⟨W3,hW3⟩:∃ W3,W3=w2.alloc (.cells #[.bool v.obj,.int .i64 v.n] 33):=⟨_,rfl⟩
  obtain ⟨z,hzz⟩:∃ z,z=w2.heap.size:=⟨_,rfl⟩
  rw [← hW3,← hzz]
  have hzb:W3.heap[z]?=some (.cells #[.bool v.obj,.int .i64 v.n] 33):=by rw [hW3,hzz];exact (MapKept.heap_alloc _ _).1
  have hzw:W1.heap.size≤z:=by rw [hzz];exact hst.chg.size
  have H3:Hid (Sg Dd w0 m0 K0 rb W3 m' K' fuel ((fb,mk)::bs) (f::fs)):=by
   have hx:Sg Dd w0 m0 K0 rb W3 m' K' fuel ((fb,mk)::bs) (f::fs):=by rw [hW3];exact h2.below ((Below.refl _ _).alloc (Nat.le_refl _) _)
   exact hx
  clear hW3 hzz h2 hst y0 y2 hmk hBa hBb
 case' refine_2 =>
  go_simp
  refine hKmac.go fun hHeld=>?_
  clear hKmac Kmac
  try refine lyH ?_
  refine rdH 6 fun Kmac hKmac=>?_
  go_simp
  refine (hmk _ hBb).mono ?_;rintro e w2 ⟨rfl,K',hst⟩;have h2:=(HB.out.sg.below hBb).img hst;have y0:=h2.run.c0;rw [hst.b] at y0;have y2:w2.cell? ⟨w.heap.size,2,none⟩=some (.string (ofL x.a)):=(World.cell?_of_block (a:=⟨w.heap.size,2,none⟩) (hst.chg.block _ (by simp;omega) (fun e=>by have:=HFL.out _ e;simp only at this;omega))).trans ((hBb.cell (p:=⟨w.heap.size,2,none⟩) l3).trans x2)
  try go_wp2_with fail
  refine hKmac.go fun hHeld=>?_
  clear hKmac Kmac
  try refine lyH ?_
  have l12:=h2.run.cel.lt
  have hzf:¬ Foot m K W1.heap.size:=fun e=>by have:=HFL.out _ e;omega
  have hz2:w2.heap[W1.heap.size]?=some (.cells #[.bool false,.int .i64 0] 33):=(hst.chg.block _ (by simp) hzf).trans (MapKept.heap_alloc _ _).1
  have u0:w2.cell? ⟨W1.heap.size,0,none⟩=some (.bool false):=by simp only [World.cell?,hz2];rfl
  have u1:w2.cell? ⟨W1.heap.size,1,none⟩=some (.int .i64 0):=by simp only [World.cell?,hz2];rfl
  have uf:∀ o,w2.frozen? ⟨W1.heap.size,o,none⟩=false:=fun o=>Cel.free ⟨_,_,hz2⟩ o
  have q1:¬ W1.heap.size=w.heap.size:=by omega
  have q2:¬ w.heap.size=W1.heap.size:=by omega
  have q3:¬ W1.heap.size=rb:=by omega
  have q4:¬ rb=W1.heap.size:=by omega
  refine tkH 7 ?_
  refine tkH 8 ?_
  refine tkL 9 ?_
  refine rdH 11 fun Kmac hKmac=>?_
  go_simp
  refine hKmac.go fun hHeld=>?_
  clear hKmac Kmac
  try refine lyH ?_
  refine tkL 12 ?_
  refine wpAnyH_done (by kernel_rfl) ?_ _
  refine NoPanic.normal ?_
  obtain ⟨W3,hW3⟩:∃ W3,W3=(w2.setCell ⟨W1.heap.size,0,none⟩ (.bool v.obj)).setCell ⟨W1.heap.size,1,none⟩ (.int .i64 v.n):=⟨_,rfl⟩
  obtain ⟨z,hzz⟩:∃ z,z=W1.heap.size:=⟨_,rfl⟩
  rw [← hW3,← hzz]
  have hzb:W3.heap[z]?=some (.cells #[.bool v.obj,.int .i64 v.n] 33):=by rw [hW3,hzz];exact set2 hz2
  have hzw:W1.heap.size≤z:=by omega
  have H3:Hid (Sg Dd w0 m0 K0 rb W3 m' K' fuel ((fb,mk)::bs) (f::fs)):=by
   have hx:Sg Dd w0 m0 K0 rb W3 m' K' fuel ((fb,mk)::bs) (f::fs):=by
    rw [hW3]
    refine h2.aside h0 (S:=fun k=>k=W1.heap.size) (((Chg.refl _ (fun k=>k=W1.heap.size)).setCell _ _ (fun _=>rfl)).setCell _ _ (fun _=>rfl)) (fun k e=>?_)
    rw [e]
    refine ⟨by have:=HB.out.sg.stp.chg.size;omega,fun e'=>?_,fun e'=>by have:=(HB.out.sg.lo _ e').2.1;omega,fun e'=>by have:=(HB.out.sg.dead _ e').2.1;omega⟩
    rcases hst.foot _ e' with e1 | e1
    · exact hzf e1
    · simp at e1;omega
   exact hx
  clear hW3 hzz h2 hst y0 y2 hmk hBa hBb hz2 u0 u1 uf q1 q2 q3 q4 hzf
 all_goals
  subst he
  have hmu:=must_ok W3
  have ct3:=H3.out.run.ct
  simp only [List.head?_cons,Option.map_some,cptr] at ct3
  have l13:=H3.out.run.cel.lt
  have v0:W3.cell? ⟨z,0,none⟩=some (.bool v.obj):=by simp only [World.cell?,hzb];rfl
  have v1:W3.cell? ⟨z,1,none⟩=some (.int .i64 v.n):=by simp only [World.cell?,hzb];rfl
  have lz3:z < W3.heap.size:=(Array.getElem?_eq_some_iff.1 hzb).1
  have hzf:z≠fb:=fun e=>by have:=HB.out.l2;omega
  have hlay:=lay_any (w:=W3.drew) (H3.out.frs.1.raw.same rfl) hr v
  unfold Vl.val at hlay
  clear hzb
  go_wp2_with fail
  refine hmu.mono ?_
  rintro e w4 ⟨rfl,rfl⟩
  clear hmu
  go_wp2_with fail
  refine wp_region_noPanic ?_
  refine wp_region_held_drew (S:=(fun w'=>w'.cell? ⟨rb,24,none⟩=some (.pointer (some ⟨fb,0,none⟩))∧w'.cell? ⟨z,0,none⟩=some (.bool v.obj)∧w'.cell? ⟨z,1,none⟩=some (.int .i64 v.n))) (by kernel_rfl) (by go_keep) (fun hHeld=>?_)
  refine tkH 0 ?_
  refine tkH 1 ?_
  refine tkH 2 ?_
  refine tkH 3 ?_
  refine tkL 4 ?_
  refine rdH 5 fun Kmac hKmac=>?_
  go_simp
  refine hlay.mono ?_;rintro e w6 ⟨rfl,hf6,hc6⟩;have ct6:w6.cell? ⟨rb,24,none⟩=some (.pointer (some ⟨fb,0,none⟩)):=(World.cell?_of_block (a:=⟨rb,24,none⟩) (hc6.block _ l13 HB.out.n1)).trans ct3;have v06:w6.cell? ⟨z,0,none⟩=some (.bool v.obj):=(World.cell?_of_block (a:=⟨z,0,none⟩) (hc6.block _ lz3 hzf)).trans v0;have v16:w6.cell? ⟨z,1,none⟩=some (.int .i64 v.n):=(World.cell?_of_block (a:=⟨z,1,none⟩) (hc6.block _ lz3 hzf)).trans v1
  try go_wp2_with fail
  refine hKmac.go fun hHeld=>?_
  clear hKmac Kmac
  try refine lyH ?_
  refine wpAnyH_done (by kernel_rfl) ?_ _
  refine NoPanic.normal ?_
  go_end0
  exact ⟨rfl,K',_,H3.out.top (f':={ f with st:=v::f.st }) h0 ((Chg.refl _ (fun k=>k=fb)).drew.then hc6 (fun k _ e=>e)) hf6 rfl rfl⟩
theorem do_new_no {rb:Nat}{fuel fb mk:Nat} (h:Sg Dd w0 m0 K0 rb w m K fuel ((fb,mk)::bs) (f::fs)) (h0:Glo w0) (x:Kn.W) (pl:Option Addr) (hk:x.k=119) (hr:f.st.length < 16) (he:(m.make (ofL x.a)).2.1≠0) :
 Calls Tryz.prog 130 #[.pointer (some ⟨rb,0,none⟩),wval x pl] w (WPost Dd w0 m0 K0 rb (wordM m fuel x f fs)):=by
 have hw:wordM m fuel x f fs=.stop (m.make (ofL x.a)).2.2 3:=by unfold wordM;simp [hk,he]
 rw [hw]
 obtain ⟨W1,hW1⟩:∃ W1,W1=w.alloc (.cells (wcs x pl) 146):=⟨_,rfl⟩
 have B:=h.box x pl hW1
 have c0:=B.c0
 have x2:=B.x2
 have l1:=B.l1
 have l3:=B.l3
 have HB:Hid _:=B
 have hmk:∀ W,Below W1.heap.size W1 W→Calls Tryz.prog 16 #[.pointer (some ⟨K.b,0,none⟩),.string (ofL x.a)] W fun e w'=>e=.returned (.tuple #[(m.make (ofL x.a)).1.val,.int .i64 (m.make (ofL x.a)).2.1])∧∃ K',Step W w' m K (m.make (ofL x.a)).2.2 K':=fun W hW=>make_any (B.sg.below hW).stp.kim (ofL x.a)
 obtain ⟨⟨v,e0,m'⟩,hd⟩:∃ q,m.make (ofL x.a)=q:=⟨_,rfl⟩
 rw [hd] at he hmk ⊢
 simp only at he hmk ⊢
 have HFL:Hid (∀ k,Foot m K k→k < w.heap.size):=by
  have hx:∀ k,Foot m K k→k < w.heap.size:=fun k e=>h.stp.kim.lt e
  exact hx
 unfold Vl.val at hmk
 unfold wcs at hW1
 unfold wval wcs
 have hBa:Below W1.heap.size W1 W1.drew:=(Below.refl _ _).drew
 have hBb:Below W1.heap.size W1 (W1.alloc (.cells #[.bool false,.int .i64 0] 33)).drew:=((Below.refl _ _).alloc (Nat.le_refl _) _).drew
 clear B h hw hk hd
 go_enter Tryz.func130,Tryz.ntmps130
 go_wp2_with fail
 rw [← hW1]
 clear hW1
 refine wp_region_noPanic ?_
 refine wp_region_held_drew (S:=(fun w'=>w'.cell? ⟨rb,0,none⟩=some (.pointer (some ⟨K.b,0,none⟩))∧w'.cell? ⟨w.heap.size,2,none⟩=some (.string (ofL x.a)))) (by kernel_rfl) (by go_keep) (fun hHeld=>?_)
 refine tkH 0 ?_
 refine tkH 1 ?_
 refine tkH 2 ?_
 refine tkH 3 ?_
 refine tkH 4 ?_
 refine tkL 5 ?_
 refine wpAnyH_ready (rs:=[6,10]) (by kernel_rfl) (by simp) ?_
 refine (AllReadyH.cons (o:=_) rfl (fun Kmac hKmac=>?_) (AllReadyH.cons (o:=_) rfl (fun Kmac hKmac=>?_) AllReadyH.nil))
 case' refine_1 =>
  go_simp
  refine (hmk _ hBa).mono ?_;rintro e w2 ⟨rfl,K',hst⟩;have h2:=(HB.out.sg.below hBa).img hst;have y0:=h2.run.c0;rw [hst.b] at y0;have y2:w2.cell? ⟨w.heap.size,2,none⟩=some (.string (ofL x.a)):=(World.cell?_of_block (a:=⟨w.heap.size,2,none⟩) (hst.chg.block _ l3 (fun e=>by have:=HFL.out _ e;simp only at this;omega))).trans x2
  try go_wp2_with fail
  refine hKmac.go fun hHeld=>?_
  clear hKmac Kmac
  try refine lyH ?_
  have l12:=h2.run.cel.lt
  have l32:w.heap.size < w2.heap.size:=Nat.lt_of_lt_of_le l3 hst.chg.size
  refine tkH 7 ?_
  refine tkH 8 ?_
  refine tkL 9 ?_
  refine rdH 10 fun Kmac hKmac=>?_
  go_simp
  refine hKmac.go fun hHeld=>?_
  clear hKmac Kmac
  try refine lyH ?_
  refine rdH 11 fun Kmac hKmac=>?_
  go_simp
  refine hKmac.go fun hHeld=>?_
  clear hKmac Kmac
  try refine lyH ?_
  refine tkL 12 ?_
  refine wpAnyH_done (by kernel_rfl) ?_ _
  refine NoPanic.normal ?_
  obtain ⟨W3,hW3⟩:∃ W3,W3=w2.alloc (.cells #[.bool v.obj,.int .i64 v.n] 33):=⟨_,rfl⟩
  obtain ⟨z,hzz⟩:∃ z,z=w2.heap.size:=⟨_,rfl⟩
  rw [← hW3,← hzz]
  have hzb:W3.heap[z]?=some (.cells #[.bool v.obj,.int .i64 v.n] 33):=by rw [hW3,hzz];exact (MapKept.heap_alloc _ _).1
  have hzw:W1.heap.size≤z:=by rw [hzz];exact hst.chg.size
  have H3:Hid (Sg Dd w0 m0 K0 rb W3 m' K' fuel ((fb,mk)::bs) (f::fs)):=by
   have hx:Sg Dd w0 m0 K0 rb W3 m' K' fuel ((fb,mk)::bs) (f::fs):=by rw [hW3];exact h2.below ((Below.refl _ _).alloc (Nat.le_refl _) _)
   exact hx
  clear hW3 hzz h2 hst y0 y2 hmk hBa hBb
 case' refine_2 =>
  go_simp
  refine hKmac.go fun hHeld=>?_
  clear hKmac Kmac
  try refine lyH ?_
  refine rdH 6 fun Kmac hKmac=>?_
  go_simp
  refine (hmk _ hBb).mono ?_;rintro e w2 ⟨rfl,K',hst⟩;have h2:=(HB.out.sg.below hBb).img hst;have y0:=h2.run.c0;rw [hst.b] at y0;have y2:w2.cell? ⟨w.heap.size,2,none⟩=some (.string (ofL x.a)):=(World.cell?_of_block (a:=⟨w.heap.size,2,none⟩) (hst.chg.block _ (by simp;omega) (fun e=>by have:=HFL.out _ e;simp only at this;omega))).trans ((hBb.cell (p:=⟨w.heap.size,2,none⟩) l3).trans x2)
  try go_wp2_with fail
  refine hKmac.go fun hHeld=>?_
  clear hKmac Kmac
  try refine lyH ?_
  have l12:=h2.run.cel.lt
  have hzf:¬ Foot m K W1.heap.size:=fun e=>by have:=HFL.out _ e;omega
  have hz2:w2.heap[W1.heap.size]?=some (.cells #[.bool false,.int .i64 0] 33):=(hst.chg.block _ (by simp) hzf).trans (MapKept.heap_alloc _ _).1
  have u0:w2.cell? ⟨W1.heap.size,0,none⟩=some (.bool false):=by simp only [World.cell?,hz2];rfl
  have u1:w2.cell? ⟨W1.heap.size,1,none⟩=some (.int .i64 0):=by simp only [World.cell?,hz2];rfl
  have uf:∀ o,w2.frozen? ⟨W1.heap.size,o,none⟩=false:=fun o=>Cel.free ⟨_,_,hz2⟩ o
  have q1:¬ W1.heap.size=w.heap.size:=by omega
  have q2:¬ w.heap.size=W1.heap.size:=by omega
  have q3:¬ W1.heap.size=rb:=by omega
  have q4:¬ rb=W1.heap.size:=by omega
  refine tkH 7 ?_
  refine tkH 8 ?_
  refine tkL 9 ?_
  refine rdH 11 fun Kmac hKmac=>?_
  go_simp
  refine hKmac.go fun hHeld=>?_
  clear hKmac Kmac
  try refine lyH ?_
  refine tkL 12 ?_
  refine wpAnyH_done (by kernel_rfl) ?_ _
  refine NoPanic.normal ?_
  obtain ⟨W3,hW3⟩:∃ W3,W3=(w2.setCell ⟨W1.heap.size,0,none⟩ (.bool v.obj)).setCell ⟨W1.heap.size,1,none⟩ (.int .i64 v.n):=⟨_,rfl⟩
  obtain ⟨z,hzz⟩:∃ z,z=W1.heap.size:=⟨_,rfl⟩
  rw [← hW3,← hzz]
  have hzb:W3.heap[z]?=some (.cells #[.bool v.obj,.int .i64 v.n] 33):=by rw [hW3,hzz];exact set2 hz2
  have hzw:W1.heap.size≤z:=by omega
  have H3:Hid (Sg Dd w0 m0 K0 rb W3 m' K' fuel ((fb,mk)::bs) (f::fs)):=by
   have hx:Sg Dd w0 m0 K0 rb W3 m' K' fuel ((fb,mk)::bs) (f::fs):=by
    rw [hW3]
    refine h2.aside h0 (S:=fun k=>k=W1.heap.size) (((Chg.refl _ (fun k=>k=W1.heap.size)).setCell _ _ (fun _=>rfl)).setCell _ _ (fun _=>rfl)) (fun k e=>?_)
    rw [e]
    refine ⟨by have:=HB.out.sg.stp.chg.size;omega,fun e'=>?_,fun e'=>by have:=(HB.out.sg.lo _ e').2.1;omega,fun e'=>by have:=(HB.out.sg.dead _ e').2.1;omega⟩
    rcases hst.foot _ e' with e1 | e1
    · exact hzf e1
    · simp at e1;omega
   exact hx
  clear hW3 hzz h2 hst y0 y2 hmk hBa hBb hz2 u0 u1 uf q1 q2 q3 q4 hzf
 all_goals
  have hmu:=must_no e0 he W3
  clear hzb
  go_wp2_with fail
  refine hmu.mono ?_
  rintro e w4 ⟨rfl,rfl⟩
  clear hmu
  go_wp2
  exact ⟨rfl,rfl,K',H3.out.stp⟩
theorem do_store {rb:Nat}{fuel fb mk:Nat} (h:Sg Dd w0 m0 K0 rb w m K fuel ((fb,mk)::bs) (f::fs)) (h0:Glo w0) (x:Kn.W) (pl:Option Addr) (hk:x.k=112) {v:Vl}{r:List Vl} (hst:f.st=v::r) {i j:Nat}{o:Ob} (hi:f.self.n=i) (ho:m.obs[i]?=some o) (hj:x.n=j) (hjl:j < o.slots.length) (hm':ImOk { m with obs:=m.obs.modify i (fun o=>{ o with slots:=o.slots.set j v }) }) :
 Calls Tryz.prog 118 #[.pointer (some ⟨rb,0,none⟩),wval x pl] w (WPost Dd w0 m0 K0 rb (wordM m fuel x f fs)):=by
 have hw:wordM m fuel x f fs=.on { m with obs:=m.obs.modify i (fun o=>{ o with slots:=o.slots.set j v }) } fuel ({ f with st:=r }::fs):=by unfold wordM;simp [hk,hst,hi,hj]
 rw [hw]
 obtain ⟨W1,hW1⟩:∃ W1,W1=w.alloc (.cells (wcs x pl) 146):=⟨_,rfl⟩
 have B:=h.box x pl hW1
 have ct:=B.ct
 have c0:=B.c0
 have x1:=B.x1
 rw [hj] at x1
 have l1:=B.l1
 have l2:=B.l2
 have l3:=B.l3
 have h1:=B.sg.stp.kim
 obtain ⟨p,cap,hov,hf⟩:=h1.obs.form
 obtain ⟨g,hg,hF⟩:=hf i o ho
 have c1:=h1.hd.c1
 rw [hov] at c1
 obtain ⟨rfl⟩:=hF.p
 have o1:=hF.c1
 have hraw:=B.sg.frs.1.raw
 have s3:=hraw.c3
 rw [hi] at s3
 rw [hst] at hraw
 have htk:=take_any (w:=W1.drew) (hraw.same rfl)
 unfold Vl.val at htk
 have hil:(i:Int) < (m.obs.length:Int):=by have:=(List.getElem?_eq_some_iff.1 ho).1;omega
 have hjl':(j:Int) < (o.slots.length:Int):=by omega
 have hbl:=h1.cor.tab.cel.lt
 have hnF:∀ k,k∈rb::((fb,mk)::bs).map (·.1)→¬ Foot m K k:=fun k e=>(B.sg.lo k e).2.2
 have hgF:Foot m K g:=.inr (.inr (.inr (.inr (.inl (.inl (by rw [hov];rfl))))))
 have hoF:Foot m K (K.ob i):=.inr (.inr (.inr (.inr (.inl (.inr ⟨i,(List.getElem?_eq_some_iff.1 ho).1,rfl⟩)))))
 have hn1:K.b≠fb:=fun e=>hnF fb (by simp) (by rw [← e];exact .inl rfl)
 have hn2:g≠fb:=fun e=>hnF fb (by simp) (by rw [← e];exact hgF)
 have hn3:K.ob i≠fb:=fun e=>hnF fb (by simp) (by rw [← e];exact hoF)
 have hn4:¬ K.ob i=rb:=fun e=>hnF rb (by simp) (by rw [← e];exact hoF)
 have hn5:¬ rb=K.ob i:=fun e=>hn4 e.symm
 have hn6:¬ fb=K.ob i:=fun e=>hn3 e.symm
 have hn7:¬ K.ob i=w.heap.size:=fun e=>B.nf (by rw [← e];exact hoF)
 have hn8:¬ w.heap.size=K.ob i:=fun e=>hn7 e.symm
 have hat:=h1.obs.at_ i o ho
 have hn9:¬ K.ob i=K.b:=fun e=>by
  obtain ⟨cur,hcur⟩:=h1.cor.img
  rw [e,hcur] at hat
  injection hat with hat
  injection hat with _ hat _
  revert hat
  decide
 have hna:¬ K.b=K.ob i:=fun e=>hn9 e.symm
 have hnb:¬ K.ob i=g:=fun e=>by
  obtain ⟨cs,hcs⟩:=hF.typ
  rw [e,hcs] at hat
  injection hat with hat
  injection hat with _ hat _
  revert hat
  decide
 have hnc:¬ g=K.ob i:=fun e=>hnb e.symm
 have lg:=h1.lt hgF
 have lo:=h1.lt hoF
 obtain ⟨u,hu⟩:∃ u,o.slots[j]?=some u:=⟨_,List.getElem?_eq_getElem hjl⟩
 obtain ⟨u0,u1⟩:=h1.obs.val ho hu
 have uf:∀ k,W1.frozen? ⟨K.ob i,k,none⟩=false:=fun k=>Cel.free ⟨_,_,hat⟩ k
 have HO:Hid (m.obs[i]?=some o∧j < o.slots.length∧ImOk { m with obs:=m.obs.modify i (fun o=>{ o with slots:=o.slots.set j v }) }∧f.self.n=i):=⟨ho,hjl,hm',hi⟩
 have HB:Hid _:=B
 have HST:Hid _:=hst
 unfold wcs at hW1
 unfold wval wcs
 clear B h hw hk hi hj h1 hf hF hg hov ho hgF hoF hnF hraw hst hu hat hm'
 go_enter Tryz.func118,Tryz.ntmps118
 go_wp2_with fail
 rw [← hW1]
 clear hW1
 refine wp_region_noPanic ?_
 refine wp_region_held_drew (S:=(fun w'=>w'.cell? ⟨rb,24,none⟩=some (.pointer (some ⟨fb,0,none⟩))∧w'.cell? ⟨rb,0,none⟩=some (.pointer (some ⟨K.b,0,none⟩))∧w'.cell? ⟨w.heap.size,1,none⟩=some (.int .i64 (j:Nat))∧w'.cell? ⟨K.b,1,none⟩=some (.slice (some ⟨g,0,none⟩) m.obs.length cap)∧w'.cell? ⟨fb,3,none⟩=some (.int .i64 (i:Nat))∧w'.cell? ⟨g,i*2+1,none⟩=some (.slice (some ⟨K.ob i,0,none⟩) o.slots.length o.slots.length))) (by kernel_rfl) (by go_keep) (fun hHeld=>?_)
 refine tkH 0 ?_
 refine tkH 1 ?_
 refine tkH 2 ?_
 refine tkH 3 ?_
 refine tkH 4 ?_
 refine tkH 5 ?_
 refine tkH 6 ?_
 refine tkH 7 ?_
 refine tkH 8 ?_
 refine tkH 9 ?_
 refine tkH 10 ?_
 refine tkH 11 ?_
 refine tkH 12 ?_
 refine tkH 13 ?_
 refine tkH 14 ?_
 refine tkH 18 ?_
 refine tkH 19 ?_
 refine tkH 20 ?_
 refine tkH 21 ?_
 refine tkH 22 ?_
 refine tkL 23 ?_
 refine wpAnyH_ready (rs:=[15,24]) (by kernel_rfl) (by simp) ?_
 refine (AllReadyH.cons (o:=_) rfl (fun Kmac hKmac=>?_) (AllReadyH.cons (o:=_) rfl (fun Kmac hKmac=>?_) AllReadyH.nil))
 case' refine_1 =>
  go_simp
  refine hKmac.go fun hHeld=>?_
  clear hKmac Kmac
  try refine lyH ?_
  refine tkH 16 ?_
  refine tkL 17 ?_
  refine rdH 24 fun Kmac hKmac=>?_
  go_simp
  refine htk.mono ?_;rintro e w3 ⟨rfl,hf3,hc3⟩;have d1:w3.cell? ⟨rb,24,none⟩=some (.pointer (some ⟨fb,0,none⟩)):=(World.cell?_of_block (a:=⟨rb,24,none⟩) (hc3.block _ l1 HB.out.n1)).trans ct;have d2:w3.cell? ⟨rb,0,none⟩=some (.pointer (some ⟨K.b,0,none⟩)):=(World.cell?_of_block (a:=⟨rb,0,none⟩) (hc3.block _ l1 HB.out.n1)).trans c0;have d3:w3.cell? ⟨w.heap.size,1,none⟩=some (.int .i64 (j:Nat)):=(World.cell?_of_block (a:=⟨w.heap.size,1,none⟩) (hc3.block _ l3 HB.out.n2)).trans x1;have d4:w3.cell? ⟨K.b,1,none⟩=some (.slice (some ⟨g,0,none⟩) m.obs.length cap):=(World.cell?_of_block (a:=⟨K.b,1,none⟩) (hc3.block _ hbl hn1)).trans c1;have d5:w3.cell? ⟨fb,3,none⟩=some (.int .i64 (i:Nat)):=by { have:=hf3.c3;rw [HO.out.2.2.2] at this;exact this };have d6:w3.cell? ⟨g,i*2+1,none⟩=some (.slice (some ⟨K.ob i,0,none⟩) o.slots.length o.slots.length):=(World.cell?_of_block (a:=⟨g,i*2+1,none⟩) (hc3.block _ lg hn2)).trans o1
  try go_wp2_with fail
  refine hKmac.go fun hHeld=>?_
  clear hKmac Kmac
  try refine lyH ?_
 case' refine_2 =>
  go_simp
  refine htk.mono ?_;rintro e w3 ⟨rfl,hf3,hc3⟩;have d1:w3.cell? ⟨rb,24,none⟩=some (.pointer (some ⟨fb,0,none⟩)):=(World.cell?_of_block (a:=⟨rb,24,none⟩) (hc3.block _ l1 HB.out.n1)).trans ct;have d2:w3.cell? ⟨rb,0,none⟩=some (.pointer (some ⟨K.b,0,none⟩)):=(World.cell?_of_block (a:=⟨rb,0,none⟩) (hc3.block _ l1 HB.out.n1)).trans c0;have d3:w3.cell? ⟨w.heap.size,1,none⟩=some (.int .i64 (j:Nat)):=(World.cell?_of_block (a:=⟨w.heap.size,1,none⟩) (hc3.block _ l3 HB.out.n2)).trans x1;have d4:w3.cell? ⟨K.b,1,none⟩=some (.slice (some ⟨g,0,none⟩) m.obs.length cap):=(World.cell?_of_block (a:=⟨K.b,1,none⟩) (hc3.block _ hbl hn1)).trans c1;have d5:w3.cell? ⟨fb,3,none⟩=some (.int .i64 (i:Nat)):=by { have:=hf3.c3;rw [HO.out.2.2.2] at this;exact this };have d6:w3.cell? ⟨g,i*2+1,none⟩=some (.slice (some ⟨K.ob i,0,none⟩) o.slots.length o.slots.length):=(World.cell?_of_block (a:=⟨g,i*2+1,none⟩) (hc3.block _ lg hn2)).trans o1
  try go_wp2_with fail
  refine hKmac.go fun hHeld=>?_
  clear hKmac Kmac
  try refine lyH ?_
  refine rdH 15 fun Kmac hKmac=>?_
  go_simp
  refine hKmac.go fun hHeld=>?_
  clear hKmac Kmac
  try refine lyH ?_
  refine tkH 16 ?_
  refine tkL 17 ?_
 all_goals
  have u03:w3.cell? ⟨K.ob i,j*2,none⟩=some (.bool u.obj):=(World.cell?_of_block (a:=⟨K.ob i,j*2,none⟩) (hc3.block _ lo hn3)).trans u0
  have u13:w3.cell? ⟨K.ob i,j*2+1,none⟩=some (.int .i64 u.n):=(World.cell?_of_block (a:=⟨K.ob i,j*2+1,none⟩) (hc3.block _ lo hn3)).trans u1
  have uf3:∀ k,w3.frozen? ⟨K.ob i,k,none⟩=false:=fun k=>(World.frozen?_of_block (a:=⟨K.ob i,k,none⟩) (hc3.block _ lo hn3)).trans (uf k)
  have h3:=HB.out.sg.top (f':={ f with st:=r }) h0 ((Chg.refl W1 (fun k=>k=fb)).drew.then hc3 (fun k _ e=>e)) hf3 rfl rfl
  have H3:Hid _:=h3
  clear htk h3 hf3 hc3 uf
  refine rdH 25 fun Kmac hKmac=>?_
  go_simp
  refine hKmac.go fun hHeld=>?_
  clear hKmac Kmac
  try refine lyH ?_
  refine rdH 26 fun Kmac hKmac=>?_
  go_simp
  refine hKmac.go fun hHeld=>?_
  clear hKmac Kmac
  try refine lyH ?_
  refine wpAnyH_done (by kernel_rfl) ?_ _
  refine NoPanic.normal ?_
  go_end0
  exact ⟨rfl,K,_,H3.out.img (H3.out.stp.kim.restore HO.out.1 HO.out.2.1 HO.out.2.2.1)⟩
end Go.Proofs.YtkghmgoefiepeaaGreatDoor.reads
