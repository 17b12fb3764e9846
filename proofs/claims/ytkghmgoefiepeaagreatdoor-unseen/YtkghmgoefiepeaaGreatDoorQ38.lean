import Derived.Test.YtkghmgoefiepeaaGreatDoorQ0
import Derived.Test.YtkghmgoefiepeaaGreatDoorQ37
set_option linter.unusedSimpArgs false
set_option linter.unusedVariables false
set_option maxHeartbeats 4000000
set_option maxRecDepth 100000
namespace Go.Proofs.YtkghmgoefiepeaaGreatDoor.reads
open Go.ChangeShapes Go.WideShapes Go.ChangeAt Go.RowKit Kn Go.Proofs.YtkghmgoefiepeaaGreatDoor.img
theorem truth_any (b:Bool) (w:World):Calls Tryz.prog 146 #[.bool b] w fun e w'=>e=.returned (b2v b).val∧Below w.heap.size w w':=by
 unfold b2v Vl.val
 cases b with
 | true =>
  go_enter Tryz.func146,Tryz.ntmps146
  go_wp2
  refine bodyPost_ret (results_v1 (z:=w.heap.size) Tryz.results146 (.bool false) (.int .i64 1) rfl (new_cell _ _ _ _ 0 rfl) (new_cell _ _ _ _ 1 rfl)) rfl ⟨rfl,(Below.refl _ w).alloc (Nat.le_refl _) _⟩
 | false =>
  go_enter Tryz.func146,Tryz.ntmps146
  go_wp2
  refine bodyPost_ret (results_v1 (z:=w.heap.size) Tryz.results146 (.bool false) (.int .i64 0) rfl (new_cell _ _ _ _ 0 rfl) (new_cell _ _ _ _ 1 rfl)) rfl ⟨rfl,(Below.refl _ w).alloc (Nat.le_refl _) _⟩
variable {w0 : World}
variable {m m0 : Im}
variable {K K0 : Kd}
variable {Dd : Nat → Prop}
variable {bs : List (Nat × Nat)}
variable {fs : List Fr}
variable {f : Fr}
theorem Bx.gave {rb:Nat}{w W1 w2:World}{fuel fb mk:Nat}{x:Kn.W}{pl:Option Addr} (h:Bx Dd w0 m0 K0 rb w W1 m K fuel fb mk bs f fs x pl) (h0:Glo w0) (hc:Chg W1 w2 (fun k=>k=fb)):Step w0 w2 m0 K0 m K :=
 h.sg.stp.aside hc (fun k e=>by have:=h.sg.lo fb (by simp);rw [e];exact ⟨this.1,this.2.2⟩) (fun k hk=>h0.lt hk)
variable {w : World}
theorem do_self {rb:Nat}{fuel fb mk:Nat} (h:Sg Dd w0 m0 K0 rb w m K fuel ((fb,mk)::bs) (f::fs)) (h0:Glo w0) (x:Kn.W) (pl:Option Addr) (hk:x.k=109) (hr:f.st.length < 16) :
 Calls Tryz.prog 115 #[.pointer (some ⟨rb,0,none⟩),wval x pl] w (WPost Dd w0 m0 K0 rb (wordM m fuel x f fs)):=by
 have hw:wordM m fuel x f fs=.on m fuel ({ f with st:=f.self::f.st }::fs):=by unfold wordM;simp [hk]
 rw [hw]
 obtain ⟨W1,hW1⟩:∃ W1,W1=w.alloc (.cells (wcs x pl) 146):=⟨_,rfl⟩
 have B:=h.box x pl hW1
 have ct:=B.ct
 have l1:=B.l1
 have l2:=B.l2
 have l3:=B.l3
 have s2:=B.sg.frs.1.raw.c2
 have s3:=B.sg.frs.1.raw.c3
 have hlay:=lay_any (w:=W1.drew) (B.sg.frs.1.raw.same rfl) hr f.self
 unfold Vl.val at hlay
 have HB:Hid _:=B
 unfold wcs at hW1
 unfold wval wcs
 clear B h hw hk 
 go_enter Tryz.func115,Tryz.ntmps115
 go_wp2_with fail
 rw [← hW1]
 clear hW1
 refine wp_region_noPanic ?_
 refine wp_region_held_drew (S:=(fun w'=>w'.cell? ⟨rb,24,none⟩=some (.pointer (some ⟨fb,0,none⟩))∧w'.cell? ⟨fb,2,none⟩=some (.bool f.self.obj)∧w'.cell? ⟨fb,3,none⟩=some (.int .i64 f.self.n))) (by kernel_rfl) (by go_keep) (fun hHeld=>?_)
 refine tkH 0 ?_
 refine tkH 1 ?_
 refine tkH 2 ?_
 refine tkH 3 ?_
 refine tkH 4 ?_
 refine tkH 5 ?_
 refine tkH 6 ?_
 refine tkH 7 ?_
 refine tkH 8 ?_
 refine tkH 9 ?_
 refine tkL 10 ?_
 refine rdH 11 fun Kmac hKmac=>?_
 go_simp
 refine hlay.mono ?_;rintro e w3 ⟨rfl,hf3,hc3⟩;have ct3:w3.cell? ⟨rb,24,none⟩=some (.pointer (some ⟨fb,0,none⟩)):=(World.cell?_of_block (a:=⟨rb,24,none⟩) (hc3.block _ l1 HB.out.n1)).trans ct;have s23:=hf3.c2;have s33:=hf3.c3
 try go_wp2_with fail
 refine hKmac.go fun hHeld=>?_
 clear hKmac Kmac
 try refine lyH ?_
 refine wpAnyH_done (by kernel_rfl) ?_ _
 refine NoPanic.normal ?_
 go_end0
 exact ⟨rfl,K,_,HB.out.sg.top (f':={ f with st:=f.self::f.st }) h0 ((Chg.refl W1 _).drew.then hc3 (fun k _ e=>e)) hf3 rfl rfl⟩
theorem do_arg {rb:Nat}{fuel fb mk:Nat} (h:Sg Dd w0 m0 K0 rb w m K fuel ((fb,mk)::bs) (f::fs)) (h0:Glo w0) (x:Kn.W) (pl:Option Addr) (hk:x.k=97) (hr:f.st.length < 16) (i:Nat) (hi:x.n=i) (i3:i < 3) (v:Vl) (hv:f.args[i]?=some v) :
 Calls Tryz.prog 116 #[.pointer (some ⟨rb,0,none⟩),wval x pl] w (WPost Dd w0 m0 K0 rb (wordM m fuel x f fs)):=by
 have hw:wordM m fuel x f fs=.on m fuel ({ f with st:=v::f.st }::fs):=by unfold wordM;simp [hk,hi,hv]
 rw [hw]
 obtain ⟨W1,hW1⟩:∃ W1,W1=w.alloc (.cells (wcs x pl) 146):=⟨_,rfl⟩
 have B:=h.box x pl hW1
 have ct:=B.ct
 have x1:=B.x1
 have l1:=B.l1
 have l2:=B.l2
 have l3:=B.l3
 rw [hi] at x1
 have i3':(i:Int) < 3:=by omega
 obtain ⟨s2,s3⟩:=B.sg.frs.1.raw.ca i v hv
 have hlay:=lay_any (w:=W1.drew) (B.sg.frs.1.raw.same rfl) hr v
 unfold Vl.val at hlay
 have HV:Hid _:=hv
 have HI:Hid _:=hi
 have HB:Hid _:=B
 unfold wcs at hW1
 unfold wval wcs
 clear B h hw hk hi hv
 go_enter Tryz.func116,Tryz.ntmps116
 go_wp2_with fail
 rw [← hW1]
 clear hW1
 refine wp_region_noPanic ?_
 refine wp_region_held_drew (S:=(fun w'=>w'.cell? ⟨rb,24,none⟩=some (.pointer (some ⟨fb,0,none⟩))∧w'.cell? ⟨w.heap.size,1,none⟩=some (.int .i64 (i:Nat))∧w'.cell? ⟨fb,4+i*2,none⟩=some (.bool v.obj)∧w'.cell? ⟨fb,4+i*2+1,none⟩=some (.int .i64 v.n))) (by kernel_rfl) (by go_keep) (fun hHeld=>?_)
 refine tkH 0 ?_
 refine tkH 1 ?_
 refine tkH 2 ?_
 refine tkH 3 ?_
 refine tkH 4 ?_
 refine tkH 5 ?_
 refine tkH 6 ?_
 refine tkH 7 ?_
 refine tkH 8 ?_
 refine tkH 9 ?_
 refine tkH 10 ?_
 refine tkL 11 ?_
 refine rdH 12 fun Kmac hKmac=>?_
 go_simp
 refine hKmac.go fun hHeld=>?_
 clear hKmac Kmac
 try refine lyH ?_
 refine tkL 13 ?_
 refine rdH 14 fun Kmac hKmac=>?_
 go_simp
 refine hlay.mono ?_;rintro e w3 ⟨rfl,hf3,hc3⟩;have ct3:w3.cell? ⟨rb,24,none⟩=some (.pointer (some ⟨fb,0,none⟩)):=(World.cell?_of_block (a:=⟨rb,24,none⟩) (hc3.block _ l1 HB.out.n1)).trans ct;have x13:w3.cell? ⟨w.heap.size,1,none⟩=some (.int .i64 (i:Nat)):=(World.cell?_of_block (a:=⟨w.heap.size,1,none⟩) (hc3.block _ l3 HB.out.n2)).trans x1;have s23:=(hf3.ca i v HV.out).1;have s33:=(hf3.ca i v HV.out).2
 try go_wp2_with fail
 refine hKmac.go fun hHeld=>?_
 clear hKmac Kmac
 try refine lyH ?_
 refine wpAnyH_done (by kernel_rfl) ?_ _
 refine NoPanic.normal ?_
 go_end0
 exact ⟨rfl,K,_,HB.out.sg.top (f':={ f with st:=v::f.st }) h0 ((Chg.refl W1 _).drew.then hc3 (fun k _ e=>e)) hf3 rfl rfl⟩
theorem do_add_ok {rb:Nat}{fuel fb mk:Nat} (h:Sg Dd w0 m0 K0 rb w m K fuel ((fb,mk)::bs) (f::fs)) (h0:Glo w0) (x:Kn.W) (pl:Option Addr) (hk:x.k=43) {a b:Int}{r:List Vl} (hst:f.st=⟨false,b⟩::⟨false,a⟩::r) :
 Calls Tryz.prog 119 #[.pointer (some ⟨rb,0,none⟩),wval x pl] w (WPost Dd w0 m0 K0 rb (wordM m fuel x f fs)):=by
 have hw:wordM m fuel x f fs=.on m fuel ({ f with st:=⟨false,Kn.wrap64 (a+b)⟩::r }::fs):=by unfold wordM;simp [hk,hst]
 rw [hw]
 obtain ⟨W1,hW1⟩:∃ W1,W1=w.alloc (.cells (wcs x pl) 146):=⟨_,rfl⟩
 have B:=h.box x pl hW1
 have ct:=B.ct
 have l1:=B.l1
 have l2:=B.l2
 have l3:=B.l3
 have ctw:=h.run.ct
 simp only [List.head?_cons,Option.map_some,cptr] at ctw
 have lw:=(h.lo rb (by simp)).2.1
 have hraw:=B.sg.frs.1.raw
 have h16:=hraw.s16
 rw [hst] at hraw h16
 simp only [List.length_cons] at h16
 have hcall:=takeNs_ok hraw
 clear hraw
 rw [show Kn.wrap64 (a+b)=Go.RowKit.wrap64 (a+b) from by unfold Kn.wrap64 Go.RowKit.wrap64;exact IntKind.wrap_i64 _]
 have HB:Hid _:=B
 unfold wcs at hW1
 unfold wval wcs
 clear B h hw hk hst
 go_enter Tryz.func119,Tryz.ntmps119
 go_wp2_with fail
 rw [← hW1]
 clear hW1
 clear ctw lw
 refine hcall.mono ?_
 rintro e w2 ⟨rfl,hf2,hc2⟩
 have ct2:w2.cell? ⟨rb,24,none⟩=some (.pointer (some ⟨fb,0,none⟩)):=(World.cell?_of_block (a:=⟨rb,24,none⟩) (hc2.block _ l1 HB.out.n1)).trans ct
 have hrl2:rb < w2.heap.size:=Nat.lt_of_lt_of_le l1 hc2.size
 have hlay:=lay_any hf2 (by omega) ⟨false,Go.RowKit.wrap64 (a+b)⟩
 unfold Vl.val at hlay
 clear hcall hf2
 go_wp2_with fail
 refine hlay.mono ?_
 rintro e w3 ⟨rfl,hf3,hc3⟩
 have HF3:Hid _:=hf3
 clear hf3 hlay
 go_wp2
 go_end0
 exact ⟨rfl,K,_,HB.out.sg.top (f':={ f with st:=⟨false,Go.RowKit.wrap64 (a+b)⟩::r }) h0 (hc2.then hc3 (fun k _ e=>e)) HF3.out rfl rfl⟩
theorem do_add_no {rb:Nat}{fuel fb mk:Nat} (h:Sg Dd w0 m0 K0 rb w m K fuel ((fb,mk)::bs) (f::fs)) (h0:Glo w0) (x:Kn.W) (pl:Option Addr) (hk:x.k=43) {a b:Vl}{r:List Vl} (hst:f.st=b::a::r) (ho:(a.obj||b.obj)=true) :
 Calls Tryz.prog 119 #[.pointer (some ⟨rb,0,none⟩),wval x pl] w (WPost Dd w0 m0 K0 rb (wordM m fuel x f fs)):=by
 have hw:wordM m fuel x f fs=.stop m 3:=by unfold wordM;simp [hk,hst,ho]
 rw [hw]
 obtain ⟨W1,hW1⟩:∃ W1,W1=w.alloc (.cells (wcs x pl) 146):=⟨_,rfl⟩
 have B:=h.box x pl hW1
 have ct:=B.ct
 have l1:=B.l1
 have l2:=B.l2
 have l3:=B.l3
 have ctw:=h.run.ct
 simp only [List.head?_cons,Option.map_some,cptr] at ctw
 have lw:=(h.lo rb (by simp)).2.1
 have hraw:=B.sg.frs.1.raw
 rw [hst] at hraw
 have hcall:=takeNs_no hraw ho
 clear hraw
 have HB:Hid _:=B
 unfold wcs at hW1
 unfold wval wcs
 clear B h hw hk hst ho
 go_enter Tryz.func119,Tryz.ntmps119
 go_wp2_with fail
 rw [← hW1]
 clear hW1
 refine hcall.mono ?_
 rintro e w2 ⟨rfl,hc2⟩
 clear hcall
 go_wp2
 exact ⟨rfl,rfl,K,HB.out.gave h0 hc2⟩
theorem do_sub_ok {rb:Nat}{fuel fb mk:Nat} (h:Sg Dd w0 m0 K0 rb w m K fuel ((fb,mk)::bs) (f::fs)) (h0:Glo w0) (x:Kn.W) (pl:Option Addr) (hk:x.k=45) {a b:Int}{r:List Vl} (hst:f.st=⟨false,b⟩::⟨false,a⟩::r) :
 Calls Tryz.prog 120 #[.pointer (some ⟨rb,0,none⟩),wval x pl] w (WPost Dd w0 m0 K0 rb (wordM m fuel x f fs)):=by
 have hw:wordM m fuel x f fs=.on m fuel ({ f with st:=⟨false,Kn.wrap64 (a - b)⟩::r }::fs):=by unfold wordM;simp [hk,hst]
 rw [hw]
 obtain ⟨W1,hW1⟩:∃ W1,W1=w.alloc (.cells (wcs x pl) 146):=⟨_,rfl⟩
 have B:=h.box x pl hW1
 have ct:=B.ct
 have l1:=B.l1
 have l2:=B.l2
 have l3:=B.l3
 have ctw:=h.run.ct
 simp only [List.head?_cons,Option.map_some,cptr] at ctw
 have lw:=(h.lo rb (by simp)).2.1
 have hraw:=B.sg.frs.1.raw
 have h16:=hraw.s16
 rw [hst] at hraw h16
 simp only [List.length_cons] at h16
 have hcall:=takeNs_ok hraw
 clear hraw
 rw [show Kn.wrap64 (a - b)=Go.RowKit.wrap64 (a - b) from by unfold Kn.wrap64 Go.RowKit.wrap64;exact IntKind.wrap_i64 _]
 have HB:Hid _:=B
 unfold wcs at hW1
 unfold wval wcs
 clear B h hw hk hst
 go_enter Tryz.func120,Tryz.ntmps120
 go_wp2_with fail
 rw [← hW1]
 clear hW1
 clear ctw lw
 refine hcall.mono ?_
 rintro e w2 ⟨rfl,hf2,hc2⟩
 have ct2:w2.cell? ⟨rb,24,none⟩=some (.pointer (some ⟨fb,0,none⟩)):=(World.cell?_of_block (a:=⟨rb,24,none⟩) (hc2.block _ l1 HB.out.n1)).trans ct
 have hrl2:rb < w2.heap.size:=Nat.lt_of_lt_of_le l1 hc2.size
 have hlay:=lay_any hf2 (by omega) ⟨false,Go.RowKit.wrap64 (a - b)⟩
 unfold Vl.val at hlay
 clear hcall hf2
 go_wp2_with fail
 refine hlay.mono ?_
 rintro e w3 ⟨rfl,hf3,hc3⟩
 have HF3:Hid _:=hf3
 clear hf3 hlay
 go_wp2
 go_end0
 exact ⟨rfl,K,_,HB.out.sg.top (f':={ f with st:=⟨false,Go.RowKit.wrap64 (a - b)⟩::r }) h0 (hc2.then hc3 (fun k _ e=>e)) HF3.out rfl rfl⟩
theorem do_sub_no {rb:Nat}{fuel fb mk:Nat} (h:Sg Dd w0 m0 K0 rb w m K fuel ((fb,mk)::bs) (f::fs)) (h0:Glo w0) (x:Kn.W) (pl:Option Addr) (hk:x.k=45) {a b:Vl}{r:List Vl} (hst:f.st=b::a::r) (ho:(a.obj||b.obj)=true) :
 Calls Tryz.prog 120 #[.pointer (some ⟨rb,0,none⟩),wval x pl] w (WPost Dd w0 m0 K0 rb (wordM m fuel x f fs)):=by
 have hw:wordM m fuel x f fs=.stop m 3:=by unfold wordM;simp [hk,hst,ho]
 rw [hw]
 obtain ⟨W1,hW1⟩:∃ W1,W1=w.alloc (.cells (wcs x pl) 146):=⟨_,rfl⟩
 have B:=h.box x pl hW1
 have ct:=B.ct
 have l1:=B.l1
 have l2:=B.l2
 have l3:=B.l3
 have ctw:=h.run.ct
 simp only [List.head?_cons,Option.map_some,cptr] at ctw
 have lw:=(h.lo rb (by simp)).2.1
 have hraw:=B.sg.frs.1.raw
 rw [hst] at hraw
 have hcall:=takeNs_no hraw ho
 clear hraw
 have HB:Hid _:=B
 unfold wcs at hW1
 unfold wval wcs
 clear B h hw hk hst ho
 go_enter Tryz.func120,Tryz.ntmps120
 go_wp2_with fail
 rw [← hW1]
 clear hW1
 refine hcall.mono ?_
 rintro e w2 ⟨rfl,hc2⟩
 clear hcall
 go_wp2
 exact ⟨rfl,rfl,K,HB.out.gave h0 hc2⟩
theorem do_mul_ok {rb:Nat}{fuel fb mk:Nat} (h:Sg Dd w0 m0 K0 rb w m K fuel ((fb,mk)::bs) (f::fs)) (h0:Glo w0) (x:Kn.W) (pl:Option Addr) (hk:x.k=42) {a b:Int}{r:List Vl} (hst:f.st=⟨false,b⟩::⟨false,a⟩::r) :
 Calls Tryz.prog 121 #[.pointer (some ⟨rb,0,none⟩),wval x pl] w (WPost Dd w0 m0 K0 rb (wordM m fuel x f fs)):=by
 have hw:wordM m fuel x f fs=.on m fuel ({ f with st:=⟨false,Kn.wrap64 (a*b)⟩::r }::fs):=by unfold wordM;simp [hk,hst]
 rw [hw]
 obtain ⟨W1,hW1⟩:∃ W1,W1=w.alloc (.cells (wcs x pl) 146):=⟨_,rfl⟩
 have B:=h.box x pl hW1
 have ct:=B.ct
 have l1:=B.l1
 have l2:=B.l2
 have l3:=B.l3
 have ctw:=h.run.ct
 simp only [List.head?_cons,Option.map_some,cptr] at ctw
 have lw:=(h.lo rb (by simp)).2.1
 have hraw:=B.sg.frs.1.raw
 have h16:=hraw.s16
 rw [hst] at hraw h16
 simp only [List.length_cons] at h16
 have hcall:=takeNs_ok hraw
 clear hraw
 rw [show Kn.wrap64 (a*b)=Go.RowKit.wrap64 (a*b) from by unfold Kn.wrap64 Go.RowKit.wrap64;exact IntKind.wrap_i64 _]
 have HB:Hid _:=B
 unfold wcs at hW1
 unfold wval wcs
 clear B h hw hk hst
 go_enter Tryz.func121,Tryz.ntmps121
 go_wp2_with fail
 rw [← hW1]
 clear hW1
 clear ctw lw
 refine hcall.mono ?_
 rintro e w2 ⟨rfl,hf2,hc2⟩
 have ct2:w2.cell? ⟨rb,24,none⟩=some (.pointer (some ⟨fb,0,none⟩)):=(World.cell?_of_block (a:=⟨rb,24,none⟩) (hc2.block _ l1 HB.out.n1)).trans ct
 have hrl2:rb < w2.heap.size:=Nat.lt_of_lt_of_le l1 hc2.size
 have hlay:=lay_any hf2 (by omega) ⟨false,Go.RowKit.wrap64 (a*b)⟩
 unfold Vl.val at hlay
 clear hcall hf2
 go_wp2_with fail
 refine hlay.mono ?_
 rintro e w3 ⟨rfl,hf3,hc3⟩
 have HF3:Hid _:=hf3
 clear hf3 hlay
 go_wp2
 go_end0
 exact ⟨rfl,K,_,HB.out.sg.top (f':={ f with st:=⟨false,Go.RowKit.wrap64 (a*b)⟩::r }) h0 (hc2.then hc3 (fun k _ e=>e)) HF3.out rfl rfl⟩
theorem do_mul_no {rb:Nat}{fuel fb mk:Nat} (h:Sg Dd w0 m0 K0 rb w m K fuel ((fb,mk)::bs) (f::fs)) (h0:Glo w0) (x:Kn.W) (pl:Option Addr) (hk:x.k=42) {a b:Vl}{r:List Vl} (hst:f.st=b::a::r) (ho:(a.obj||b.obj)=true) :
 Calls Tryz.prog 121 #[.pointer (some ⟨rb,0,none⟩),wval x pl] w (WPost Dd w0 m0 K0 rb (wordM m fuel x f fs)):=by
 have hw:wordM m fuel x f fs=.stop m 3:=by unfold wordM;simp [hk,hst,ho]
 rw [hw]
 obtain ⟨W1,hW1⟩:∃ W1,W1=w.alloc (.cells (wcs x pl) 146):=⟨_,rfl⟩
 have B:=h.box x pl hW1
 have ct:=B.ct
 have l1:=B.l1
 have l2:=B.l2
 have l3:=B.l3
 have ctw:=h.run.ct
 simp only [List.head?_cons,Option.map_some,cptr] at ctw
 have lw:=(h.lo rb (by simp)).2.1
 have hraw:=B.sg.frs.1.raw
 rw [hst] at hraw
 have hcall:=takeNs_no hraw ho
 clear hraw
 have HB:Hid _:=B
 unfold wcs at hW1
 unfold wval wcs
 clear B h hw hk hst ho
 go_enter Tryz.func121,Tryz.ntmps121
 go_wp2_with fail
 rw [← hW1]
 clear hW1
 refine hcall.mono ?_
 rintro e w2 ⟨rfl,hc2⟩
 clear hcall
 go_wp2
 exact ⟨rfl,rfl,K,HB.out.gave h0 hc2⟩
theorem do_less_ok {rb:Nat}{fuel fb mk:Nat} (h:Sg Dd w0 m0 K0 rb w m K fuel ((fb,mk)::bs) (f::fs)) (h0:Glo w0) (x:Kn.W) (pl:Option Addr) (hk:x.k=60) {a b:Int}{r:List Vl} (hst:f.st=⟨false,b⟩::⟨false,a⟩::r) :
 Calls Tryz.prog 122 #[.pointer (some ⟨rb,0,none⟩),wval x pl] w (WPost Dd w0 m0 K0 rb (wordM m fuel x f fs)):=by
 have hw:wordM m fuel x f fs=.on m fuel ({ f with st:=b2v (decide (a < b))::r }::fs):=by unfold wordM;simp [hk,hst]
 rw [hw]
 obtain ⟨W1,hW1⟩:∃ W1,W1=w.alloc (.cells (wcs x pl) 146):=⟨_,rfl⟩
 have B:=h.box x pl hW1
 have ct:=B.ct
 have l1:=B.l1
 have l2:=B.l2
 have l3:=B.l3
 have ctw:=h.run.ct
 simp only [List.head?_cons,Option.map_some,cptr] at ctw
 have lw:=(h.lo rb (by simp)).2.1
 have hraw:=B.sg.frs.1.raw
 have h16:=hraw.s16
 rw [hst] at hraw h16
 simp only [List.length_cons] at h16
 have hcall:=takeNs_ok hraw
 clear hraw
 have HB:Hid _:=B
 unfold wcs at hW1
 unfold wval wcs
 clear B h hw hk hst
 go_enter Tryz.func122,Tryz.ntmps122
 go_wp2_with fail
 rw [← hW1]
 clear hW1
 refine hcall.mono ?_
 rintro e w2 ⟨rfl,hf2,hc2⟩
 have ct2:w2.cell? ⟨rb,24,none⟩=some (.pointer (some ⟨fb,0,none⟩)):=(World.cell?_of_block (a:=⟨rb,24,none⟩) (hc2.block _ l1 HB.out.n1)).trans ct
 have hrl2:rb < w2.heap.size:=Nat.lt_of_lt_of_le l1 hc2.size
 have htr:=truth_any (decide (a < b)) w2.drew
 have HF2:Hid _:=hf2
 clear hcall hf2
 go_wp2_with fail
 refine wp_region_noPanic ?_
 refine wp_region_held_drew (S:=(fun w'=>w'.cell? ⟨rb,24,none⟩=some (.pointer (some ⟨fb,0,none⟩)))) (by kernel_rfl) (by go_keep) (fun hHeld=>?_)
 refine tkH 0 ?_
 refine tkH 1 ?_
 refine tkH 2 ?_
 refine tkH 3 ?_
 refine tkH 4 ?_
 refine tkH 5 ?_
 refine tkL 6 ?_
 refine rdH 7 fun Kmac hKmac=>?_
 go_simp
 refine htr.mono ?_;rintro e w3 ⟨rfl,hb3⟩;have ct3:w3.cell? ⟨rb,24,none⟩=some (.pointer (some ⟨fb,0,none⟩)):=(hb3.cell (p:=⟨rb,24,none⟩) hrl2).trans ct2
 try go_wp2_with fail
 refine hKmac.go fun hHeld=>?_
 clear hKmac Kmac
 try refine lyH ?_
 have hb3':=undrew hb3
 have hf3:=HF2.out.same (hb3'.block fb HF2.out.cel.lt)
 have hlay:=lay_any hf3 (by omega) (b2v (decide (a < b)))
 have hrl3:rb < w3.heap.size:=Nat.lt_of_lt_of_le hrl2 hb3'.size
 clear htr hb3 hf3
 refine rdH 8 fun Kmac hKmac=>?_
 go_simp
 refine hlay.mono ?_;rintro e w4 ⟨rfl,hf4,hc4⟩;have ct4:w4.cell? ⟨rb,24,none⟩=some (.pointer (some ⟨fb,0,none⟩)):=(World.cell?_of_block (a:=⟨rb,24,none⟩) (hc4.block _ hrl3 HB.out.n1)).trans ct3
 try go_wp2_with fail
 refine hKmac.go fun hHeld=>?_
 clear hKmac Kmac
 try refine lyH ?_
 refine wpAnyH_done (by kernel_rfl) ?_ _
 refine NoPanic.normal ?_
 go_end0
 exact ⟨rfl,K,_,HB.out.sg.top (f':={ f with st:=b2v (decide (a < b))::r }) h0 ((hc2.then (Chg.of_below hb3' (fun _=>False)) (fun _ _ e=>e.elim)).then hc4 (fun k _ e=>e)) hf4 rfl rfl⟩
theorem do_less_no {rb:Nat}{fuel fb mk:Nat} (h:Sg Dd w0 m0 K0 rb w m K fuel ((fb,mk)::bs) (f::fs)) (h0:Glo w0) (x:Kn.W) (pl:Option Addr) (hk:x.k=60) {a b:Vl}{r:List Vl} (hst:f.st=b::a::r) (ho:(a.obj||b.obj)=true) :
 Calls Tryz.prog 122 #[.pointer (some ⟨rb,0,none⟩),wval x pl] w (WPost Dd w0 m0 K0 rb (wordM m fuel x f fs)):=by
 have hw:wordM m fuel x f fs=.stop m 3:=by unfold wordM;simp [hk,hst,ho]
 rw [hw]
 obtain ⟨W1,hW1⟩:∃ W1,W1=w.alloc (.cells (wcs x pl) 146):=⟨_,rfl⟩
 have B:=h.box x pl hW1
 have ct:=B.ct
 have l1:=B.l1
 have l2:=B.l2
 have l3:=B.l3
 have ctw:=h.run.ct
 simp only [List.head?_cons,Option.map_some,cptr] at ctw
 have lw:=(h.lo rb (by simp)).2.1
 have hraw:=B.sg.frs.1.raw
 rw [hst] at hraw
 have hcall:=takeNs_no hraw ho
 clear hraw
 have HB:Hid _:=B
 unfold wcs at hW1
 unfold wval wcs
 clear B h hw hk hst ho
 go_enter Tryz.func122,Tryz.ntmps122
 go_wp2_with fail
 rw [← hW1]
 clear hW1
 refine hcall.mono ?_
 rintro e w2 ⟨rfl,hc2⟩
 clear hcall
 go_wp2
 exact ⟨rfl,rfl,K,HB.out.gave h0 hc2⟩
theorem do_pop {rb:Nat}{fuel fb mk:Nat} (h:Sg Dd w0 m0 K0 rb w m K fuel ((fb,mk)::bs) (f::fs)) (h0:Glo w0) (x:Kn.W) (pl:Option Addr) (hk:x.k=111) {v:Vl}{r:List Vl} (hst:f.st=v::r) :
 Calls Tryz.prog 124 #[.pointer (some ⟨rb,0,none⟩),wval x pl] w (WPost Dd w0 m0 K0 rb (wordM m fuel x f fs)):=by
 have hw:wordM m fuel x f fs=.on m fuel ({ f with st:=r }::fs):=by unfold wordM;simp [hk,hst]
 rw [hw]
 obtain ⟨W1,hW1⟩:∃ W1,W1=w.alloc (.cells (wcs x pl) 146):=⟨_,rfl⟩
 have B:=h.box x pl hW1
 have ct:=B.ct
 have l1:=B.l1
 have l2:=B.l2
 have l3:=B.l3
 have ctw:=h.run.ct
 simp only [List.head?_cons,Option.map_some,cptr] at ctw
 have lw:=(h.lo rb (by simp)).2.1
 have hraw:=B.sg.frs.1.raw
 rw [hst] at hraw
 have hcall:=take_any hraw
 clear hraw
 have HB:Hid _:=B
 unfold wcs at hW1
 unfold wval wcs
 clear B h hw hk hst
 go_enter Tryz.func124,Tryz.ntmps124
 go_wp2_with fail
 rw [← hW1]
 clear hW1
 refine hcall.mono ?_
 rintro e w2 ⟨rfl,hf2,hc2⟩
 have HF2:Hid _:=hf2
 clear hcall hf2
 go_wp2
 go_end0
 exact ⟨rfl,K,_,HB.out.sg.top (f':={ f with st:=r }) h0 hc2 HF2.out rfl rfl⟩
theorem do_go {rb:Nat}{fuel fb mk:Nat} (h:Sg Dd w0 m0 K0 rb w m K fuel ((fb,mk)::bs) (f::fs)) (h0:Glo w0) (x:Kn.W) (pl:Option Addr) (hk:x.k=62) (i:Nat) (hi:x.n=i) :
 Calls Tryz.prog 126 #[.pointer (some ⟨rb,0,none⟩),wval x pl] w (WPost Dd w0 m0 K0 rb (wordM m fuel x f fs)):=by
 have hw:wordM m fuel x f fs=.on m fuel ({ f with pc:=i }::fs):=by unfold wordM;simp [hk,hi]
 rw [hw]
 obtain ⟨W1,hW1⟩:∃ W1,W1=w.alloc (.cells (wcs x pl) 146):=⟨_,rfl⟩
 have B:=h.box x pl hW1
 have ct:=B.ct
 have x1:=B.x1
 have l1:=B.l1
 have l2:=B.l2
 have l3:=B.l3
 rw [hi] at x1
 have hraw:=B.sg.frs.1.raw
 have cp:=hraw.cp
 have fz:=fun o=>hraw.cel.free o
 have hn1:¬ fb=rb:=fun e=>B.n1 e.symm
 have hn1':=B.n1
 have hn2:¬ fb=w.heap.size:=fun e=>B.n2 e.symm
 have hn2':=B.n2
 clear hraw
 have HB:Hid _:=B
 unfold wcs at hW1
 unfold wval wcs
 clear B h hw hk hi
 go_enter Tryz.func126,Tryz.ntmps126
 go_wp2_with fail
 rw [← hW1]
 clear hW1
 refine wp_region_noPanic ?_
 refine wp_region_held_drew (S:=(fun w'=>w'.cell? ⟨rb,24,none⟩=some (.pointer (some ⟨fb,0,none⟩))∧w'.cell? ⟨w.heap.size,1,none⟩=some (.int .i64 (i:Nat)))) (by kernel_rfl) (by go_keep) (fun hHeld=>?_)
 refine tkH 0 ?_
 refine tkH 1 ?_
 refine tkH 2 ?_
 refine tkH 3 ?_
 refine tkH 4 ?_
 refine tkH 5 ?_
 refine tkH 6 ?_
 refine tkL 7 ?_
 refine rdH 8 fun Kmac hKmac=>?_
 go_simp
 refine hKmac.go fun hHeld=>?_
 clear hKmac Kmac
 try refine lyH ?_
 refine wpAnyH_done (by kernel_rfl) ?_ _
 refine NoPanic.normal ?_
 go_end0
 exact ⟨rfl,K,_,HB.out.sg.top (f':={ f with pc:=i }) h0 ((Chg.refl W1 (fun k=>k=fb)).setCell _ _ (fun _=>rfl)).drew ((HB.out.sg.frs.1.raw.goto i).same rfl) rfl rfl⟩
theorem do_tell {rb:Nat}{fuel fb mk:Nat} (h:Sg Dd w0 m0 K0 rb w m K fuel ((fb,mk)::bs) (f::fs)) (h0:Glo w0) (x:Kn.W) (pl:Option Addr) (hk:x.k=114) {v:Vl}{r:List Vl} (hst:f.st=v::r) (h32:fs.length≤32) (hroom:∀ g gs,fs=g::gs→g.st.length < 16) :
 Calls Tryz.prog 135 #[.pointer (some ⟨rb,0,none⟩),wval x pl] w (WPost Dd w0 m0 K0 rb (wordM m fuel x f fs)):=by
 have hw:wordM m fuel x f fs=tellTo m fuel v fs:=by unfold wordM;simp [hk,hst]
 rw [hw]
 obtain ⟨W1,hW1⟩:∃ W1,W1=w.alloc (.cells (wcs x pl) 146):=⟨_,rfl⟩
 have B:=h.box x pl hW1
 have ct:=B.ct
 have l1:=B.l1
 have l2:=B.l2
 have l3:=B.l3
 have ctw:=h.run.ct
 simp only [List.head?_cons,Option.map_some,cptr] at ctw
 have lw:=(h.lo rb (by simp)).2.1
 have hraw:=B.sg.frs.1.raw
 rw [hst] at hraw
 have hcall:=take_any hraw
 clear hraw
 have HB:Hid _:=B
 unfold wcs at hW1
 unfold wval wcs
 clear B h hw hk hst
 go_enter Tryz.func135,Tryz.ntmps135
 go_wp2_with fail
 rw [← hW1]
 clear hW1
 refine hcall.mono ?_
 rintro e w2 ⟨rfl,hf2,hc2⟩
 have h2:=HB.out.sg.top (f':={ f with st:=r }) h0 hc2 hf2 rfl rfl
 have htell:=tell_any h2 h0 v h32 hroom
 clear hcall hf2 h2
 unfold Vl.val at *
 go_wp2_with fail
 refine htell.mono ?_
 intro e w3 hp
 cases fs with
 | nil =>
  obtain ⟨rfl,hr⟩:=hp
  have HP:Hid _:=hr
  clear hr htell
  go_wp2
  go_end0
  exact ⟨rfl,HP.out⟩
 | cons g gs =>
  obtain ⟨rfl,hr⟩:=hp
  have HP:Hid _:=hr
  clear hr htell
  go_wp2
  go_end0
  exact ⟨rfl,HP.out⟩
theorem do_if_zero {rb:Nat}{fuel fb mk:Nat} (h:Sg Dd w0 m0 K0 rb w m K fuel ((fb,mk)::bs) (f::fs)) (h0:Glo w0) (x:Kn.W) (pl:Option Addr) (hk:x.k=63) (i:Nat) (hi:x.n=i) {r:List Vl} (hst:f.st=⟨false,0⟩::r) :
 Calls Tryz.prog 127 #[.pointer (some ⟨rb,0,none⟩),wval x pl] w (WPost Dd w0 m0 K0 rb (wordM m fuel x f fs)):=by
 have hw:wordM m fuel x f fs=.on m fuel ({ f with st:=r,pc:=i }::fs):=by unfold wordM;simp [hk,hi,hst]
 rw [hw]
 obtain ⟨W1,hW1⟩:∃ W1,W1=w.alloc (.cells (wcs x pl) 146):=⟨_,rfl⟩
 have B:=h.box x pl hW1
 have ct:=B.ct
 have x1:=B.x1
 have l1:=B.l1
 have l2:=B.l2
 have l3:=B.l3
 rw [hi] at x1
 have ctw:=h.run.ct
 simp only [List.head?_cons,Option.map_some,cptr] at ctw
 have lw:=(h.lo rb (by simp)).2.1
 have hraw:=B.sg.frs.1.raw
 rw [hst] at hraw
 have hcall:=takeN_ok hraw
 clear hraw
 have HB:Hid _:=B
 unfold wcs at hW1
 unfold wval wcs
 clear B h hw hk hst hi
 go_enter Tryz.func127,Tryz.ntmps127
 go_wp2_with fail
 rw [← hW1]
 clear hW1
 refine hcall.mono ?_
 rintro e w2 ⟨rfl,hf2,hc2⟩
 have ct2:w2.cell? ⟨rb,24,none⟩=some (.pointer (some ⟨fb,0,none⟩)):=(World.cell?_of_block (a:=⟨rb,24,none⟩) (hc2.block _ l1 HB.out.n1)).trans ct
 have x12:w2.cell? ⟨w.heap.size,1,none⟩=some (.int .i64 (i:Nat)):=(World.cell?_of_block (a:=⟨w.heap.size,1,none⟩) (hc2.block _ l3 HB.out.n2)).trans x1
 have hrl2:rb < w2.heap.size:=Nat.lt_of_lt_of_le l1 hc2.size
 have cp:=hf2.cp
 have fz:=fun o=>hf2.cel.free o
 have hfl2:=hf2.cel.lt
 have hn1:¬ fb=rb:=fun e=>HB.out.n1 e.symm
 have hn1':=HB.out.n1
 have hn2:¬ fb=w.heap.size:=fun e=>HB.out.n2 e.symm
 have hn2':=HB.out.n2
 have HF2:Hid _:=hf2
 clear hcall hf2 ctw lw
 go_wp2_with fail
 refine wp_region_noPanic ?_
 refine wp_region_held_drew (S:=(fun w'=>w'.cell? ⟨rb,24,none⟩=some (.pointer (some ⟨fb,0,none⟩))∧w'.cell? ⟨w.heap.size,1,none⟩=some (.int .i64 (i:Nat)))) (by kernel_rfl) (by go_keep) (fun hHeld=>?_)
 refine tkH 0 ?_
 refine tkH 1 ?_
 refine tkH 2 ?_
 refine tkH 3 ?_
 refine tkH 4 ?_
 refine tkH 5 ?_
 refine tkH 6 ?_
 refine tkL 7 ?_
 refine rdH 8 fun Kmac hKmac=>?_
 go_simp
 refine hKmac.go fun hHeld=>?_
 clear hKmac Kmac
 try refine lyH ?_
 refine wpAnyH_done (by kernel_rfl) ?_ _
 refine NoPanic.normal ?_
 go_end0
 exact ⟨rfl,K,_,HB.out.sg.top (f':={ f with st:=r,pc:=i }) h0 (hc2.then ((Chg.refl w2 (fun k=>k=fb)).setCell _ _ (fun _=>rfl)).drew (fun k _ e=>e)) ((HF2.out.goto i).same rfl) rfl rfl⟩
theorem do_if_more {rb:Nat}{fuel fb mk:Nat} (h:Sg Dd w0 m0 K0 rb w m K fuel ((fb,mk)::bs) (f::fs)) (h0:Glo w0) (x:Kn.W) (pl:Option Addr) (hk:x.k=63) (i:Nat) (hi:x.n=i) {r:List Vl}{n:Int} (hn:n≠0) (hst:f.st=⟨false,n⟩::r) :
 Calls Tryz.prog 127 #[.pointer (some ⟨rb,0,none⟩),wval x pl] w (WPost Dd w0 m0 K0 rb (wordM m fuel x f fs)):=by
 have hw:wordM m fuel x f fs=.on m fuel ({ f with st:=r }::fs):=by unfold wordM;simp [hk,hi,hst,hn]
 rw [hw]
 obtain ⟨W1,hW1⟩:∃ W1,W1=w.alloc (.cells (wcs x pl) 146):=⟨_,rfl⟩
 have B:=h.box x pl hW1
 have ct:=B.ct
 have x1:=B.x1
 have l1:=B.l1
 have l2:=B.l2
 have l3:=B.l3
 rw [hi] at x1
 have ctw:=h.run.ct
 simp only [List.head?_cons,Option.map_some,cptr] at ctw
 have lw:=(h.lo rb (by simp)).2.1
 have hraw:=B.sg.frs.1.raw
 rw [hst] at hraw
 have hcall:=takeN_ok hraw
 clear hraw
 have HB:Hid _:=B
 unfold wcs at hW1
 unfold wval wcs
 clear B h hw hk hst hi
 go_enter Tryz.func127,Tryz.ntmps127
 go_wp2_with fail
 rw [← hW1]
 clear hW1
 refine hcall.mono ?_
 rintro e w2 ⟨rfl,hf2,hc2⟩
 have HF2:Hid _:=hf2
 clear hcall hf2 ctw lw
 go_wp2
 go_end0
 exact ⟨rfl,K,_,HB.out.sg.top (f':={ f with st:=r }) h0 hc2 HF2.out rfl rfl⟩
theorem do_if_no {rb:Nat}{fuel fb mk:Nat} (h:Sg Dd w0 m0 K0 rb w m K fuel ((fb,mk)::bs) (f::fs)) (h0:Glo w0) (x:Kn.W) (pl:Option Addr) (hk:x.k=63) {n:Int}{r:List Vl} (hst:f.st=⟨true,n⟩::r) :
 Calls Tryz.prog 127 #[.pointer (some ⟨rb,0,none⟩),wval x pl] w (WPost Dd w0 m0 K0 rb (wordM m fuel x f fs)):=by
 have hw:wordM m fuel x f fs=.stop m 3:=by unfold wordM;simp [hk,hst]
 rw [hw]
 obtain ⟨W1,hW1⟩:∃ W1,W1=w.alloc (.cells (wcs x pl) 146):=⟨_,rfl⟩
 have B:=h.box x pl hW1
 have ct:=B.ct
 have l1:=B.l1
 have l2:=B.l2
 have l3:=B.l3
 have ctw:=h.run.ct
 simp only [List.head?_cons,Option.map_some,cptr] at ctw
 have lw:=(h.lo rb (by simp)).2.1
 have hraw:=B.sg.frs.1.raw
 rw [hst] at hraw
 have hcall:=takeN_no hraw
 clear hraw
 have HB:Hid _:=B
 unfold wcs at hW1
 unfold wval wcs
 clear B h hw hk hst
 go_enter Tryz.func127,Tryz.ntmps127
 go_wp2_with fail
 rw [← hW1]
 clear hW1
 refine hcall.mono ?_
 rintro e w2 ⟨rfl,hc2⟩
 clear hcall ctw lw
 go_wp2
 exact ⟨rfl,rfl,K,HB.out.gave h0 hc2⟩
theorem do_dup {rb:Nat}{fuel fb mk:Nat} (h:Sg Dd w0 m0 K0 rb w m K fuel ((fb,mk)::bs) (f::fs)) (h0:Glo w0) (x:Kn.W) (pl:Option Addr) (hk:x.k=100) {v:Vl}{r:List Vl} (hst:f.st=v::r) (hr:r.length+1 < 16) :
 Calls Tryz.prog 125 #[.pointer (some ⟨rb,0,none⟩),wval x pl] w (WPost Dd w0 m0 K0 rb (wordM m fuel x f fs)):=by
 have hw:wordM m fuel x f fs=.on m fuel ({ f with st:=v::v::r }::fs):=by unfold wordM;simp [hk,hst]
 rw [hw]
 obtain ⟨W1,hW1⟩:∃ W1,W1=w.alloc (.cells (wcs x pl) 146):=⟨_,rfl⟩
 have B:=h.box x pl hW1
 have ct:=B.ct
 have l1:=B.l1
 have l2:=B.l2
 have l3:=B.l3
 have ctw:=h.run.ct
 simp only [List.head?_cons,Option.map_some,cptr] at ctw
 have lw:=(h.lo rb (by simp)).2.1
 have hraw:=B.sg.frs.1.raw
 rw [hst] at hraw
 have hcall:=take_any hraw
 unfold Vl.val at hcall
 clear hraw
 have HB:Hid _:=B
 unfold wcs at hW1
 unfold wval wcs
 clear B h hw hk hst
 go_enter Tryz.func125,Tryz.ntmps125
 go_wp2_with fail
 rw [← hW1]
 clear hW1
 refine hcall.mono ?_
 rintro e w2 ⟨rfl,hf2,hc2⟩
 have hrl2:rb < w2.heap.size:=Nat.lt_of_lt_of_le l1 hc2.size
 clear hcall ctw lw
 go_wp2_with fail
 obtain ⟨W3,hW3⟩:∃ W3,W3=w2.alloc (.cells #[.bool v.obj,.int .i64 v.n] 33):=⟨_,rfl⟩
 rw [← hW3]
 have hb3:Below w2.heap.size w2 W3:=by rw [hW3];exact (Below.refl _ _).alloc (Nat.le_refl _) _
 have hv3:W3.heap[w2.heap.size]?=some (.cells #[.bool v.obj,.int .i64 v.n] 33):=by rw [hW3];exact (MapKept.heap_alloc _ _).1
 have v0:W3.cell? ⟨w2.heap.size,0,none⟩=some (.bool v.obj):=by simp only [World.cell?,hv3];rfl
 have v1:W3.cell? ⟨w2.heap.size,1,none⟩=some (.int .i64 v.n):=by simp only [World.cell?,hv3];rfl
 have ct3:W3.cell? ⟨rb,24,none⟩=some (.pointer (some ⟨fb,0,none⟩)):=(hb3.cell (p:=⟨rb,24,none⟩) hrl2).trans ((World.cell?_of_block (a:=⟨rb,24,none⟩) (hc2.block _ l1 HB.out.n1)).trans ct)
 have hrl3:rb < W3.heap.size:=Nat.lt_of_lt_of_le hrl2 hb3.size
 have hvl3:w2.heap.size < W3.heap.size:=(Array.getElem?_eq_some_iff.1 hv3).1
 have hf3:=hf2.same (hb3.block fb hf2.cel.lt)
 have hvf:w2.heap.size≠fb:=fun e=>by have:=hf2.cel.lt;omega
 have hlay:=lay_any (w:=W3.drew) (hf3.same rfl) (by omega) v
 unfold Vl.val at hlay
 have HC3:Hid (Chg W1 W3 (fun k=>k=fb)):=hc2.then (Chg.of_below hb3 (fun _=>False)) (fun _ _ e=>e.elim)
 clear hW3 hf2 hf3 hv3 hb3 hc2
 refine wp_region_noPanic ?_
 refine wp_region_held_drew (S:=(fun w'=>w'.cell? ⟨rb,24,none⟩=some (.pointer (some ⟨fb,0,none⟩))∧w'.cell? ⟨w2.heap.size,0,none⟩=some (.bool v.obj)∧w'.cell? ⟨w2.heap.size,1,none⟩=some (.int .i64 v.n))) (by kernel_rfl) (by go_keep) (fun hHeld=>?_)
 refine tkH 0 ?_
 refine tkH 1 ?_
 refine tkH 2 ?_
 refine tkH 3 ?_
 refine tkL 4 ?_
 refine rdH 5 fun Kmac hKmac=>?_
 go_simp
 refine hlay.mono ?_;rintro e w4 ⟨rfl,hf4,hc4⟩;have ct4:w4.cell? ⟨rb,24,none⟩=some (.pointer (some ⟨fb,0,none⟩)):=(World.cell?_of_block (a:=⟨rb,24,none⟩) (hc4.block _ hrl3 HB.out.n1)).trans ct3;have v04:w4.cell? ⟨w2.heap.size,0,none⟩=some (.bool v.obj):=(World.cell?_of_block (a:=⟨w2.heap.size,0,none⟩) (hc4.block _ hvl3 hvf)).trans v0;have v14:w4.cell? ⟨w2.heap.size,1,none⟩=some (.int .i64 v.n):=(World.cell?_of_block (a:=⟨w2.heap.size,1,none⟩) (hc4.block _ hvl3 hvf)).trans v1
 try go_wp2_with fail
 refine hKmac.go fun hHeld=>?_
 clear hKmac Kmac
 try refine lyH ?_
 refine wpAnyH_done (by kernel_rfl) ?_ _
 refine NoPanic.normal ?_
 have hs4:=hc4.size
 have hrl4:rb < w4.heap.size:=Nat.lt_of_lt_of_le hrl3 hs4
 have hvl4:w2.heap.size < w4.heap.size:=Nat.lt_of_lt_of_le hvl3 hs4
 have hlay2:=lay_any (w:=w4.drew) (hf4.same rfl) (by simp only [List.length_cons];omega) v
 unfold Vl.val at hlay2
 have HC4:Hid (Chg W1 w4 (fun k=>k=fb)):=HC3.out.then ((Chg.refl W3 _).drew.then hc4 (fun k _ e=>e)) (fun k _ e=>e)
 clear hlay hf4 hc4 ct3 v0 v1 hs4
 go_wp2_with fail
 refine wp_region_noPanic ?_
 refine wp_region_held_drew (S:=(fun w'=>w'.cell? ⟨rb,24,none⟩=some (.pointer (some ⟨fb,0,none⟩))∧w'.cell? ⟨w2.heap.size,0,none⟩=some (.bool v.obj)∧w'.cell? ⟨w2.heap.size,1,none⟩=some (.int .i64 v.n))) (by kernel_rfl) (by go_keep) (fun hHeld=>?_)
 refine tkH 0 ?_
 refine tkH 1 ?_
 refine tkH 2 ?_
 refine tkH 3 ?_
 refine tkL 4 ?_
 refine rdH 5 fun Kmac hKmac=>?_
 go_simp
 refine hlay2.mono ?_;rintro e w5 ⟨rfl,hf5,hc5⟩;have ct5:w5.cell? ⟨rb,24,none⟩=some (.pointer (some ⟨fb,0,none⟩)):=(World.cell?_of_block (a:=⟨rb,24,none⟩) (hc5.block _ hrl4 HB.out.n1)).trans ct4;have v05:w5.cell? ⟨w2.heap.size,0,none⟩=some (.bool v.obj):=(World.cell?_of_block (a:=⟨w2.heap.size,0,none⟩) (hc5.block _ hvl4 hvf)).trans v04;have v15:w5.cell? ⟨w2.heap.size,1,none⟩=some (.int .i64 v.n):=(World.cell?_of_block (a:=⟨w2.heap.size,1,none⟩) (hc5.block _ hvl4 hvf)).trans v14
 try go_wp2_with fail
 refine hKmac.go fun hHeld=>?_
 clear hKmac Kmac
 try refine lyH ?_
 refine wpAnyH_done (by kernel_rfl) ?_ _
 refine NoPanic.normal ?_
 go_end0
 exact ⟨rfl,K,_,HB.out.sg.top (f':={ f with st:=v::v::r }) h0 (HC4.out.then ((Chg.refl w4 _).drew.then hc5 (fun k _ e=>e)) (fun k _ e=>e)) hf5 rfl rfl⟩
end Go.Proofs.YtkghmgoefiepeaaGreatDoor.reads
