import Derived.Test.YtkghmgoefiepeaaGreatDoorQ0
import Derived.Test.YtkghmgoefiepeaaGreatDoorQ38
import Derived.Test.YtkghmgoefiepeaaGreatDoorQ39
set_option linter.unusedSimpArgs false
set_option linter.unusedVariables false
set_option maxHeartbeats 4000000
set_option maxRecDepth 100000
namespace Go.Proofs.YtkghmgoefiepeaaGreatDoor.reads
open Go.ChangeShapes Go.WideShapes Go.ChangeAt Go.RowKit Kn Go.Proofs.YtkghmgoefiepeaaGreatDoor.img
theorem must_ok (w:World):Calls Tryz.prog 149 #[.int .i64 0] w fun e w'=>e=.returned (.tuple #[])∧w'=w:=by
 go_enter Tryz.func149,Tryz.ntmps149
 go_wp2
 go_end0
 exact ⟨rfl,rfl⟩
theorem must_no (n:Int) (hn:n≠0) (w:World):Calls Tryz.prog 149 #[.int .i64 n] w fun e w'=>e=.panicked (gaveUp 3)∧w'=w:=by
 go_enter Tryz.func149,Tryz.ntmps149
 go_wp2
 exact ⟨rfl,rfl,rfl⟩
variable {m : Im}
theorem cls_int (h:ImOk m):m.cls nmInt=some 1:=by
 obtain ⟨ms,e⟩:=h.int
 cases hc:m.cls nmInt with
 | none =>
  unfold Im.cls at hc
  rw [List.findIdx?_eq_none_iff] at hc
  have:=hc _ (List.mem_of_getElem? e)
  exact absurd rfl ((beq_ba_false _ _).1 this)
 | some c =>
  obtain ⟨k,hk,hn⟩:=cls_some hc
  exact congrArg some (h.once c 1 k _ hk e hn)
variable {w : World}
variable {K : Kd}
theorem classOf_any (h:KIm w m K) (v:Vl) (hv:VlOk m v) :
 Calls Tryz.prog 91 #[.pointer (some ⟨K.b,0,none⟩),v.val] w fun e w'=>e=.returned (.pointer (cptr ((m.of v).map K.cb)))∧Below w.heap.size w w':=by
 obtain ⟨W1,hW1⟩:∃ W1,W1=w.alloc (.cells #[.bool v.obj,.int .i64 v.n] 33):=⟨_,rfl⟩
 have hB1:Below w.heap.size w W1:=by rw [hW1];exact (Below.refl _ w).alloc (Nat.le_refl _) _
 have hb1:W1.heap[w.heap.size]?=some (.cells #[.bool v.obj,.int .i64 v.n] 33):=by rw [hW1];exact (MapKept.heap_alloc w _).1
 have hbl:=h.cor.tab.cel.lt
 unfold Vl.val
 obtain ⟨vo,vn⟩:=v
 cases vo with
 | false =>
  have hlk:=(h.below hB1).look nmInt
  rw [cls_int h.ok,show nmInt=(⟨#[73,110,116]⟩:ByteArray) from rfl,hW1] at hlk
  simp only [Option.map_some,cptr] at hlk
  have c0:=h.hd.c0
  have HB:Hid _:=hB1
  have hof:m.of ⟨false,vn⟩=some 1:=rfl
  rw [hof]
  simp only [Option.map_some,cptr]
  clear h hof hb1 hB1
  go_enter Tryz.func91,Tryz.ntmps91
  go_wp2
  go_ret
  refine ⟨rfl,?_⟩
  have:=HB.out
  rw [hW1] at this
  exact this
 | true =>
  have ht:=hv.2 rfl
  simp only at ht
  obtain ⟨i,x,rfl,hx,hi,hil⟩:=there_get ht
  have h1:=h.below hB1
  obtain ⟨p,cap,hov,hf⟩:=h1.obs.form
  obtain ⟨g,hg,hF⟩:=hf i x hx
  have c1:=h1.hd.c1
  rw [hov] at c1
  obtain ⟨rfl⟩:=hF.p
  have o0:=hF.c0
  have hof:m.of ⟨true,(i:Int)⟩=some x.cls:=by unfold Im.of;simp [hx]
  rw [hof]
  simp only [Option.map_some,cptr]
  have y0:W1.cell? ⟨w.heap.size,0,none⟩=some (.bool true):=by simp only [World.cell?,hb1];rfl
  have y1:W1.cell? ⟨w.heap.size,1,none⟩=some (.int .i64 (i:Nat)):=by simp only [World.cell?,hb1];rfl
  have hil':(i:Int) < (m.obs.length:Int):=by omega
  have hgl:g < W1.heap.size:=by obtain ⟨cs,e⟩:=hF.typ;exact (Array.getElem?_eq_some_iff.1 e).1
  have hbl1:K.b < W1.heap.size:=Nat.lt_of_lt_of_le hbl hB1.size
  have hwl1:w.heap.size < W1.heap.size:=(Array.getElem?_eq_some_iff.1 hb1).1
  have HB:Hid _:=hB1
  clear h h1 hv ht hof hf hF hg hB1 hb1 hx hov hi
  go_enter Tryz.func91,Tryz.ntmps91
  go_wp2_with fail
  rw [← hW1]
  clear hW1
  refine wp_region_noPanic ?_
  refine wp_region_held_drew (S:=(fun w'=>w'.cell? ⟨w.heap.size,1,none⟩=some (.int .i64 (i:Nat))∧w'.cell? ⟨K.b,1,none⟩=some (.slice (some ⟨g,0,none⟩) m.obs.length cap)∧w'.cell? ⟨g,i*2,none⟩=some (.pointer (some ⟨K.cb x.cls,0,none⟩)))) (by kernel_rfl) (by go_keep) (fun hHeld=>?_)
  refine tkH 0 ?_
  refine tkH 1 ?_
  refine tkH 2 ?_
  refine tkH 3 ?_
  refine tkH 4 ?_
  refine tkL 5 ?_
  refine rdH 6 fun Kmac hKmac=>?_
  go_simp
  refine hKmac.go fun hHeld=>?_
  clear hKmac Kmac
  try refine lyH ?_
  refine tkH 7 ?_
  refine tkH 8 ?_
  refine tkL 9 ?_
  refine wpAnyH_done (by kernel_rfl) ?_ _
  refine NoPanic.normal ?_
  go_wp2
  go_ret
  exact ⟨rfl,HB.out.drew⟩
variable {w0 : World}
variable {m0 : Im}
variable {K0 : Kd}
variable {Dd : Nat → Prop}
variable {bs : List (Nat × Nat)}
variable {fs : List Fr}
variable {f : Fr}
theorem do_slot {rb:Nat}{fuel fb mk:Nat} (h:Sg Dd w0 m0 K0 rb w m K fuel ((fb,mk)::bs) (f::fs)) (h0:Glo w0) (x:Kn.W) (pl:Option Addr) (hk:x.k=103) (hr:f.st.length < 16)
 {i j:Nat}{o:Ob}{v:Vl} (hi:f.self.n=i) (ho:m.obs[i]?=some o) (hj:x.n=j) (hv:o.slots[j]?=some v) :
 Calls Tryz.prog 117 #[.pointer (some ⟨rb,0,none⟩),wval x pl] w (WPost Dd w0 m0 K0 rb (wordM m fuel x f fs)):=by
 have hw:wordM m fuel x f fs=.on m fuel ({ f with st:=v::f.st }::fs):=by unfold wordM;simp [hk,hi,hj,ho,hv]
 rw [hw]
 obtain ⟨W1,hW1⟩:∃ W1,W1=w.alloc (.cells (wcs x pl) 146):=⟨_,rfl⟩
 have B:=h.box x pl hW1
 have ct:=B.ct
 have c0:=B.c0
 have x1:=B.x1
 rw [hj] at x1
 have l1:=B.l1
 have l2:=B.l2
 have l3:=B.l3
 have h1:=B.sg.stp.kim
 obtain ⟨p,cap,hov,hf⟩:=h1.obs.form
 obtain ⟨g,hg,hF⟩:=hf i o ho
 have c1:=h1.hd.c1
 rw [hov] at c1
 obtain ⟨rfl⟩:=hF.p
 have o1:=hF.c1
 obtain ⟨u0,u1⟩:=h1.obs.val ho hv
 have s3:=B.sg.frs.1.raw.c3
 rw [hi] at s3
 have hil:(i:Int) < (m.obs.length:Int):=by have:=(List.getElem?_eq_some_iff.1 ho).1;omega
 have hjl:(j:Int) < (o.slots.length:Int):=by have:=(List.getElem?_eq_some_iff.1 hv).1;omega
 have hlay:=lay_any (w:=W1.drew) (B.sg.frs.1.raw.same rfl) hr v
 unfold Vl.val at hlay
 have hbl:=h1.cor.tab.cel.lt
 have hnF:¬ Foot m K fb:=(B.sg.lo fb (by simp)).2.2
 have hgF:Foot m K g:=.inr (.inr (.inr (.inr (.inl (.inl (by rw [hov];rfl))))))
 have hoF:Foot m K (K.ob i):=.inr (.inr (.inr (.inr (.inl (.inr ⟨i,(List.getElem?_eq_some_iff.1 ho).1,rfl⟩)))))
 have hn1:K.b≠fb:=fun e=>hnF (by rw [← e];exact .inl rfl)
 have hn2:g≠fb:=fun e=>hnF (by rw [← e];exact hgF)
 have hn3:K.ob i≠fb:=fun e=>hnF (by rw [← e];exact hoF)
 have lg:=h1.lt hgF
 have lo:=h1.lt hoF
 have HI:Hid _:=hi
 have HB:Hid _:=B
 unfold wcs at hW1
 unfold wval wcs
 clear B h hw hk hi hj h1 hf hF hg hov ho hv hgF hoF hnF
 go_enter Tryz.func117,Tryz.ntmps117
 go_wp2_with fail
 rw [← hW1]
 clear hW1
 refine wp_region_noPanic ?_
 refine wp_region_held_drew (S:=(fun w'=>w'.cell? ⟨rb,24,none⟩=some (.pointer (some ⟨fb,0,none⟩))∧w'.cell? ⟨rb,0,none⟩=some (.pointer (some ⟨K.b,0,none⟩))∧w'.cell? ⟨w.heap.size,1,none⟩=some (.int .i64 (j:Nat))∧w'.cell? ⟨K.b,1,none⟩=some (.slice (some ⟨g,0,none⟩) m.obs.length cap)∧w'.cell? ⟨fb,3,none⟩=some (.int .i64 (i:Nat))∧w'.cell? ⟨g,i*2+1,none⟩=some (.slice (some ⟨K.ob i,0,none⟩) o.slots.length o.slots.length)∧w'.cell? ⟨K.ob i,j*2,none⟩=some (.bool v.obj)∧w'.cell? ⟨K.ob i,j*2+1,none⟩=some (.int .i64 v.n))) (by kernel_rfl) (by go_keep) (fun hHeld=>?_)
 refine tkH 0 ?_
 refine tkH 1 ?_
 refine tkH 2 ?_
 refine tkH 3 ?_
 refine tkH 4 ?_
 refine tkH 5 ?_
 refine tkH 6 ?_
 refine tkH 7 ?_
 refine tkH 8 ?_
 refine tkH 9 ?_
 refine tkH 10 ?_
 refine tkH 11 ?_
 refine tkH 12 ?_
 refine tkH 13 ?_
 refine tkH 14 ?_
 refine tkH 15 ?_
 refine tkH 16 ?_
 refine tkH 17 ?_
 refine tkH 18 ?_
 refine tkH 22 ?_
 refine tkL 23 ?_
 refine rdH 19 fun Kmac hKmac=>?_
 go_simp
 refine hKmac.go fun hHeld=>?_
 clear hKmac Kmac
 try refine lyH ?_
 refine tkH 20 ?_
 refine tkL 21 ?_
 refine rdH 24 fun Kmac hKmac=>?_
 go_simp
 refine hKmac.go fun hHeld=>?_
 clear hKmac Kmac
 try refine lyH ?_
 refine tkL 25 ?_
 refine rdH 26 fun Kmac hKmac=>?_
 go_simp
 refine hlay.mono ?_;rintro e w3 ⟨rfl,hf3,hc3⟩;have d1:w3.cell? ⟨rb,24,none⟩=some (.pointer (some ⟨fb,0,none⟩)):=(World.cell?_of_block (a:=⟨rb,24,none⟩) (hc3.block _ l1 HB.out.n1)).trans ct;have d2:w3.cell? ⟨rb,0,none⟩=some (.pointer (some ⟨K.b,0,none⟩)):=(World.cell?_of_block (a:=⟨rb,0,none⟩) (hc3.block _ l1 HB.out.n1)).trans c0;have d3:w3.cell? ⟨w.heap.size,1,none⟩=some (.int .i64 (j:Nat)):=(World.cell?_of_block (a:=⟨w.heap.size,1,none⟩) (hc3.block _ l3 HB.out.n2)).trans x1;have d4:w3.cell? ⟨K.b,1,none⟩=some (.slice (some ⟨g,0,none⟩) m.obs.length cap):=(World.cell?_of_block (a:=⟨K.b,1,none⟩) (hc3.block _ hbl hn1)).trans c1;have d5:w3.cell? ⟨fb,3,none⟩=some (.int .i64 (i:Nat)):=by { have:=hf3.c3;rw [HI.out] at this;exact this };have d6:w3.cell? ⟨g,i*2+1,none⟩=some (.slice (some ⟨K.ob i,0,none⟩) o.slots.length o.slots.length):=(World.cell?_of_block (a:=⟨g,i*2+1,none⟩) (hc3.block _ lg hn2)).trans o1;have d7:w3.cell? ⟨K.ob i,j*2,none⟩=some (.bool v.obj):=(World.cell?_of_block (a:=⟨K.ob i,j*2,none⟩) (hc3.block _ lo hn3)).trans u0;have d8:w3.cell? ⟨K.ob i,j*2+1,none⟩=some (.int .i64 v.n):=(World.cell?_of_block (a:=⟨K.ob i,j*2+1,none⟩) (hc3.block _ lo hn3)).trans u1
 try go_wp2_with fail
 refine hKmac.go fun hHeld=>?_
 clear hKmac Kmac
 try refine lyH ?_
 refine wpAnyH_done (by kernel_rfl) ?_ _
 refine NoPanic.normal ?_
 go_end0
 exact ⟨rfl,K,_,HB.out.sg.top (f':={ f with st:=v::f.st }) h0 ((Chg.refl W1 _).drew.then hc3 (fun k _ e=>e)) hf3 rfl rfl⟩
variable {m' : Im}
variable {K' : Kd}
theorem Bx.calm {rb:Nat}{w W1 w2:World}{fuel fb mk:Nat}{x:Kn.W}{pl:Option Addr} (h:Bx Dd w0 m0 K0 rb w W1 m K fuel fb mk bs f fs x pl) (hs:Step W1.drew w2 m K m' K'):Sg Dd w0 m0 K0 rb w2 m' K' fuel ((fb,mk)::bs) (f::fs)∧w2.heap[w.heap.size]?=W1.heap[w.heap.size]?∧w2.cell? ⟨rb,0,none⟩=some (.pointer (some ⟨K.b,0,none⟩))∧w2.cell? ⟨rb,24,none⟩=some (.pointer (some ⟨fb,0,none⟩)):=by
 have h1:Sg Dd w0 m0 K0 rb W1.drew m K fuel ((fb,mk)::bs) (f::fs):=h.sg.below (Below.refl _ _).drew
 have h2:=h1.img hs
 refine ⟨h2,hs.chg.block _ h.l3 h.nf,?_,h2.run.ct⟩
 have:=h2.run.c0
 rw [hs.b] at this
 exact this
end Go.Proofs.YtkghmgoefiepeaaGreatDoor.reads
