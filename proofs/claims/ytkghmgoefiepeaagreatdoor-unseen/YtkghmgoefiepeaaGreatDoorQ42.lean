import Derived.Test.YtkghmgoefiepeaaGreatDoorQ0
import Derived.Test.YtkghmgoefiepeaaGreatDoorQ40
import Derived.Test.YtkghmgoefiepeaaGreatDoorQ41
set_option linter.unusedSimpArgs false
set_option linter.unusedVariables false
set_option maxHeartbeats 4000000
set_option maxRecDepth 100000
namespace Go.Proofs.YtkghmgoefiepeaaGreatDoor.reads
open Go.ChangeShapes Go.WideShapes Go.ChangeAt Go.RowKit Kn Go.Proofs.YtkghmgoefiepeaaGreatDoor.img
variable {m : Im}
theorem of_lt (h:ImOk m) {v:Vl} (hv:VlOk m v):∀ c,m.of v=some c→c < m.kl.length:=fun c e=>by
 unfold Im.of at e
 by_cases ho:v.obj=true
 · rw [if_pos ho] at e
   obtain ⟨o,e1,e2⟩:=Option.map_eq_some_iff.1 e
   subst e2
   exact (h.obj o (List.mem_of_getElem? e1)).1
 · rw [if_neg ho] at e
   injection e with e
   subst e
   have:=h.two
   omega
theorem send_nt (m:Im) (fuel:Nat) (frm:Option Nat) (to:Vl) (sel:ByteArray) (args:List Vl) (fs:List Fr) (m':Im) (v:Vl):m.send fuel frm to sel args fs≠.told m' v:=by
 unfold Im.send
 repeat' split
 all_goals (intro e;cases e)
variable {w w' w0 : World}
variable {m' m0 : Im}
variable {K K' K0 : Kd}
variable {Dd : Nat → Prop}
theorem sg_c0 {rb:Nat}{fuel fuel':Nat}{bs bs':List (Nat×Nat)}{fs fs':List Fr} (h:Sg Dd w0 m0 K0 rb w m K fuel bs fs) (h':Sg Dd w0 m0 K0 rb w' m' K' fuel' bs' fs'):w'.cell? ⟨rb,0,none⟩=some (.pointer (some ⟨K.b,0,none⟩)):=by
 have:=h'.run.c0
 rw [h'.stp.b,← h.stp.b] at this
 exact this
variable {bs : List (Nat × Nat)}
variable {fs : List Fr}
variable {f : Fr}
theorem do_send {rb:Nat}{fuel fb mk:Nat} (h:Sg Dd w0 m0 K0 rb w m K fuel ((fb,mk)::bs) (f::fs)) (h0:Glo w0) (x:Kn.W) (hk:x.k=115) {n p:Nat} (hn:x.n=n) (hn3:n≤3) {to:Vl}{r:List Vl} (hst:f.st.drop n=to::r) (hto:VlOk m to) (hp:(p,ofL x.sel)∈K.k.L) (hs:(ofL x.sel).size≤1000) (h32:fs.length+1≤32) :
 Calls Tryz.prog 128 #[.pointer (some ⟨rb,0,none⟩),wval x (some ⟨p,0,none⟩)] w (WPost Dd w0 m0 K0 rb (wordM m fuel x f fs)):=by
 have hw:wordM m fuel x f fs=m.send fuel (m.of to) to (ofL x.sel) (f.st.take n).reverse ({ f with st:=r }::fs):=by unfold wordM;simp [hk,hn,hst]
 rw [hw]
 have hnl:n≤f.st.length:=by
  have:=congrArg List.length hst
  simp at this
  omega
 have ha3:(f.st.take n).reverse.length≤3:=by simp;omega
 obtain ⟨W1,hW1⟩:∃ W1,W1=w.alloc (.cells (wcs x (some ⟨p,0,none⟩)) 146):=⟨_,rfl⟩
 have B:=h.box x (some ⟨p,0,none⟩) hW1
 have ct:=B.ct
 have c0:=B.c0
 have x1:=B.x1
 have x3:=B.x3
 have x5:=B.x5
 rw [hn] at x1
 have l1:=B.l1
 have l2:=B.l2
 have l3:=B.l3
 have hta:=takeArgs_any (w:=W1.drew) (B.sg.frs.1.raw.same rfl) hnl
 have HB:Hid _:=B
 have HH:Hid (f.st.drop n=to::r∧VlOk m to∧(p,ofL x.sel)∈K.k.L):=⟨hst,hto,hp⟩
 have HFL:Hid (∀ k,Foot m K k→k < w.heap.size):=by
  have hx:∀ k,Foot m K k→k < w.heap.size:=fun k e=>h.stp.kim.lt e
  exact hx
 unfold wcs at hW1
 unfold wval wcs
 clear B h hw hk hn hst hto hp
 go_enter Tryz.func128,Tryz.ntmps128
 go_wp2_with fail
 rw [← hW1]
 clear hW1
 refine wp_region_noPanic ?_
 refine wp_region_held_drew (S:=(fun w'=>w'.cell? ⟨rb,24,none⟩=some (.pointer (some ⟨fb,0,none⟩))∧w'.cell? ⟨w.heap.size,1,none⟩=some (.int .i64 (n:Nat)))) (by kernel_rfl) (by go_keep) (fun hHeld=>?_)
 refine tkH 0 ?_
 refine tkH 1 ?_
 refine tkH 2 ?_
 refine tkH 3 ?_
 refine tkH 4 ?_
 refine tkL 5 ?_
 refine rdH 6 fun Kmac hKmac=>?_
 go_simp
 refine hta.mono ?_;rintro e w2 ⟨⟨av,rfl,hsa⟩,hf2,hc2⟩;have ct2:w2.cell? ⟨rb,24,none⟩=some (.pointer (some ⟨fb,0,none⟩)):=(World.cell?_of_block (a:=⟨rb,24,none⟩) (hc2.block _ l1 HB.out.n1)).trans ct;have x12:w2.cell? ⟨w.heap.size,1,none⟩=some (.int .i64 (n:Nat)):=(World.cell?_of_block (a:=⟨w.heap.size,1,none⟩) (hc2.block _ l3 HB.out.n2)).trans x1
 try go_wp2_with fail
 refine hKmac.go fun hHeld=>?_
 clear hKmac Kmac
 try refine lyH ?_
 refine tkL 7 ?_
 refine wpAnyH_done (by kernel_rfl) ?_ _
 refine NoPanic.normal ?_
 have hf2':=hf2
 rw [HH.out.1] at hf2'
 have htk:=take_all hf2'
 unfold Vl.val at htk
 have hrl2:rb < w2.heap.size:=Nat.lt_of_lt_of_le l1 hc2.size
 have HC2:Hid (Chg W1 w2 (fun k=>k=fb)∧StkArgs w2 av f.st n fb):=⟨(Chg.refl W1 _).drew.then hc2 (fun k _ e=>e),hsa⟩
 clear hta hsa hf2 hf2' hc2
 go_wp2_with fail
 refine htk.mono ?_
 rintro e w3 ⟨rfl,hf3,hc3,hce⟩
 have HC3:Hid (Chg W1 w3 (fun k=>k=fb)∧StkArgs w3 av f.st n fb):=by
  have hx:Chg W1 w3 (fun k=>k=fb)∧StkArgs w3 av f.st n fb:=⟨HC2.out.1.then hc3 (fun k _ e=>e),HC2.out.2.keep hnl HB.out.sg.frs.1.raw.s16 hce⟩
  exact hx
 have HF3:Hid _:=hf3
 clear htk hf3 hce hc3
 go_wp2_with fail
 obtain ⟨W4,hW4⟩:∃ W4,W4=w3.alloc (.cells #[.bool to.obj,.int .i64 to.n] 33):=⟨_,rfl⟩
 rw [← hW4]
 have hb4:Below w3.heap.size w3 W4:=by rw [hW4];exact (Below.refl _ _).alloc (Nat.le_refl _) _
 have hz4:W4.heap[w3.heap.size]?=some (.cells #[.bool to.obj,.int .i64 to.n] 33):=by rw [hW4];exact (MapKept.heap_alloc _ _).1
 have h3:=HB.out.sg.top (f':={ f with st:=r }) h0 HC3.out.1 HF3.out rfl rfl
 have h4:Sg Dd w0 m0 K0 rb W4 m K fuel ((fb,mk)::bs) ({ f with st:=r }::fs):=h3.below hb4
 have hs3:=HC3.out.1.size
 have hkx:∀ o,W4.cell? ⟨w.heap.size,o,none⟩=W1.cell? ⟨w.heap.size,o,none⟩:=fun o=>(hb4.cell (p:=⟨w.heap.size,o,none⟩) (by show w.heap.size < w3.heap.size;omega)).trans (World.cell?_of_block (a:=⟨w.heap.size,o,none⟩) (HC3.out.1.block _ l3 HB.out.n2))
 have y3:=(hkx 3).trans x3
 have y5:=(hkx 5).trans x5
 have y0:=h4.run.c0
 have v0:W4.cell? ⟨w3.heap.size,0,none⟩=some (.bool to.obj):=by simp only [World.cell?,hz4];rfl
 have v1:W4.cell? ⟨w3.heap.size,1,none⟩=some (.int .i64 to.n):=by simp only [World.cell?,hz4];rfl
 have hco:=classOf_any (h4.stp.kim.drew) to HH.out.2.1
 unfold Vl.val at hco
 have l14:=h4.run.cel.lt
 have l34:w.heap.size < W4.heap.size:=by have:=hb4.size;omega
 have l44:w3.heap.size < W4.heap.size:=(Array.getElem?_eq_some_iff.1 hz4).1
 have H4:Hid (Sg Dd w0 m0 K0 rb W4 m K fuel ((fb,mk)::bs) ({ f with st:=r }::fs)∧StkArgs W4 av f.st n fb):=by
  have hx:Sg Dd w0 m0 K0 rb W4 m K fuel ((fb,mk)::bs) ({ f with st:=r }::fs)∧StkArgs W4 av f.st n fb:=⟨h4,HC3.out.2.keep hnl HB.out.sg.frs.1.raw.s16 (fun o _=>hb4.cell (p:=⟨fb,o,none⟩) (by show fb < w3.heap.size;omega))⟩
  exact hx
 clear hW4 h3 h4 hkx hz4 hb4 ct c0 x1 x3 x5 ct2 x12
 refine wp_region_held_drew (S:=(fun w'=>w'.cell? ⟨rb,0,none⟩=some (.pointer (some ⟨K.b,0,none⟩))∧w'.cell? ⟨w.heap.size,3,none⟩=some (.string (ofL x.sel))∧w'.cell? ⟨w.heap.size,5,none⟩=some (.pointer (some ⟨p,0,none⟩))∧w'.cell? ⟨w3.heap.size,0,none⟩=some (.bool to.obj)∧w'.cell? ⟨w3.heap.size,1,none⟩=some (.int .i64 to.n))) (by kernel_rfl) (by go_keep) (fun hHeld=>?_)
 refine tkH 0 ?_
 refine tkH 1 ?_
 refine tkH 2 ?_
 refine tkH 3 ?_
 refine tkH 4 ?_
 refine tkH 5 ?_
 refine tkH 6 ?_
 refine tkH 7 ?_
 refine tkH 9 ?_
 refine tkH 10 ?_
 refine tkH 12 ?_
 refine tkL 13 ?_
 refine rdH 8 fun Kmac hKmac=>?_
 go_simp
 refine hco.mono ?_;rintro e w5 ⟨rfl,hb5⟩;have hb5':=undrew hb5;have y05:w5.cell? ⟨rb,0,none⟩=some (.pointer (some ⟨K.b,0,none⟩)):=(hb5'.cell (p:=⟨rb,0,none⟩) l14).trans y0;have y35:w5.cell? ⟨w.heap.size,3,none⟩=some (.string (ofL x.sel)):=(hb5'.cell (p:=⟨w.heap.size,3,none⟩) l34).trans y3;have y55:w5.cell? ⟨w.heap.size,5,none⟩=some (.pointer (some ⟨p,0,none⟩)):=(hb5'.cell (p:=⟨w.heap.size,5,none⟩) l34).trans y5;have v05:w5.cell? ⟨w3.heap.size,0,none⟩=some (.bool to.obj):=(hb5'.cell (p:=⟨w3.heap.size,0,none⟩) l44).trans v0;have v15:w5.cell? ⟨w3.heap.size,1,none⟩=some (.int .i64 to.n):=(hb5'.cell (p:=⟨w3.heap.size,1,none⟩) l44).trans v1
 try go_wp2_with fail
 refine hKmac.go fun hHeld=>?_
 clear hKmac Kmac
 try refine lyH ?_
 have h5:=H4.out.1.below hb5'
 have ha5:=(H4.out.2.keep hnl HB.out.sg.frs.1.raw.s16 (fun o _=>hb5'.cell (p:=⟨fb,o,none⟩) ((H4.out.1.lo fb (by simp)).2.1))).args hnl
 have hlo:=h5.lo fb (by simp)
 have hsd:=rsend_any h5 h0 HH.out.2.2 (m.of to) (of_lt h5.ok HH.out.2.1) hs to ha5 (fun _=>⟨hlo.2.1,fun e=>HB.out.n1 e.symm,hlo.2.2⟩) ha3 h32
 unfold Vl.val at hsd
 have hs5:=hb5'.size
 clear hco hb5 h5 ha5
 refine tkL 11 ?_
 refine rdH 14 fun Kmac hKmac=>?_
 go_simp
 refine hsd.mono ?_
 rintro e w6 ⟨hwp,hkp⟩
 have hq1:rb≠w.heap.size:=fun e=>HB.out.n3 e.symm
 cases hg:m.send fuel (m.of to) to (ofL x.sel) (f.st.take n).reverse ({ f with st:=r }::fs) with
 | told m' v=>exact absurd hg (send_nt _ _ _ _ _ _ _ _ _)
 | stop m' n' =>
  rw [hg] at hwp
  obtain ⟨rfl,K',hst⟩:=hwp
  exact ⟨rfl,rfl,K',hst⟩
 | on m' fuel' fs' =>
  rw [hg] at hwp
  obtain ⟨rfl,K',bs',h6⟩:=hwp
  have hkp:=hkp rfl
  have hxb:=hkp w.heap.size (by omega) (fun e=>by have:=HFL.out _ e;omega) (fun e=>hq1 e.symm)
  have hvb:=hkp w3.heap.size (by omega) (fun e=>by have:=HFL.out _ e;omega) (fun e=>by have:=(HB.out.sg.lo rb (by simp)).2.1;omega)
  have y06:=sg_c0 H4.out.1 h6
  have y36:w6.cell? ⟨w.heap.size,3,none⟩=some (.string (ofL x.sel)):=(World.cell?_of_block (a:=⟨w.heap.size,3,none⟩) hxb).trans y35
  have y56:w6.cell? ⟨w.heap.size,5,none⟩=some (.pointer (some ⟨p,0,none⟩)):=(World.cell?_of_block (a:=⟨w.heap.size,5,none⟩) hxb).trans y55
  have v06:w6.cell? ⟨w3.heap.size,0,none⟩=some (.bool to.obj):=(World.cell?_of_block (a:=⟨w3.heap.size,0,none⟩) hvb).trans v05
  have v16:w6.cell? ⟨w3.heap.size,1,none⟩=some (.int .i64 to.n):=(World.cell?_of_block (a:=⟨w3.heap.size,1,none⟩) hvb).trans v15
  have H6:Hid _:=h6
  clear h6 hkp hsd
  refine hKmac.go fun hHeld=>?_
  clear hKmac Kmac
  try refine lyH ?_
  refine wpAnyH_done (by kernel_rfl) ?_ _
  go_end0
  rw [hg]
  exact ⟨rfl,K',bs',H6.out⟩
theorem do_above {rb:Nat}{fuel fb mk:Nat} (h:Sg Dd w0 m0 K0 rb w m K fuel ((fb,mk)::bs) (f::fs)) (h0:Glo w0) (x:Kn.W) (hk:x.k=94) {n p:Nat} (hn:x.n=n) (hn3:n≤3) (hnl:n≤f.st.length) (hp:(p,ofL x.sel)∈K.k.L) (hs:(ofL x.sel).size≤1000) (h32:fs.length+1≤32) :
 Calls Tryz.prog 129 #[.pointer (some ⟨rb,0,none⟩),wval x (some ⟨p,0,none⟩)] w (WPost Dd w0 m0 K0 rb (wordM m fuel x f fs)):=by
 have hw:wordM m fuel x f fs=m.send fuel (m.ab f.home) f.self (ofL x.sel) (f.st.take n).reverse ({ f with st:=f.st.drop n }::fs):=by unfold wordM Im.ab;simp [hk,hn]
 rw [hw]
 have ha3:(f.st.take n).reverse.length≤3:=by simp;omega
 obtain ⟨W1,hW1⟩:∃ W1,W1=w.alloc (.cells (wcs x (some ⟨p,0,none⟩)) 146):=⟨_,rfl⟩
 have B:=h.box x (some ⟨p,0,none⟩) hW1
 have ct:=B.ct
 have x1:=B.x1
 have x3:=B.x3
 have x5:=B.x5
 rw [hn] at x1
 have l1:=B.l1
 have l2:=B.l2
 have l3:=B.l3
 have hta:=takeArgs_any (w:=W1.drew) (B.sg.frs.1.raw.same rfl) hnl
 have HB:Hid _:=B
 have HH:Hid ((p,ofL x.sel)∈K.k.L∧f.home < m.kl.length):=⟨hp,h.homes f (List.mem_cons_self ..)⟩
 have HFL:Hid (∀ k,Foot m K k→k < w.heap.size):=by
  have hx:∀ k,Foot m K k→k < w.heap.size:=fun k e=>h.stp.kim.lt e
  exact hx
 unfold wcs at hW1
 unfold wval wcs
 clear B h hw hk hn hp
 go_enter Tryz.func129,Tryz.ntmps129
 go_wp2_with fail
 rw [← hW1]
 clear hW1
 refine wp_region_noPanic ?_
 refine wp_region_held_drew (S:=(fun w'=>w'.cell? ⟨rb,24,none⟩=some (.pointer (some ⟨fb,0,none⟩))∧w'.cell? ⟨w.heap.size,1,none⟩=some (.int .i64 (n:Nat)))) (by kernel_rfl) (by go_keep) (fun hHeld=>?_)
 refine tkH 0 ?_
 refine tkH 1 ?_
 refine tkH 2 ?_
 refine tkH 3 ?_
 refine tkH 4 ?_
 refine tkL 5 ?_
 refine rdH 6 fun Kmac hKmac=>?_
 go_simp
 refine hta.mono ?_;rintro e w2 ⟨⟨av,rfl,hsa⟩,hf2,hc2⟩;have ct2:w2.cell? ⟨rb,24,none⟩=some (.pointer (some ⟨fb,0,none⟩)):=(World.cell?_of_block (a:=⟨rb,24,none⟩) (hc2.block _ l1 HB.out.n1)).trans ct;have x12:w2.cell? ⟨w.heap.size,1,none⟩=some (.int .i64 (n:Nat)):=(World.cell?_of_block (a:=⟨w.heap.size,1,none⟩) (hc2.block _ l3 HB.out.n2)).trans x1
 try go_wp2_with fail
 refine hKmac.go fun hHeld=>?_
 clear hKmac Kmac
 try refine lyH ?_
 refine tkL 7 ?_
 refine wpAnyH_done (by kernel_rfl) ?_ _
 refine NoPanic.normal ?_
 have hc2':Chg W1 w2 (fun k=>k=fb):=(Chg.refl W1 _).drew.then hc2 (fun k _ e=>e)
 have h2:=HB.out.sg.top (f':={ f with st:=f.st.drop n }) h0 hc2' hf2 rfl rfl
 have s1:=hf2.c1
 have s2:=hf2.c2
 have s3:=hf2.c3
 have hab:=h2.stp.kim.cls.above HH.out.2
 have hcl:=(h2.stp.kim.cls.cel HH.out.2).lt
 have l12:=h2.run.cel.lt
 have l22:=hf2.cel.lt
 have l32:w.heap.size < w2.heap.size:=Nat.lt_of_lt_of_le l3 hc2'.size
 have y3:w2.cell? ⟨w.heap.size,3,none⟩=some (.string (ofL x.sel)):=(World.cell?_of_block (a:=⟨w.heap.size,3,none⟩) (hc2'.block _ l3 HB.out.n2)).trans x3
 have y5:w2.cell? ⟨w.heap.size,5,none⟩=some (.pointer (some ⟨p,0,none⟩)):=(World.cell?_of_block (a:=⟨w.heap.size,5,none⟩) (hc2'.block _ l3 HB.out.n2)).trans x5
 have H2:Hid _:=h2
 have ha2:=hsa.args hnl
 have hlo:=h2.lo fb (by simp)
 have hsd:=rsend_any (h2.below (Below.refl _ _).drew) h0 HH.out.1 (m.ab f.home) (fun c e=>ab_lt h2.ok e) hs f.self (ha2.same (w':=w2.drew) (fun _=>rfl)) (fun _=>⟨hlo.2.1,fun e=>HB.out.n1 e.symm,hlo.2.2⟩) ha3 h32
 unfold Vl.val at hsd
 clear hta hsa ha2 h2 hf2 hc2 hc2' ct x1 x3 x5 x12 hlo
 go_wp2_with fail
 refine wp_region_held_drew (S:=(fun w'=>w'.cell? ⟨w.heap.size,3,none⟩=some (.string (ofL x.sel))∧w'.cell? ⟨w.heap.size,5,none⟩=some (.pointer (some ⟨p,0,none⟩))∧w'.cell? ⟨fb,1,none⟩=some (.pointer (some ⟨K.cb f.home,0,none⟩))∧w'.cell? ⟨fb,2,none⟩=some (.bool f.self.obj)∧w'.cell? ⟨fb,3,none⟩=some (.int .i64 f.self.n))) (by kernel_rfl) (by go_keep) (fun hHeld=>?_)
 refine tkH 0 ?_
 refine tkH 1 ?_
 refine tkH 2 ?_
 refine tkH 3 ?_
 refine tkH 4 ?_
 refine tkH 5 ?_
 refine tkH 13 ?_
 refine tkH 14 ?_
 refine tkH 16 ?_
 refine tkH 17 ?_
 refine tkH 18 ?_
 refine tkL 23 ?_
 refine wpAnyH_ready (rs:=[6,19]) (by kernel_rfl) (by simp) ?_
 refine (AllReadyH.cons (o:=_) rfl (fun Kmac hKmac=>?_) (AllReadyH.cons (o:=_) rfl (fun Kmac hKmac=>?_) AllReadyH.nil))
 case' refine_2 =>
  go_simp
  refine hKmac.go fun hHeld=>?_
  clear hKmac Kmac
  try refine lyH ?_
  refine tkH 20 ?_
  refine tkH 21 ?_
  refine tkL 22 ?_
  refine rdH 6 fun Kmac hKmac=>?_
  go_simp
  refine hKmac.go fun hHeld=>?_
  clear hKmac Kmac
  try refine lyH ?_
  refine tkH 7 ?_
  refine tkH 8 ?_
  refine tkH 9 ?_
  refine tkH 10 ?_
  refine tkL 11 ?_
  refine rdH 12 fun Kmac hKmac=>?_
  go_simp
  refine hKmac.go fun hHeld=>?_
  clear hKmac Kmac
  try refine lyH ?_
  refine tkL 15 ?_
 case' refine_1 =>
  go_simp
  refine hKmac.go fun hHeld=>?_
  clear hKmac Kmac
  try refine lyH ?_
  refine tkH 7 ?_
  refine tkH 8 ?_
  refine tkH 9 ?_
  refine tkH 10 ?_
  refine tkL 11 ?_
  refine wpAnyH_ready (rs:=[12,19]) (by kernel_rfl) (by simp) ?_
  refine (AllReadyH.cons (o:=_) rfl (fun Kmac hKmac=>?_) (AllReadyH.cons (o:=_) rfl (fun Kmac hKmac=>?_) AllReadyH.nil))
  case' refine_1 =>
   go_simp
   refine hKmac.go fun hHeld=>?_
   clear hKmac Kmac
   try refine lyH ?_
   refine tkL 15 ?_
   refine rdH 19 fun Kmac hKmac=>?_
   go_simp
   refine hKmac.go fun hHeld=>?_
   clear hKmac Kmac
   try refine lyH ?_
   refine tkH 20 ?_
   refine tkH 21 ?_
   refine tkL 22 ?_
  case' refine_2 =>
   go_simp
   refine hKmac.go fun hHeld=>?_
   clear hKmac Kmac
   try refine lyH ?_
   refine tkH 20 ?_
   refine tkH 21 ?_
   refine tkL 22 ?_
   refine rdH 12 fun Kmac hKmac=>?_
   go_simp
   refine hKmac.go fun hHeld=>?_
   clear hKmac Kmac
   try refine lyH ?_
   refine tkL 15 ?_
 all_goals
  refine rdH 24 fun Kmac hKmac=>?_
  go_simp
  refine hsd.mono ?_
  rintro e w6 ⟨hwp,hkp⟩
  have hq1:rb≠w.heap.size:=fun e=>HB.out.n3 e.symm
  cases hg:m.send fuel (m.ab f.home) f.self (ofL x.sel) (f.st.take n).reverse ({ f with st:=f.st.drop n }::fs) with
  | told m' v=>exact absurd hg (send_nt _ _ _ _ _ _ _ _ _)
  | stop m' n' =>
   rw [hg] at hwp
   obtain ⟨rfl,K',hst⟩:=hwp
   exact ⟨rfl,rfl,K',hst⟩
  | on m' fuel' fs' =>
   rw [hg] at hwp
   obtain ⟨rfl,K',bs',h6⟩:=hwp
   have hkp:=hkp rfl
   have hxb:=hkp w.heap.size l32 (fun e=>by have:=HFL.out _ e;omega) (fun e=>hq1 e.symm)
   have hfb:=hkp fb l22 ((H2.out.lo fb (by simp)).2.2) (fun e=>HB.out.n1 e.symm)
   have y36:w6.cell? ⟨w.heap.size,3,none⟩=some (.string (ofL x.sel)):=(World.cell?_of_block (a:=⟨w.heap.size,3,none⟩) hxb).trans y3
   have y56:w6.cell? ⟨w.heap.size,5,none⟩=some (.pointer (some ⟨p,0,none⟩)):=(World.cell?_of_block (a:=⟨w.heap.size,5,none⟩) hxb).trans y5
   have s16:w6.cell? ⟨fb,1,none⟩=some (.pointer (some ⟨K.cb f.home,0,none⟩)):=(World.cell?_of_block (a:=⟨fb,1,none⟩) hfb).trans s1
   have s26:w6.cell? ⟨fb,2,none⟩=some (.bool f.self.obj):=(World.cell?_of_block (a:=⟨fb,2,none⟩) hfb).trans s2
   have s36:w6.cell? ⟨fb,3,none⟩=some (.int .i64 f.self.n):=(World.cell?_of_block (a:=⟨fb,3,none⟩) hfb).trans s3
   have H6:Hid _:=h6
   clear h6 hkp hsd
   refine hKmac.go fun hHeld=>?_
   clear hKmac Kmac
   try refine lyH ?_
   refine wpAnyH_done (by kernel_rfl) ?_ _
   go_end0
   rw [hg]
   exact ⟨rfl,K',bs',H6.out⟩
end Go.Proofs.YtkghmgoefiepeaaGreatDoor.reads
