import Derived.Test.YtkghmgoefiepeaaGreatDoorQ0
import Derived.Test.YtkghmgoefiepeaaGreatDoorQ33
set_option linter.unusedSimpArgs false
set_option linter.unusedVariables false
set_option maxHeartbeats 4000000
set_option maxRecDepth 100000
namespace Go.Proofs.YtkghmgoefiepeaaGreatDoor.reads
open Go.ChangeShapes Go.WideShapes Go.ChangeAt Go.RowKit Kn Go.Proofs.YtkghmgoefiepeaaGreatDoor.img
variable {w : World}
variable {m : Im}
variable {K : Kd}
theorem find_none (h:KIm w m K) (p:Nat) (s:ByteArray) :
 Calls Tryz.prog 136 #[.pointer (some ⟨K.b,0,none⟩),.pointer (some ⟨p,0,none⟩),.agg #[.pointer none,.string s]] w fun e w'=>e=.returned (fval K none)∧∃ K',Step w w' m K { m with looks:=m.looks+1 } K':=by
 have c2:=h.hd.c2
 have fzb:∀ o,w.frozen? ⟨K.b,o,none⟩=false:=fun o=>h.cor.tab.cel.free o
 have hbl:=h.cor.tab.cel.lt
 have HL:Hid (Step w (w.setCell ⟨K.b,2,none⟩ (.int .i64 (Go.RowKit.wrap64 ((m.looks+1:Nat):Int)))) m K { m with looks:=m.looks+1 } K):=h.looked
 clear h
 go_enter Tryz.func136,Tryz.ntmps136
 go_wp2
 rw [wrap64_succ]
 obtain ⟨W0,hW0⟩:∃ W0,W0=w.setCell ⟨K.b,2,none⟩ (.int .i64 (Go.RowKit.wrap64 ((m.looks+1:Nat):Int))):=⟨_,rfl⟩
 have hz:W0.heap.size=w.heap.size:=by rw [hW0];simp [World.setCell]
 rw [← hW0] at HL ⊢
 refine bodyPost_ret (results_fnd (z:=w.heap.size+1) Tryz.results136 (.pointer none) (.pointer none) rfl ?_ ?_) rfl ⟨rfl,K,HL.out.trans (Step.below HL.out.kim (below2 _ _ _))⟩
 · exact new_cell _ _ _ _ 0 (by simp [hz])
 · exact new_cell _ _ _ _ 1 (by simp [hz])
theorem find_mid {w W1 W3 W4 W5:World}{m m1:Im}{K K4:Kd}{z:Nat} (h:KIm w m K) (h1:Step w W1 m K m1 K) (hm1:m1.kl=m.kl∧m1.obs=m.obs) (hB3:Below W1.heap.size W1 W3) (hz1:W1.heap.size≤z) (hz3:z < W3.heap.size) (h4:Step W3 W4 m1 K m1 K4) (hc5:Chg W4 W5 (fun k=>k=z)):Step W1 W5 m1 K m1 K4:=by
 have hft:∀ k,Foot m1 K k→k < w.heap.size:=fun k e=>h.lt (by
  unfold Foot at e ⊢
  rw [hm1.1,hm1.2] at e
  exact e)
 have hgl:∀ k,Gl k→k < w.heap.size:=fun k hk=>h.glo.lt hk
 have hs1:=h1.chg.size
 have h14:Step W1 W4 m1 K m1 K4:=(Step.below h1.kim hB3).trans h4
 exact h14.aside hc5 (fun k e=>⟨by omega,fun e'=>by
  rcases h4.foot k e' with e1 | e1
  · have:=hft k e1;omega
  · omega⟩) (fun k hk=>by have:=hgl k hk;omega)
theorem set2 {z:Nat}{a b x y:Value}{t:TypeId} (h:w.heap[z]?=some (.cells #[a,b] t)):((w.setCell ⟨z,0,none⟩ x).setCell ⟨z,1,none⟩ y).heap[z]?=some (.cells #[x,y] t):=by
 have h1:(w.setCell ⟨z,0,none⟩ x).heap[z]?=some (.cells #[x,b] t):=by
  simp only [World.setCell,Array.getElem?_modify,if_pos,h]
  rfl
 simp only [World.setCell,Array.getElem?_modify,if_pos] at h1 ⊢
 rw [h1]
 rfl
theorem find_put {w W1 W3 W4 W5 W6:World}{m m1:Im}{K K4:Kd}{p z:Nat}{s:ByteArray}{mm:Mm}{r:Rw4} (h:KIm w m K) (h1:Step w W1 m K m1 K) (hl1:w.heap.size+2≤W1.heap.size) (hm1:m1.kl=m.kl∧m1.obs=m.obs) (hB3:Below W1.heap.size W1 W3) (hz1:W1.heap.size≤z) (hz3:z < W3.heap.size) (h4:Step W3 W4 m1 K m1 K4)
 (eL:K4.k.L=K.k.L) (epm:K4.k.pm=K.k.pm) (hc5:Chg W4 W5 (fun k=>k=z)) (hp:(p,s)∈K.k.L) (hl:Lrn K4.np (K.k.pm p) r mm) (hr:SdI m1 K4 s r) (hok:mm.Ok W6) (hq:∀ q,mm.arr=some q→(K.k.pm p).arr=some q∨W5.heap.size≤q) (hch:Chg W5 W6 (fun k=>(K.k.pm p).arr=some k)) (v0 v1:Value) :
 ∃ K',Step w (((W6.setCell ⟨p,0,none⟩ mm.val).setCell ⟨w.heap.size+1,0,none⟩ v0).setCell ⟨w.heap.size+1,1,none⟩ v1) m K m1 K':=by
 have hft:∀ k,Foot m1 K k→k < w.heap.size:=fun k e=>h.lt (by
  unfold Foot at e ⊢
  rw [hm1.1,hm1.2] at e
  exact e)
 have hgl:∀ k,Gl k→k < w.heap.size:=fun k hk=>h.glo.lt hk
 have hs1:=h1.chg.size
 have h14:Step W1 W4 m1 K m1 K4:=(Step.below h1.kim hB3).trans h4
 have h15:Step W1 W5 m1 K m1 K4:=h14.aside hc5 (fun k e=>⟨by omega,fun e'=>by
  rcases h4.foot k e' with e1 | e1
  · have:=hft k e1;omega
  · omega⟩) (fun k hk=>by have:=hgl k hk;omega)
 have hp4:(p,s)∈K4.k.L:=by rw [eL];exact hp
 have hpw:p < W5.heap.size:=h15.kim.cor.lt (.inr (.inr (.inl ⟨p,s,hp4,.inl rfl⟩)):CBlk K4.k p)
 have hqp:∀ q,mm.arr=some q→q≠p:=fun q e e'=>by
  rcases hq q e with e1 | e1
  · have ha:=h15.kim.cor.pls.at_ p s hp4
    obtain ⟨cur,hcur⟩:=h15.kim.cor.pls.arrCel hp4 (q:=q) (by rw [epm];exact e1)
    rw [e',ha] at hcur
    injection hcur with hcur
    injection hcur with _ hcur _
    revert hcur
    decide
  · omega
 have hlr:=h15.kim.learnt (p:=p) (s:=s) (r:=r) (mm:=mm) (w3:=W6) hp4 (by rw [epm];exact hl) hr hok (by rw [epm];exact hq) hqp (by rw [epm];exact hch)
 have h16:=h15.trans hlr
 have hf:∀ k,k=w.heap.size+1→w.heap.size≤k∧¬ Foot m1 (K4.learnt p mm) k:=fun k e=>⟨by omega,fun e'=>by
  rcases h16.foot k e' with e1 | e1
  · have:=hft k e1;omega
  · omega⟩
 have hfin:=(h1.trans h16).aside (S:=fun k=>k=w.heap.size+1) (((Chg.refl _ (fun k=>k=w.heap.size+1)).setCell ⟨w.heap.size+1,0,none⟩ v0 (fun _=>rfl)).setCell ⟨w.heap.size+1,1,none⟩ v1 (fun _=>rfl)) hf hgl
 exact ⟨_,hfin⟩
theorem SdI.rowIn (h:KIm w m K) {s:ByteArray}{r:Rw4} (hr:SdI m K s r):RowIn w r:=h.rowIn (.inl hr.2)
theorem find_mm (M : Mm) (T fR fL : Nat) (P0 : Value) (hv : M.val = .iface T P0) (hpay : M.pay = P0) (hfR : M.fRecall = fR) (hfL : M.fLearn = fL) (hm1 : ∀ W, (method 365 T P0 "kin/kin.recall").run Tryz.prog W = .ok (fR, P0) W) (hm2 : ∀ W, (method 365 T P0 "kin/kin.learn").run Tryz.prog W = .ok (fL, P0) W) (hc1 : ∀ a W, (callFunc fR a).run Tryz.prog W = .ok (.enter fR a) W) (hc2 : ∀ a W, (callFunc fL a).run Tryz.prog W = .ok (.enter fL a) W) (h : KIm w m K) {p : Nat} {s : ByteArray} (hp : (p, s) ∈ K.k.L) {c : Nat} (hc : c < m.kl.length) (hs : s.size ≤ 1000) (hmm : K.k.pm p = M) :
 Calls Tryz.prog 136 #[.pointer (some ⟨K.b,0,none⟩),.pointer (some ⟨p,0,none⟩),.agg #[.pointer (some ⟨K.cb c,0,none⟩),.string s]] w fun e w'=>e=.returned (fval K (K.says m s (some c)))∧∃ K',Step w w' m K { m with looks:=m.looks+1 } K':=by
 have c2:=h.hd.c2
 have fzb:∀ o,w.frozen? ⟨K.b,o,none⟩=false:=fun o=>h.cor.tab.cel.free o
 have hbl:=h.cor.tab.cel.lt
 obtain ⟨W1,hW1⟩:∃ W1,W1=((w.setCell ⟨K.b,2,none⟩ (.int .i64 (Go.RowKit.wrap64 ((m.looks+1:Nat):Int)))).alloc (.cells #[.pointer (some ⟨K.cb c,0,none⟩),.string s] 59)).alloc (.cells #[.pointer none,.pointer none] 62):=⟨_,rfl⟩
 have h1:Step w W1 m K { m with looks:=m.looks+1 } K:=by rw [hW1];exact h.looked.trans (Step.below h.looked.kim (below2 _ _ _))
 have hsz0:(w.setCell ⟨K.b,2,none⟩ (.int .i64 (Go.RowKit.wrap64 ((m.looks+1:Nat):Int)))).heap.size=w.heap.size:=by simp [World.setCell]
 have hl1:w.heap.size+2≤W1.heap.size:=by rw [hW1];simp [World.setCell]
 have b01:W1.heap[w.heap.size]?=some (.cells #[.pointer (some ⟨K.cb c,0,none⟩),.string s] 59):=by
  rw [hW1,Below.heap_alloc _ _ _ (by simp [World.setCell])]
  have:=(MapKept.heap_alloc (w.setCell ⟨K.b,2,none⟩ (.int .i64 (Go.RowKit.wrap64 ((m.looks+1:Nat):Int)))) (.cells #[.pointer (some ⟨K.cb c,0,none⟩),.string s] 59)).1
  rw [hsz0] at this
  exact this
 have c11:W1.heap[w.heap.size+1]?=some (.cells #[.pointer none,.pointer none] 62):=by
  rw [hW1]
  have:=(MapKept.heap_alloc ((w.setCell ⟨K.b,2,none⟩ (.int .i64 (Go.RowKit.wrap64 ((m.looks+1:Nat):Int)))).alloc (.cells #[.pointer (some ⟨K.cb c,0,none⟩),.string s] 59)) (.cells #[.pointer none,.pointer none] 62)).1
  rw [World.size_alloc,hsz0] at this
  exact this
 have q01:W1.cell? ⟨w.heap.size,0,none⟩=some (.pointer (some ⟨K.cb c,0,none⟩)):=by simp only [World.cell?,b01];rfl
 have q11:W1.cell? ⟨w.heap.size,1,none⟩=some (.string s):=by simp only [World.cell?,b01];rfl
 have hpl:=h1.kim.cor.pls
 have cp1:W1.cell? ⟨p,0,none⟩=some (.iface T P0):=by
  have:=hpl.at_ p s hp
  rw [hmm,hv] at this
  simp only [World.cell?,this]
  rfl
 have hpl0:p < w.heap.size:=h.cor.lt (.inr (.inr (.inl ⟨p,s,hp,.inl rfl⟩)):CBlk K.k p)
 have hokm:=(hpl.ok p s hp).1
 have hlen:=(hpl.ok p s hp).2
 have hrows:=fun r (hr:r∈(K.k.pm p).rows)=>hpl.rows p s r hp hr
 have hnp:=h.np6
 rw [hmm] at hokm hlen hrows
 have harr:∀ q,M.arr=some q→q < W1.heap.size:=fun q e=>h1.kim.cor.lt (.inr (.inr (.inl ⟨p,s,hp,.inr (by rw [hmm];exact e)⟩)):CBlk K.k q)
 have hrc:∀ W,Below W1.heap.size W1 W→Calls Tryz.prog M.fRecall #[M.pay,.agg #[.pointer (some ⟨K.cb c,0,none⟩),.string s]] W fun e w'=>∃ h m k,e=.returned (.tuple #[.agg #[.pointer h,.pointer m],.bool k]) ∧
  (k=true→∃ r∈M.rows,r.fr=some ⟨K.cb c,0,none⟩∧r.sel=s∧h=r.hm∧m=r.mt)∧Below W.heap.size W w':=fun W hW=>recall_mm _ _ s W (hokm.keep (fun q e=>hW.block q (harr q e))) (Nat.le_trans hlen hnp) (fun r hr=>SdI.rowIn (h1.kim.below hW) (hrows r hr)) ((h1.kim.below hW).cls.cel hc)
 simp only [hfR,hpay,Rw4.val] at hrc
 have H1:Hid _:=h1
 have HH:Hid _:=h
 have HFL:Hid (M.fLearn=fL∧M.pay=P0∧M.val=.iface T P0):=⟨hfL,hpay,hv⟩
 clear hfL hfR hpay hv
 have HMM:Hid (K.k.pm p=M∧∀ r∈M.rows,SdI m K s r):=⟨hmm,hrows⟩
 have HOK:Hid (M.Ok W1∧M.rows.length≤K.np∧∀ q,M.arr=some q→q < W1.heap.size):=⟨hokm,hlen,harr⟩
 have hBa:Below W1.heap.size W1 W1.drew:=(Below.refl _ _).drew
 have hBb:Below W1.heap.size W1 (W1.alloc (.cells #[.pointer none,.pointer none] 62)).drew:=((Below.refl _ _).alloc (Nat.le_refl _) _).drew
 clear h h1 hpl hokm hlen hrows b01 hmm harr
 go_enter Tryz.func136,Tryz.ntmps136
 go_wp2_with fail
 rw [wrap64_succ,← hW1]
 clear hW1
 refine wp_region_noPanic ?_
 refine wp_region_held_drew (S:=(fun w'=>w'.cell? ⟨w.heap.size,0,none⟩=some (.pointer (some ⟨K.cb c,0,none⟩))∧w'.cell? ⟨w.heap.size,1,none⟩=some (.string s)∧w'.cell? ⟨p,0,none⟩=some (.iface T P0))) (by kernel_rfl) (by go_keep) (fun hHeld=>?_)
 refine tkH 0 ?_
 refine tkH 1 ?_
 refine tkH 2 ?_
 refine tkH 3 ?_
 refine tkL 4 ?_
 refine wpAnyH_ready (rs:=[5,9]) (by kernel_rfl) (by simp) ?_
 refine (AllReadyH.cons (o:=_) rfl (fun Kmac hKmac=>?Ab1) (AllReadyH.cons (o:=_) rfl (fun Kmac hKmac=>?Ab2) AllReadyH.nil))
 case' Ab1 =>
  go_simp
  refine (hrc _ hBa).mono ?_;rintro e w2 ⟨hh,mt,kk,rfl,hk,hb2⟩;have q02:w2.cell? ⟨w.heap.size,0,none⟩=some (.pointer (some ⟨K.cb c,0,none⟩)):=(hb2.cell (p:=⟨w.heap.size,0,none⟩) (by show w.heap.size < W1.heap.size;omega)).trans q01;have q12:w2.cell? ⟨w.heap.size,1,none⟩=some (.string s):=(hb2.cell (p:=⟨w.heap.size,1,none⟩) (by show w.heap.size < W1.heap.size;omega)).trans q11;have cp2:w2.cell? ⟨p,0,none⟩=some (.iface T P0):=(hb2.cell (p:=⟨p,0,none⟩) (by show p < W1.heap.size;omega)).trans cp1
  try go_wp2_with fail
  refine hKmac.go fun hHeld=>?_
  clear hKmac Kmac
  try refine lyH ?_
  have hb2':Below W1.heap.size W1 w2:=undrew hb2
  have hkk:Hid _:=hk
  clear hb2 hk hrc
  refine tkH 6 ?_
  refine tkH 7 ?_
  refine tkL 8 ?_
  refine rdH 9 fun Kmac hKmac=>?_
  go_simp
  refine hKmac.go fun hHeld=>?_
  clear hKmac Kmac
  try refine lyH ?_
  refine rdH 10 fun Kmac hKmac=>?_
  go_simp
  refine hKmac.go fun hHeld=>?_
  clear hKmac Kmac
  try refine lyH ?_
  refine tkL 11 ?_
  refine wpAnyH_done (by kernel_rfl) ?_ _
  refine NoPanic.normal ?_
  obtain ⟨W3,hW3⟩:∃ W3,W3=w2.alloc (.cells #[.pointer hh,.pointer mt] 62):=⟨_,rfl⟩
  obtain ⟨z,hzz⟩:∃ z,z=w2.heap.size:=⟨_,rfl⟩
  rw [← hW3,← hzz]
  have hB3:Below W1.heap.size W1 W3:=by rw [hW3];exact hb2'.alloc hb2'.size _
  have hzb:W3.heap[z]?=some (.cells #[.pointer hh,.pointer mt] 62):=by rw [hW3,hzz];exact (MapKept.heap_alloc _ _).1
  have hz1:W1.heap.size≤z:=by rw [hzz];exact hb2'.size
  clear hzz hW3 hb2' q02 q12 cp2
 case' Ab2 =>
  go_simp
  refine hKmac.go fun hHeld=>?_
  clear hKmac Kmac
  try refine lyH ?_
  refine rdH 5 fun Kmac hKmac=>?_
  go_simp
  refine (hrc _ hBb).mono ?_;rintro e w2 ⟨hh,mt,kk,rfl,hk,hb2⟩;have hb3:Below W1.heap.size (W1.alloc (.cells #[.pointer none,.pointer none] 62)).drew w2:=hb2.mono (by simp);have hb2':Below W1.heap.size W1 w2:=hBb.trans hb3;have q02:w2.cell? ⟨w.heap.size,0,none⟩=some (.pointer (some ⟨K.cb c,0,none⟩)):=(hb2'.cell (p:=⟨w.heap.size,0,none⟩) (by show w.heap.size < W1.heap.size;omega)).trans q01;have q12:w2.cell? ⟨w.heap.size,1,none⟩=some (.string s):=(hb2'.cell (p:=⟨w.heap.size,1,none⟩) (by show w.heap.size < W1.heap.size;omega)).trans q11;have cp2:w2.cell? ⟨p,0,none⟩=some (.iface T P0):=(hb2'.cell (p:=⟨p,0,none⟩) (by show p < W1.heap.size;omega)).trans cp1;have hzw:w2.heap[W1.heap.size]?=some (.cells #[.pointer none,.pointer none] 62):=(hb2.block _ (by simp)).trans (MapKept.heap_alloc _ _).1
  try go_wp2_with fail
  refine hKmac.go fun hHeld=>?_
  clear hKmac Kmac
  try refine lyH ?_
  have u0:w2.cell? ⟨W1.heap.size,0,none⟩=some (.pointer none):=by simp only [World.cell?,hzw];rfl
  have u1:w2.cell? ⟨W1.heap.size,1,none⟩=some (.pointer none):=by simp only [World.cell?,hzw];rfl
  have uf:∀ o,w2.frozen? ⟨W1.heap.size,o,none⟩=false:=fun o=>Cel.free ⟨_,_,hzw⟩ o
  have hkk:Hid _:=hk
  have hn1:¬ W1.heap.size=w.heap.size:=by omega
  have hn2:¬ w.heap.size=W1.heap.size:=by omega
  have hn3:¬ W1.heap.size=p:=by omega
  have hn4:¬ p=W1.heap.size:=by omega
  clear hb2 hk hrc hb3
  refine tkH 6 ?_
  refine tkH 7 ?_
  refine tkL 8 ?_
  refine rdH 10 fun Kmac hKmac=>?_
  go_simp
  refine hKmac.go fun hHeld=>?_
  clear hKmac Kmac
  try refine lyH ?_
  refine tkL 11 ?_
  refine wpAnyH_done (by kernel_rfl) ?_ _
  refine NoPanic.normal ?_
  obtain ⟨W3,hW3⟩:∃ W3,W3=(w2.setCell ⟨W1.heap.size,0,none⟩ (.pointer hh)).setCell ⟨W1.heap.size,1,none⟩ (.pointer mt):=⟨_,rfl⟩
  obtain ⟨z,hzz⟩:∃ z,z=W1.heap.size:=⟨_,rfl⟩
  rw [← hW3,← hzz]
  have hB3:Below W1.heap.size W1 W3:=by rw [hW3];exact (hb2'.setCell (Nat.le_refl _) _).setCell (Nat.le_refl _) _
  have hzb:W3.heap[z]?=some (.cells #[.pointer hh,.pointer mt] 62):=by rw [hW3,hzz];exact set2 hzw
  have hz1:W1.heap.size≤z:=by omega
  clear hzz hW3 hb2' q02 q12 cp2 hzw u0 u1 uf hn1 hn2 hn3 hn4
 all_goals
  have q0:W3.cell? ⟨w.heap.size,0,none⟩=some (.pointer (some ⟨K.cb c,0,none⟩)):=(hB3.cell (p:=⟨w.heap.size,0,none⟩) (by show w.heap.size < W1.heap.size;omega)).trans q01
  have q1:W3.cell? ⟨w.heap.size,1,none⟩=some (.string s):=(hB3.cell (p:=⟨w.heap.size,1,none⟩) (by show w.heap.size < W1.heap.size;omega)).trans q11
  have c13:W3.heap[w.heap.size+1]?=some (.cells #[.pointer none,.pointer none] 62):=(hB3.block _ (by omega)).trans c11
  have f0:W3.cell? ⟨w.heap.size+1,0,none⟩=some (.pointer none):=by simp only [World.cell?,c13];rfl
  have f1:W3.cell? ⟨w.heap.size+1,1,none⟩=some (.pointer none):=by simp only [World.cell?,c13];rfl
  have ff:∀ o,W3.frozen? ⟨w.heap.size+1,o,none⟩=false:=fun o=>Cel.free ⟨_,_,c13⟩ o
  have z0:W3.cell? ⟨z,0,none⟩=some (.pointer hh):=by simp only [World.cell?,hzb];rfl
  have z1:W3.cell? ⟨z,1,none⟩=some (.pointer mt):=by simp only [World.cell?,hzb];rfl
  have zf:∀ o,W3.frozen? ⟨z,o,none⟩=false:=fun o=>Cel.free ⟨_,_,hzb⟩ o
  have hz3:z < W3.heap.size:=(Array.getElem?_eq_some_iff.1 hzb).1
  have hnz1:¬ z=w.heap.size:=by omega
  have hnz2:¬ w.heap.size=z:=by omega
  have hnz3:¬ z=w.heap.size+1:=by omega
  have hnz4:¬ w.heap.size+1=z:=by omega
  have hnz5:¬ z=p:=by omega
  have hnz6:¬ p=z:=by omega
  have hnz7:¬ w.heap.size+1=p:=by omega
  have hnz8:¬ w.heap.size=p:=by omega
  have hnz9:¬ K.b=z:=by omega
  have hnza:¬ p=w.heap.size:=by omega
  have hnzb:¬ p=w.heap.size+1:=by omega
  have hnzc:¬ p=K.b:=fun e=>HH.out.cor.bn (by rw [← e];exact .inr (.inr (.inl ⟨p,s,hp,.inl rfl⟩)))
  have hnzd:¬ K.b=p:=fun e=>hnzc e.symm
  have hl3:w.heap.size+2≤W3.heap.size:=by omega
  have HB3:Hid _:=hB3
  have HZB:Hid _:=hzb
  have HC13:Hid _:=c13
  clear hB3 hzb c13 q01 q11 c11
  cases kk with
  | true =>
   obtain ⟨r,hrm,e1,e2,e3,e4⟩:=hkk.out rfl
   have hval:Value.agg #[.pointer r.hm,.pointer r.mt]=fval K (K.says m s (some c)):=by rw [← e2];exact HH.out.ansRow hc (HMM.out.2 r hrm).2 e1
   subst e3 e4
   have HV:Hid _:=hval
   clear hval e1 e2 hrm
   go_wp2
   have hs3:Step w W3 m K { m with looks:=m.looks+1 } K:=H1.out.trans (Step.below H1.out.kim HB3.out)
   have hfin:=hs3.aside (S:=fun k=>k=w.heap.size+1) (((Chg.refl _ (fun k=>k=w.heap.size+1)).setCell ⟨w.heap.size+1,0,none⟩ (.pointer r.hm) (fun _=>rfl)).setCell ⟨w.heap.size+1,1,none⟩ (.pointer r.mt) (fun _=>rfl)) (fun k e=>⟨by omega,fun e'=>by have:=HH.out.lt (k:=k) e';omega⟩) (fun k hk=>HH.out.glo.lt hk)
   refine bodyPost_ret (results_fnd (z:=w.heap.size+1) Tryz.results136 (.pointer r.hm) (.pointer r.mt) rfl ?_ ?_) rfl ⟨congrArg Ending.returned HV.out,K,hfin⟩
   · exact (cs_other (by intro e;injection e with e1 e2;omega)).trans (cs_same f0)
   · exact cs_same ((cs_other (by intro e;injection e with e1 e2;omega)).trans f1)
  | false =>
   have hbt:=byTable_any (H1.out.kim.below HB3.out) (Nat.lt_succ_of_le HH.out.cll) hc s hs
   have hsay:fval K (K.says { m with looks:=m.looks+1 } s (some c))=fval K (K.says m s (some c)):=rfl
   rw [hsay] at hbt
   unfold fval at hbt
   obtain ⟨va,hva⟩:∃ va,va=cptr ((K.says m s (some c)).map (fun x=>K.cb x.1)):=⟨_,rfl⟩
   obtain ⟨vb,hvb⟩:∃ vb,vb=cptr ((K.says m s (some c)).map (·.2)):=⟨_,rfl⟩
   rw [← hva,← hvb] at hbt
   have HVA:Hid (va=cptr ((K.says m s (some c)).map (fun x=>K.cb x.1))∧vb=cptr ((K.says m s (some c)).map (·.2))):=⟨hva,hvb⟩
   clear hva hvb hsay
   go_wp2_with fail
   refine hbt.mono ?_
   rintro e W4 ⟨rfl,K4,h4,ecb,emid,eL,epm⟩
   have hft:∀ k,Foot { m with looks:=m.looks+1 } K k→k < w.heap.size:=fun k e=>HH.out.lt (k:=k) e
   have hz4:W4.heap[z]?=some (.cells #[.pointer hh,.pointer mt] 62):=(h4.chg.block z hz3 (fun e=>by have:=hft _ e;omega)).trans HZB.out
   have hf4:W4.heap[w.heap.size+1]?=some (.cells #[.pointer none,.pointer none] 62):=(h4.chg.block _ (by omega) (fun e=>by have:=hft _ e;omega)).trans HC13.out
   have hq4:∀ o,W4.cell? ⟨w.heap.size,o,none⟩=W3.cell? ⟨w.heap.size,o,none⟩:=fun o=>World.cell?_of_block (a:=⟨w.heap.size,o,none⟩) (h4.chg.block _ (by show w.heap.size < W3.heap.size;omega) (fun e=>by have:=hft _ e;simp only at this;omega))
   have y0:=(hq4 0).trans q0
   have y1:=(hq4 1).trans q1
   have g0:W4.cell? ⟨z,0,none⟩=some (.pointer hh):=by simp only [World.cell?,hz4];rfl
   have g1:W4.cell? ⟨z,1,none⟩=some (.pointer mt):=by simp only [World.cell?,hz4];rfl
   have gf:∀ o,W4.frozen? ⟨z,o,none⟩=false:=fun o=>Cel.free ⟨_,_,hz4⟩ o
   have hl4:=h4.chg.size
   have H4:Hid (Step W3 W4 { m with looks:=m.looks+1 } K { m with looks:=m.looks+1 } K4∧K4.cb=K.cb∧K4.mid=K.mid∧K4.k.L=K.k.L∧K4.k.pm=K.k.pm):=⟨h4,ecb,emid,eL,epm⟩
   have HZ4:Hid (W4.heap[z]?=some (.cells #[.pointer hh,.pointer mt] 62)∧W4.heap[w.heap.size+1]?=some (.cells #[.pointer none,.pointer none] 62)):=⟨hz4,hf4⟩
   clear h4 hft hq4 hz4 hf4 q0 q1 f0 f1 ff z0 z1 zf hbt ecb emid eL epm
   go_wp2_with fail
   obtain ⟨W5,hW5⟩:∃ W5,W5=(W4.setCell ⟨z,0,none⟩ (.pointer va)).setCell ⟨z,1,none⟩ (.pointer vb):=⟨_,rfl⟩
   rw [← hW5]
   have hc5:Chg W4 W5 (fun k=>k=z):=by rw [hW5];exact ((Chg.refl _ (fun k=>k=z)).setCell _ _ (fun _=>rfl)).setCell _ _ (fun _=>rfl)
   have h5:=find_mid HH.out H1.out ⟨rfl,rfl⟩ HB3.out hz1 hz3 H4.out.1 hc5
   have hz5:W5.heap[z]?=some (.cells #[.pointer va,.pointer vb] 62):=by rw [hW5];exact set2 HZ4.out.1
   have hf5:W5.heap[w.heap.size+1]?=some (.cells #[.pointer none,.pointer none] 62):=(hc5.block _ (by omega) hnz4).trans HZ4.out.2
   have hq5:∀ o,W5.cell? ⟨w.heap.size,o,none⟩=W4.cell? ⟨w.heap.size,o,none⟩:=fun o=>World.cell?_of_block (a:=⟨w.heap.size,o,none⟩) (hc5.block _ (by show w.heap.size < W4.heap.size;omega) hnz2)
   have x0:=(hq5 0).trans y0
   have x1:=(hq5 1).trans y1
   have g0:W5.cell? ⟨z,0,none⟩=some (.pointer va):=by simp only [World.cell?,hz5];rfl
   have g1:W5.cell? ⟨z,1,none⟩=some (.pointer vb):=by simp only [World.cell?,hz5];rfl
   have hp4:(p,s)∈K4.k.L:=by rw [H4.out.2.2.2.1];exact hp
   have hpm4:K4.k.pm p=M:=by rw [H4.out.2.2.2.2];exact HMM.out.1
   have hat5:=h5.kim.cor.pls.at_ p s hp4
   have hok5:=h5.kim.cor.pls.ok p s hp4
   rw [hpm4] at hat5 hok5
   rw [HFL.out.2.2] at hat5
   have cp5:W5.cell? ⟨p,0,none⟩=some (.iface T P0):=by simp only [World.cell?,hat5];rfl
   have pf5:∀ o,W5.frozen? ⟨p,o,none⟩=false:=fun o=>Cel.free ⟨_,_,hat5⟩ o
   have hnp4:K4.k.np=K.np:=H4.out.1.np
   rw [hnp4] at hok5
   have c45:W5.cell? ⟨K.b,4,none⟩=some (.int .i64 (K.np:Nat)):=by have:=h5.kim.hd.c4;rw [h5.b,h5.np] at this;exact this
   have hlr:=learn_mm M ⟨some ⟨K.cb c,0,none⟩,s,va,vb⟩ K.np W5.drew (hok5.1.keep (fun _ _=>rfl)) hok5.2 hnp
   simp only [HFL.out.1,HFL.out.2.1,Rw4.val] at hlr
   have hl5:=hc5.size
   have hbl5:K.b < W5.heap.size:=by omega
   have hpl5:p < W5.heap.size:=by omega
   have hzl5:z < W5.heap.size:=by omega
   have hqa:∀ q,M.arr=some q→q≠w.heap.size∧q≠z∧q≠K.b∧q≠p∧q≠w.heap.size+1:=fun q e=>by
    have h1:=HOK.out.2.2 q e
    have hqF:CBlk K.k q:=.inr (.inr (.inl ⟨p,s,hp,.inr (by rw [HMM.out.1];exact e)⟩))
    have h2:=HH.out.cor.lt hqF
    refine ⟨by omega,by omega,fun e'=>HH.out.cor.bn (by rw [← e'];exact hqF),fun e'=>?_,by omega⟩
    have ha:=HH.out.cor.pls.at_ p s hp
    obtain ⟨cur,hcur⟩:=HH.out.cor.pls.arrCel hp (q:=q) (by rw [HMM.out.1];exact e)
    rw [e',ha] at hcur
    injection hcur with hcur
    injection hcur with _ hcur _
    revert hcur
    decide
   have HF5:Hid (W5.heap[w.heap.size+1]?=some (.cells #[.pointer none,.pointer none] 62)∧W5.heap[p]?=some (.cells #[(.iface T P0)] 198)∧W5.heap[z]?=some (.cells #[.pointer va,.pointer vb] 62)):=⟨hf5,hat5,hz5⟩
   have HC5:Hid _:=hc5
   clear hW5 h5 hz5 hf5 hq5 hat5 hok5 y0 y1 gf hc5
   refine wp_region_noPanic ?_
   refine wp_region_held_drew (S:=(fun w'=>w'.cell? ⟨w.heap.size,0,none⟩=some (.pointer (some ⟨K.cb c,0,none⟩))∧w'.cell? ⟨w.heap.size,1,none⟩=some (.string s)∧w'.cell? ⟨z,0,none⟩=some (.pointer va)∧w'.cell? ⟨z,1,none⟩=some (.pointer vb)∧w'.cell? ⟨K.b,4,none⟩=some (.int .i64 (K.np:Nat)))) (by kernel_rfl) (by go_keep) (fun hHeld=>?_)
   refine tkH 0 ?_
   refine tkH 1 ?_
   refine tkH 2 ?_
   refine tkH 3 ?_
   refine tkH 5 ?_
   refine tkH 6 ?_
   refine tkH 7 ?_
   refine tkH 8 ?_
   refine tkH 9 ?_
   refine tkH 10 ?_
   refine tkL 11 ?_
   refine rdH 4 fun Kmac hKmac=>?_
   go_simp
   refine hKmac.go fun hHeld=>?_
   clear hKmac Kmac
   try refine lyH ?_
   refine tkH 12 ?_
   refine tkL 13 ?_
   refine rdH 14 fun Kmac hKmac=>?_
   go_simp
   refine hlr.mono ?_;rintro e W6 ⟨mm',rfl,hok6,hlrn,harr6,hch6⟩;have x06:W6.cell? ⟨w.heap.size,0,none⟩=some (.pointer (some ⟨K.cb c,0,none⟩)):=(World.cell?_of_block (a:=⟨w.heap.size,0,none⟩) (hch6.block _ (by show w.heap.size < W5.heap.size;omega) (fun e=>(hqa _ e).1 rfl))).trans x0;have x16:W6.cell? ⟨w.heap.size,1,none⟩=some (.string s):=(World.cell?_of_block (a:=⟨w.heap.size,1,none⟩) (hch6.block _ (by show w.heap.size < W5.heap.size;omega) (fun e=>(hqa _ e).1 rfl))).trans x1;have g06:W6.cell? ⟨z,0,none⟩=some (.pointer va):=(World.cell?_of_block (a:=⟨z,0,none⟩) (hch6.block _ hzl5 (fun e=>(hqa _ e).2.1 rfl))).trans g0;have g16:W6.cell? ⟨z,1,none⟩=some (.pointer vb):=(World.cell?_of_block (a:=⟨z,1,none⟩) (hch6.block _ hzl5 (fun e=>(hqa _ e).2.1 rfl))).trans g1;have c46:W6.cell? ⟨K.b,4,none⟩=some (.int .i64 (K.np:Nat)):=(World.cell?_of_block (a:=⟨K.b,4,none⟩) (hch6.block _ hbl5 (fun e=>(hqa _ e).2.2.1 rfl))).trans c45
   try go_wp2_with fail
   refine hKmac.go fun hHeld=>?_
   clear hKmac Kmac
   try refine lyH ?_
   have hp6:W6.heap[p]?=some (.cells #[(.iface T P0)] 198):=(hch6.block p hpl5 (fun e=>(hqa _ e).2.2.2.1 rfl)).trans HF5.out.2.1
   have hf6:W6.heap[w.heap.size+1]?=some (.cells #[.pointer none,.pointer none] 62):=(hch6.block _ (by show w.heap.size+1 < W5.heap.size;omega) (fun e=>(hqa _ e).2.2.2.2 rfl)).trans HF5.out.1
   have cp6:W6.cell? ⟨p,0,none⟩=some (.iface T P0):=by simp only [World.cell?,hp6];rfl
   have pf6:∀ o,W6.frozen? ⟨p,o,none⟩=false:=fun o=>Cel.free ⟨_,_,hp6⟩ o
   have f0:W6.cell? ⟨w.heap.size+1,0,none⟩=some (.pointer none):=by simp only [World.cell?,hf6];rfl
   have f1:W6.cell? ⟨w.heap.size+1,1,none⟩=some (.pointer none):=by simp only [World.cell?,hf6];rfl
   have ff:∀ o,W6.frozen? ⟨w.heap.size+1,o,none⟩=false:=fun o=>Cel.free ⟨_,_,hf6⟩ o
   have hl6:=hch6.size
   have hpl6:p < W6.heap.size:=Nat.lt_of_lt_of_le hpl5 hl6
   have HL6:Hid (mm'.Ok W6∧Lrn K.np M ⟨some ⟨K.cb c,0,none⟩,s,va,vb⟩ mm'∧(∀ q,mm'.arr=some q→M.arr=some q∨W5.heap.size≤q)∧Chg W5 W6 (fun k=>M.arr=some k)):=⟨hok6,hlrn,harr6,(Chg.refl W5 _).drew.then hch6 (fun k _ e=>e)⟩
   clear hok6 hlrn harr6 hch6 hlr hp6 hf6 cp5 pf5 x0 x1 g0 g1 c45 hqa
   obtain ⟨tt,vv,hvv⟩:∃ t v,mm'.val=.iface t v:=by cases mm' <;> exact ⟨_,_,rfl⟩
   rw [hvv]
   have HVV:Hid _:=hvv
   clear hvv
   refine tkH 15 ?_
   refine tkL 16 ?_
   refine rdH 17 fun Kmac hKmac=>?_
   go_simp
   refine hKmac.go fun hHeld=>?_
   clear hKmac Kmac
   try refine lyH ?_
   refine wpAnyH_done (by kernel_rfl) ?_ _
   refine NoPanic.normal ?_
   go_wp2
   obtain ⟨hok6,hlrn,harr6,hch6⟩:=HL6.out
   have hput:=find_put (s:=s) (p:=p) (r:=⟨some ⟨K.cb c,0,none⟩,s,va,vb⟩) (mm:=mm') HH.out H1.out (by omega) ⟨rfl,rfl⟩ HB3.out hz1 hz3 H4.out.1 H4.out.2.2.2.1 H4.out.2.2.2.2 HC5.out hp (by rw [H4.out.1.np,HMM.out.1];exact hlrn) ⟨rfl,c,hc,by rw [H4.out.2.1],by rw [HVA.out.1,H4.out.2.1,H4.out.2.2.1];rfl,by rw [HVA.out.2,H4.out.2.2.1];rfl⟩ hok6 (by rw [HMM.out.1];exact harr6) (by rw [HMM.out.1];exact hch6) (.pointer va) (.pointer vb)
   rw [HVV.out] at hput
   refine bodyPost_ret (results_fnd (z:=w.heap.size+1) Tryz.results136 (.pointer va) (.pointer vb) rfl ?_ ?_) rfl ⟨?_,hput⟩
   · exact (cs_other (by intro e;injection e with e1 e2;omega)).trans (cs_same ((cs_other (by intro e;injection e with e1 e2;omega)).trans f0))
   · exact cs_same ((cs_other (by intro e;injection e with e1 e2;omega)).trans ((cs_other (by intro e;injection e with e1 e2;omega)).trans f1))
   · rw [HVA.out.1,HVA.out.2];rfl
theorem find_any (h:KIm w m K) {p:Nat}{s:ByteArray} (hp:(p,s)∈K.k.L) (c:Option Nat) (hc:∀ x,c=some x→x < m.kl.length) (hs:s.size≤1000) :
 Calls Tryz.prog 136 #[.pointer (some ⟨K.b,0,none⟩),.pointer (some ⟨p,0,none⟩),.agg #[.pointer (cptr (c.map K.cb)),.string s]] w fun e w'=>e=.returned (fval K (K.says m s c))∧∃ K',Step w w' m K { m with looks:=m.looks+1 } K':=by
 cases c with
 | none =>
  have:=find_none h p s
  rw [show K.says m s none=none from climb_none _ _ _]
  exact this
 | some c =>
  have hc:=hc c rfl
  cases hmm:K.k.pm p with
  | no=>exact find_mm Mm.no 194 184 183 (.agg #[]) rfl rfl rfl rfl (fun W=>by kernel_rfl) (fun W=>by kernel_rfl) (fun a W=>by simp [go_sem]) (fun a W=>by simp [go_sem]) h hp hc hs hmm
  | only=>exact find_mm Mm.only 206 187 186 (.agg #[]) rfl rfl rfl rfl (fun W=>by kernel_rfl) (fun W=>by kernel_rfl) (fun a W=>by simp [go_sem]) (fun a W=>by simp [go_sem]) h hp hc hs hmm
  | one o=>exact find_mm (Mm.one o) 259 191 190 (o.val) rfl rfl rfl rfl (fun W=>by kernel_rfl) (fun W=>by kernel_rfl) (fun a W=>by simp [go_sem]) (fun a W=>by simp [go_sem]) h hp hc hs hmm
  | many q cap rs=>exact find_mm (Mm.many q cap rs) 262 194 193 (.agg #[.slice (some ⟨q,0,none⟩) rs.length cap]) rfl rfl rfl rfl (fun W=>by kernel_rfl) (fun W=>by kernel_rfl) (fun a W=>by simp [go_sem]) (fun a W=>by simp [go_sem]) h hp hc hs hmm
end Go.Proofs.YtkghmgoefiepeaaGreatDoor.reads
