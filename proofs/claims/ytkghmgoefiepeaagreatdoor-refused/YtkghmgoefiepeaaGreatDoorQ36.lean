import Derived.Deep.AppendLies
import Derived.Test.YtkghmgoefiepeaaGreatDoorQ0
import Derived.Test.YtkghmgoefiepeaaGreatDoorQ35
set_option linter.unusedSimpArgs false
set_option linter.unusedVariables false
set_option maxHeartbeats 4000000
set_option maxRecDepth 100000
namespace Go.Proofs.YtkghmgoefiepeaaGreatDoor.reads
open Go.ChangeShapes Go.WideShapes Go.ChangeAt Go.RowKit Kn Go.Proofs.YtkghmgoefiepeaaGreatDoor.img
theorem find_looks (m:Im) (n:Nat) (s:ByteArray) (c:Option Nat):Im.find { m with looks:=n } s c=m.find s c:=by rw [find_climb,find_climb];rfl
variable {w w0 : World}
variable {m m0 : Im}
variable {K K0 : Kd}
variable {Dd : Nat → Prop}
variable {bs : List (Nat × Nat)}
variable {fs : List Fr}
theorem send_none {rb:Nat}{fuel:Nat} (h:Sg Dd w0 m0 K0 rb w m K fuel bs fs) (h0:Glo w0) {p:Nat}{s:ByteArray} (hp:(p,s)∈K.k.L) (frm:Option Nat) (hfrm:∀ x,frm=some x→x < m.kl.length) (hs:s.size≤1000)
 (to:Vl) {av:Value}{args:List Vl}{ab:Nat} (hav:ArgsAt w av args ab) (hab:args≠[]→ab < w.heap.size∧ab≠rb∧¬ Foot m K ab) (h3:args.length≤3) (h32:fs.length≤32) (hsay:K.says m s frm=none) :
 Calls Tryz.prog 89 #[.pointer (some ⟨rb,0,none⟩),.pointer (some ⟨p,0,none⟩),.agg #[.pointer (cptr (frm.map K.cb)),.string s],to.val,av] w (SPost Dd w0 m0 K0 rb (m.send fuel frm to s args fs) w m K):=by
 obtain ⟨W1,hW1⟩:∃ W1,W1=(w.alloc (.cells #[.pointer (cptr (frm.map K.cb)),.string s] 59)).alloc (.cells #[.bool to.obj,.int .i64 to.n] 33):=⟨_,rfl⟩
 have hB1:Below w.heap.size w W1:=by rw [hW1];exact below2 _ _ _
 have hl1:w.heap.size+2≤W1.heap.size:=by rw [hW1];simp
 have b0:W1.heap[w.heap.size]?=some (.cells #[.pointer (cptr (frm.map K.cb)),.string s] 59):=by
  rw [hW1,Below.heap_alloc _ _ _ (by simp)]
  exact (MapKept.heap_alloc w _).1
 have b1:W1.heap[w.heap.size+1]?=some (.cells #[.bool to.obj,.int .i64 to.n] 33):=by
  rw [hW1]
  have:=(MapKept.heap_alloc (w.alloc (.cells #[.pointer (cptr (frm.map K.cb)),.string s] 59)) (.cells #[.bool to.obj,.int .i64 to.n] 33)).1
  rw [World.size_alloc] at this
  exact this
 have q0:W1.cell? ⟨w.heap.size,0,none⟩=some (.pointer (cptr (frm.map K.cb))):=by simp only [World.cell?,b0];rfl
 have q1:W1.cell? ⟨w.heap.size,1,none⟩=some (.string s):=by simp only [World.cell?,b0];rfl
 have h1:=h.below hB1
 have r01:=h1.run.c0
 have hrw:=(h.lo rb (by simp)).2.1
 have hKf:∀ W,Below W1.heap.size W1 W→Calls Tryz.prog 136 #[.pointer (some ⟨K.b,0,none⟩),.pointer (some ⟨p,0,none⟩),.agg #[.pointer (cptr (frm.map K.cb)),.string s]] W fun e w'=>e=.returned (.agg #[.pointer none,.pointer none])∧∃ K',Step W w' m K { m with looks:=m.looks+1 } K':=fun W hW=>by
  have:=find_any (h1.below hW).stp.kim hp frm hfrm hs
  rw [hsay] at this
  exact this
 have hBa:Below W1.heap.size W1 W1.drew:=(Below.refl _ _).drew
 have hBb:Below W1.heap.size W1 (W1.alloc (.cells #[.pointer none,.pointer none] 62)).drew:=((Below.refl _ _).alloc (Nat.le_refl _) _).drew
 have HH:Hid _:=h
 have H1:Hid _:=h1
 have HAV:Hid (ArgsAt w av args ab∧(args≠[]→ab < w.heap.size∧ab≠rb∧¬ Foot m K ab)):=⟨hav,hab⟩
 obtain ⟨ap,acap,hav1,_⟩:=hav
 subst hav1
 have HB1:Hid _:=hB1
 have HBK:Hid (W1.heap[w.heap.size]?=some (.cells #[.pointer (cptr (frm.map K.cb)),.string s] 59)∧W1.heap[w.heap.size+1]?=some (.cells #[.bool to.obj,.int .i64 to.n] 33)):=⟨b0,b1⟩
 clear h h1 hB1 b0 b1
 unfold Vl.val
 go_enter Tryz.func89,Tryz.ntmps89
 go_wp2_with fail
 rw [← hW1]
 clear hW1
 refine wp_region_noPanic ?_
 refine wp_region_held_drew (S:=(fun w'=>w'.cell? ⟨w.heap.size,0,none⟩=some (.pointer (cptr (frm.map K.cb)))∧w'.cell? ⟨w.heap.size,1,none⟩=some (.string s)∧w'.cell? ⟨rb,0,none⟩=some (.pointer (some ⟨K.b,0,none⟩)))) (by kernel_rfl) (by go_keep) (fun hHeld=>?_)
 refine tkH 0 ?_
 refine tkH 1 ?_
 refine tkH 2 ?_
 refine tkH 3 ?_
 refine tkH 4 ?_
 refine tkL 5 ?_
 refine wpAnyH_ready (rs:=[6,7]) (by kernel_rfl) (by simp) ?_
 refine (AllReadyH.cons (o:=_) rfl (fun Kmac hKmac=>?_) (AllReadyH.cons (o:=_) rfl (fun Kmac hKmac=>?_) AllReadyH.nil))
 case' refine_2 =>
  go_simp
  refine hKmac.go fun hHeld=>?_
  clear hKmac Kmac
  try refine lyH ?_
  refine rdH 6 fun Kmac hKmac=>?_
  go_simp
  refine (hKf _ hBb).mono ?_;rintro e w2 ⟨rfl,K1,hst⟩;have h2:=(H1.out.below hBb).img hst;have hfw:∀ k,Foot m K k→k < w.heap.size:=fun k e=>HH.out.stp.kim.lt e;have hbk:∀ k,w.heap.size≤k→k < W1.heap.size→w2.heap[k]?=W1.heap[k]?:=fun k e1 e2=>(hst.chg.block k (by simp;omega) (fun e=>by have:=hfw k e;omega)).trans (hBb.block k e2);have q02:w2.cell? ⟨w.heap.size,0,none⟩=some (.pointer (cptr (frm.map K.cb))):=(World.cell?_of_block (a:=⟨w.heap.size,0,none⟩) (hbk _ (Nat.le_refl _) (by show w.heap.size < W1.heap.size;omega))).trans q0;have q12:w2.cell? ⟨w.heap.size,1,none⟩=some (.string s):=(World.cell?_of_block (a:=⟨w.heap.size,1,none⟩) (hbk _ (Nat.le_refl _) (by show w.heap.size < W1.heap.size;omega))).trans q1;have r02:w2.cell? ⟨rb,0,none⟩=some (.pointer (some ⟨K.b,0,none⟩)):=by { have:=h2.run.c0;rw [hst.b] at this;exact this }
  try go_wp2_with fail
  refine hKmac.go fun hHeld=>?_
  clear hKmac Kmac
  try refine lyH ?_
  have hzw:w2.heap[W1.heap.size]?=some (.cells #[.pointer none,.pointer none] 62):=(hst.chg.block _ (by simp) (fun e=>by have:=hfw _ e;omega)).trans (MapKept.heap_alloc _ _).1
  have u0:w2.cell? ⟨W1.heap.size,0,none⟩=some (.pointer none):=by simp only [World.cell?,hzw];rfl
  have u1:w2.cell? ⟨W1.heap.size,1,none⟩=some (.pointer none):=by simp only [World.cell?,hzw];rfl
  have uf:∀ o,w2.frozen? ⟨W1.heap.size,o,none⟩=false:=fun o=>Cel.free ⟨_,_,hzw⟩ o
  have hn1:¬ W1.heap.size=w.heap.size:=by omega
  have hn2:¬ w.heap.size=W1.heap.size:=by omega
  have hn3:¬ W1.heap.size=rb:=by omega
  have hn4:¬ rb=W1.heap.size:=by omega
  refine rdH 8 fun Kmac hKmac=>?_
  go_simp
  refine hKmac.go fun hHeld=>?_
  clear hKmac Kmac
  try refine lyH ?_
  refine wpAnyH_done (by kernel_rfl) ?_ _
  refine NoPanic.normal ?_
  obtain ⟨W3,hW3⟩:∃ W3,W3=(w2.setCell ⟨W1.heap.size,0,none⟩ (.pointer none)).setCell ⟨W1.heap.size,1,none⟩ (.pointer none):=⟨_,rfl⟩
  obtain ⟨z,hzz⟩:∃ z,z=W1.heap.size:=⟨_,rfl⟩
  rw [← hW3,← hzz]
  have hzb:W3.heap[z]?=some (.cells #[.pointer none,.pointer none] 62):=by rw [hW3,hzz];exact set2 hzw
  have hz1:W1.heap.size≤z:=by omega
  have hc3:Chg w2 W3 (fun k=>k=z):=by rw [hW3,hzz];exact ((Chg.refl _ (fun k=>k=W1.heap.size)).setCell _ _ (fun _=>rfl)).setCell _ _ (fun _=>rfl)
  have hz2:z < w2.heap.size:=by rw [hzz];exact (Array.getElem?_eq_some_iff.1 hzw).1
  have hzf:¬ Foot { m with looks:=m.looks+1 } K1 z:=fun e=>by
   rcases hst.foot z e with e | e
   · have:=hfw z e;omega
   · simp at e;omega
  have H3:Hid (Sg Dd w0 m0 K0 rb W3 { m with looks:=m.looks+1 } K1 fuel bs fs):=by
   have hx:=h2.aside h0 hc3 (fun k e=>by rw [e];exact ⟨by have:=HH.out.stp.chg.size;omega,hzf,fun e'=>by have:=(HH.out.lo z e').2.1;omega,fun e'=>by have:=(HH.out.dead z e').2.1;omega⟩)
   exact hx
  have HKP:Hid (∀ k,k < W1.heap.size→¬ Foot m K k→W3.heap[k]?=W1.heap[k]?):=by
   have hx:∀ k,k < W1.heap.size→¬ Foot m K k→W3.heap[k]?=W1.heap[k]?:=fun k e1 e2=>(hc3.block k (by omega) (by omega)).trans ((hst.chg.block k (by simp;omega) e2).trans (hBb.block k e1))
   exact hx
  have HK1:Hid (K1.b=K.b∧(∀ c,c < m.kl.length→K1.cb c=K.cb c)∧∀ k,K.k.Mk k→K1.k.Mk k∧K1.k.md k=K.k.md k):=⟨hst.b,hst.cb,hst.md⟩
  have HFT:Hid (∀ k,Foot { m with looks:=m.looks+1 } K1 k→Foot m K k∨(W1.heap.size≤k∧k≠z)):=by
   have hx:∀ k,Foot { m with looks:=m.looks+1 } K1 k→Foot m K k∨(W1.heap.size≤k∧k≠z):=fun k e=>by
    rcases hst.foot k e with e1 | e1
    · exact .inl e1
    · simp at e1;exact .inr ⟨by omega,by omega⟩
   exact hx
  clear hzz hW3 hzw u0 u1 uf hn1 hn2 hn3 hn4 q02 q12 r02 hst h2 hfw hbk hc3 hz2 hzf
 case' refine_1 =>
  go_simp
  refine (hKf _ hBa).mono ?_;rintro e w2 ⟨rfl,K1,hst⟩;have h2:=(H1.out.below hBa).img hst;have hfw:∀ k,Foot m K k→k < w.heap.size:=fun k e=>HH.out.stp.kim.lt e;have hbk:∀ k,w.heap.size≤k→k < W1.heap.size→w2.heap[k]?=W1.heap[k]?:=fun k e1 e2=>hst.chg.block k e2 (fun e=>by have:=hfw k e;omega);have q02:w2.cell? ⟨w.heap.size,0,none⟩=some (.pointer (cptr (frm.map K.cb))):=(World.cell?_of_block (a:=⟨w.heap.size,0,none⟩) (hbk _ (Nat.le_refl _) (by show w.heap.size < W1.heap.size;omega))).trans q0;have q12:w2.cell? ⟨w.heap.size,1,none⟩=some (.string s):=(World.cell?_of_block (a:=⟨w.heap.size,1,none⟩) (hbk _ (Nat.le_refl _) (by show w.heap.size < W1.heap.size;omega))).trans q1;have r02:w2.cell? ⟨rb,0,none⟩=some (.pointer (some ⟨K.b,0,none⟩)):=by { have:=h2.run.c0;rw [hst.b] at this;exact this }
  try go_wp2_with fail
  refine hKmac.go fun hHeld=>?_
  clear hKmac Kmac
  try refine lyH ?_
  have hs2:W1.heap.size≤w2.heap.size:=hst.chg.size
  refine rdH 7 fun Kmac hKmac=>?_
  go_simp
  refine hKmac.go fun hHeld=>?_
  clear hKmac Kmac
  try refine lyH ?_
  refine rdH 8 fun Kmac hKmac=>?_
  go_simp
  refine hKmac.go fun hHeld=>?_
  clear hKmac Kmac
  try refine lyH ?_
  refine wpAnyH_done (by kernel_rfl) ?_ _
  refine NoPanic.normal ?_
  obtain ⟨W3,hW3⟩:∃ W3,W3=w2.alloc (.cells #[.pointer none,.pointer none] 62):=⟨_,rfl⟩
  obtain ⟨z,hzz⟩:∃ z,z=w2.heap.size:=⟨_,rfl⟩
  rw [← hW3,← hzz]
  have hzb:W3.heap[z]?=some (.cells #[.pointer none,.pointer none] 62):=by rw [hW3,hzz];exact (MapKept.heap_alloc _ _).1
  have hz1:W1.heap.size≤z:=by omega
  have hb3:Below w2.heap.size w2 W3:=by rw [hW3];exact (Below.refl _ _).alloc (Nat.le_refl _) _
  have H3:Hid (Sg Dd w0 m0 K0 rb W3 { m with looks:=m.looks+1 } K1 fuel bs fs):=by
   have hx:=h2.below hb3
   exact hx
  have HKP:Hid (∀ k,k < W1.heap.size→¬ Foot m K k→W3.heap[k]?=W1.heap[k]?):=by
   have hx:∀ k,k < W1.heap.size→¬ Foot m K k→W3.heap[k]?=W1.heap[k]?:=fun k e1 e2=>(hb3.block k (by omega)).trans (hst.chg.block k e1 e2)
   exact hx
  have HK1:Hid (K1.b=K.b∧(∀ c,c < m.kl.length→K1.cb c=K.cb c)∧∀ k,K.k.Mk k→K1.k.Mk k∧K1.k.md k=K.k.md k):=⟨hst.b,hst.cb,hst.md⟩
  have HFT:Hid (∀ k,Foot { m with looks:=m.looks+1 } K1 k→Foot m K k∨(W1.heap.size≤k∧k≠z)):=by
   have hx:∀ k,Foot { m with looks:=m.looks+1 } K1 k→Foot m K k∨(W1.heap.size≤k∧k≠z):=fun k e=>by
    have h4:=h2.stp.kim.lt e
    rcases hst.foot k e with e1 | e1
    · exact .inl e1
    · have e1:W1.heap.size≤k:=e1
      exact .inr ⟨e1,by omega⟩
   exact hx
  clear hzz hW3 q02 q12 r02 hst h2 hfw hbk hb3 hs2
 all_goals
  have hfw:∀ k,Foot m K k→k < w.heap.size:=fun k e=>HH.out.stp.kim.lt e
  have hqb:W3.heap[w.heap.size]?=some (.cells #[.pointer (cptr (frm.map K.cb)),.string s] 59):=(HKP.out _ (by omega) (fun e=>by have:=hfw _ e;omega)).trans HBK.out.1
  have hto:W3.heap[w.heap.size+1]?=some (.cells #[.bool to.obj,.int .i64 to.n] 33):=(HKP.out _ (by omega) (fun e=>by have:=hfw _ e;omega)).trans HBK.out.2
  have q03:W3.cell? ⟨w.heap.size,0,none⟩=some (.pointer (cptr (frm.map K.cb))):=by simp only [World.cell?,hqb];rfl
  have z0:W3.cell? ⟨z,0,none⟩=some (.pointer none):=by simp only [World.cell?,hzb];rfl
  have z1:W3.cell? ⟨z,1,none⟩=some (.pointer none):=by simp only [World.cell?,hzb];rfl
  have r03:W3.cell? ⟨rb,0,none⟩=some (.pointer (some ⟨K.b,0,none⟩)):=by
   have:=H3.out.run.c0
   rw [HK1.out.1] at this
   exact this
  have hrl3:=H3.out.run.cel.lt
  have hzl3:z < W3.heap.size:=(Array.getElem?_eq_some_iff.1 hzb).1
  have hql3:w.heap.size < W3.heap.size:=(Array.getElem?_eq_some_iff.1 hqb).1
  have htl3:w.heap.size+1 < W3.heap.size:=(Array.getElem?_eq_some_iff.1 hto).1
  have e1:¬ z=rb:=by omega
  have e2:¬ rb=z:=by omega
  have e3:¬ w.heap.size+1=rb:=by omega
  have e4:¬ rb=w.heap.size+1:=by omega
  have e5:¬ w.heap.size=z:=by omega
  have e6:¬ z=w.heap.size:=by omega
  obtain ⟨WN,hWN⟩:∃ WN,WN=(W3.alloc (.cells #[Mm.only.val] 198)).drew:=⟨_,rfl⟩
  have hBN:Below W3.heap.size W3 WN:=by rw [hWN];exact ((Below.refl _ _).alloc (Nat.le_refl _) _).drew
  obtain ⟨KN,hSN,hKNb,hKNc,hKNL⟩:∃ KN,Step W3 WN { m with looks:=m.looks+1 } K1 { m with looks:=m.looks+1 } KN∧KN.b=K1.b∧KN.cb=K1.cb∧(W3.heap.size,nmDnu)∈KN.k.L:=by
   refine ⟨K1.nowhere W3.heap.size nmDnu,?_,rfl,rfl,List.mem_cons_self ..⟩
   rw [hWN]
   exact (H3.out.stp.kim.nowhere nmDnu).trans (Step.below (H3.out.stp.kim.nowhere nmDnu).kim (Below.refl _ _).drew)
  have hcbe:frm.map KN.cb=frm.map K.cb:=by
   cases frm with
   | none=>rfl
   | some c=>rw [hKNc];exact congrArg some (HK1.out.2.1 c (hfrm c rfl))
  have hKf2:=find_any hSN.kim (p:=W3.heap.size) (s:=nmDnu) hKNL frm hfrm (by decide)
  rw [hcbe,hKNb.trans HK1.out.1] at hKf2
  obtain ⟨r2,hr2⟩:∃ r2,KN.says { m with looks:=m.looks+1 } nmDnu frm=r2:=⟨_,rfl⟩
  rw [hr2] at hKf2
  unfold fval at hKf2
  obtain ⟨fh,hfh⟩:∃ fh,fh=cptr (r2.map (fun x=>KN.cb x.1)):=⟨_,rfl⟩
  obtain ⟨fm,hfm⟩:∃ fm,fm=cptr (r2.map (·.2)):=⟨_,rfl⟩
  rw [← hfh,← hfm] at hKf2
  rw [show nmDnu=(⟨#[100,110,117,47,49]⟩:ByteArray) from rfl] at hKf2
  have HR2:Hid (KN.says { m with looks:=m.looks+1 } nmDnu frm=r2∧fh=cptr (r2.map (fun x=>KN.cb x.1))∧fm=cptr (r2.map (·.2))):=⟨hr2,hfh,hfm⟩
  have HSN:Hid _:=hSN
  have HZB:Hid (W3.heap[z]?=some (.cells #[.pointer none,.pointer none] 62)∧W3.heap[w.heap.size+1]?=some (.cells #[.bool to.obj,.int .i64 to.n] 33)):=⟨hzb,hto⟩
  have hNF:∀ k,k < W3.heap.size→(k=w.heap.size∨k=w.heap.size+1∨k=z)→¬ Foot { m with looks:=m.looks+1 } KN k:=fun k hk e e'=>by
   rcases hSN.foot k e' with e7 | e7
   · rcases HFT.out k e7 with e8 | e8
     · have:=HH.out.stp.kim.lt e8;omega
     · omega
   · omega
  have HNF:Hid _:=hNF
  have HKNb:Hid _:=hKNb
  clear hqb hto hzb hKf hBa hBb hcbe hr2 hfh hfm hSN hNF hfw hKNb hKNc hKNL
  go_wp2_with fail
  refine wp_region_noPanic ?_
  refine wp_region_held_drew (S:=(fun w'=>w'.cell? ⟨w.heap.size,0,none⟩=some (.pointer (cptr (frm.map K.cb)))∧w'.cell? ⟨rb,0,none⟩=some (.pointer (some ⟨K.b,0,none⟩)))) (by kernel_rfl) (by go_keep) (fun hHeld=>?_)
  refine tkH 0 ?_
  refine tkH 1 ?_
  refine tkH 2 ?_
  refine tkH 3 ?_
  refine tkH 5 ?_
  refine tkH 6 ?_
  refine tkL 7 ?_
  refine rdH 4 fun Kmac hKmac=>?_
  go_simp
  refine (nowhere_any _).mono ?_;rintro e wN ⟨rfl,rfl⟩
  try go_wp2_with fail
  refine hKmac.go fun hHeld=>?_
  clear hKmac Kmac
  try refine lyH ?_
  rw [← hWN]
  clear hWN
  have hql:w.heap.size < WN.heap.size:=Nat.lt_of_lt_of_le hql3 hBN.size
  have hzl:z < WN.heap.size:=Nat.lt_of_lt_of_le hzl3 hBN.size
  refine rdH 8 fun Kmac hKmac=>?_
  go_simp
  refine hKf2.mono ?_;rintro e w4 ⟨rfl,K2,hst2⟩;have hkp:∀ k,k < W3.heap.size→(k=w.heap.size∨k=w.heap.size+1∨k=z)→w4.heap[k]?=W3.heap[k]?:=fun k hk e=>(hst2.chg.block k (Nat.lt_of_lt_of_le hk hBN.size) (HNF.out k hk e)).trans (hBN.block k hk);have q04:w4.cell? ⟨w.heap.size,0,none⟩=some (.pointer (cptr (frm.map K.cb))):=(World.cell?_of_block (a:=⟨w.heap.size,0,none⟩) (hkp _ hql3 (.inl rfl))).trans q03;have h4:=(H3.out.img HSN.out).img hst2;have r04:w4.cell? ⟨rb,0,none⟩=some (.pointer (some ⟨K.b,0,none⟩)):=by { have:=h4.run.c0;rw [hst2.b,HKNb.out,HK1.out.1] at this;exact this }
  try go_wp2_with fail
  refine hKmac.go fun hHeld=>?_
  clear hKmac Kmac
  try refine lyH ?_
  have hz4:w4.heap[z]?=some (.cells #[.pointer none,.pointer none] 62):=(hkp z hzl3 (.inr (.inr rfl))).trans HZB.out.1
  have ht4:w4.heap[w.heap.size+1]?=some (.cells #[.bool to.obj,.int .i64 to.n] 33):=(hkp _ htl3 (.inr (.inl rfl))).trans HZB.out.2
  have u0:w4.cell? ⟨z,0,none⟩=some (.pointer none):=by simp only [World.cell?,hz4];rfl
  have u1:w4.cell? ⟨z,1,none⟩=some (.pointer none):=by simp only [World.cell?,hz4];rfl
  have uf:∀ o,w4.frozen? ⟨z,o,none⟩=false:=fun o=>Cel.free ⟨_,_,hz4⟩ o
  have hsz4:=hst2.chg.size
  have HKW:Hid (∀ k,k < w.heap.size→¬ Foot m K k→w4.heap[k]?=w.heap[k]?):=by
   have hx:∀ k,k < w.heap.size→¬ Foot m K k→w4.heap[k]?=w.heap[k]?:=fun k hk hf=>(hst2.chg.block k (by omega) (fun e=>by
    rcases HSN.out.foot k e with e7 | e7
    · rcases HFT.out k e7 with e8 | e8
      · exact hf e8
      · omega
    · omega)).trans ((hBN.block k (by omega)).trans ((HKP.out k (by omega) hf).trans (HB1.out.block k hk)))
   exact hx
  have hzf:¬ Foot { m with looks:=m.looks+1+1 } K2 z:=fun e=>by
   rcases hst2.foot z e with e7 | e7
   · exact HNF.out z hzl3 (.inr (.inr rfl)) e7
   · omega
  have H4:Hid (Sg Dd w0 m0 K0 rb w4 { m with looks:=m.looks+1+1 } K2 fuel bs fs∧w4.heap[z]?=some (.cells #[.pointer none,.pointer none] 62)∧w4.heap[w.heap.size+1]?=some (.cells #[.bool to.obj,.int .i64 to.n] 33)∧¬ Foot { m with looks:=m.looks+1+1 } K2 z):=⟨h4,hz4,ht4,hzf⟩
  have HK2:Hid ((∀ c,c < m.kl.length→K2.cb c=KN.cb c)∧∀ k,KN.k.Mk k→K2.k.Mk k∧K2.k.md k=KN.k.md k):=⟨hst2.cb,hst2.md⟩
  have hrl4:=h4.run.cel.lt
  have hzl4:z < w4.heap.size:=(Array.getElem?_eq_some_iff.1 hz4).1
  clear hz4 ht4 hkp h4 hst2 hzf hKf2
  refine rdH 9 fun Kmac hKmac=>?_
  go_simp
  refine hKmac.go fun hHeld=>?_
  clear hKmac Kmac
  try refine lyH ?_
  refine wpAnyH_done (by kernel_rfl) ?_ _
  refine NoPanic.normal ?_
  obtain ⟨W5,hW5⟩:∃ W5,W5=(w4.setCell ⟨z,0,none⟩ (.pointer fh)).setCell ⟨z,1,none⟩ (.pointer fm):=⟨_,rfl⟩
  rw [← hW5]
  have hc5:Chg w4 W5 (fun k=>k=z):=by rw [hW5];exact ((Chg.refl _ (fun k=>k=z)).setCell _ _ (fun _=>rfl)).setCell _ _ (fun _=>rfl)
  have HC5:Hid _:=hc5
  have H5:Hid (Sg Dd w0 m0 K0 rb W5 { m with looks:=m.looks+1+1 } K2 fuel bs fs):=by
   have hx:=H4.out.1.aside h0 hc5 (fun k e=>by rw [e];exact ⟨by have:=HH.out.stp.chg.size;omega,H4.out.2.2.2,fun e'=>by have:=(HH.out.lo z e').2.1;omega,fun e'=>by have:=(HH.out.dead z e').2.1;omega⟩)
   exact hx
  have hzb:W5.heap[z]?=some (.cells #[.pointer fh,.pointer fm] 62):=by rw [hW5];exact set2 H4.out.2.1
  have htl4:w.heap.size+1 < w4.heap.size:=(Array.getElem?_eq_some_iff.1 H4.out.2.2.1).1
  have hto:W5.heap[w.heap.size+1]?=some (.cells #[.bool to.obj,.int .i64 to.n] 33):=(hc5.block _ htl4 (by omega)).trans H4.out.2.2.1
  have z0:W5.cell? ⟨z,0,none⟩=some (.pointer fh):=by simp only [World.cell?,hzb];rfl
  have z1:W5.cell? ⟨z,1,none⟩=some (.pointer fm):=by simp only [World.cell?,hzb];rfl
  have hzl5:z < W5.heap.size:=(Array.getElem?_eq_some_iff.1 hzb).1
  clear hW5 u0 u1 uf q03 r03 q04 r04
  cases r2 with
  | none =>
   obtain ⟨hr2,rfl,rfl⟩:=HR2.out
   have n1:cptr ((none:Option (Nat×Nat)).map (fun x=>KN.cb x.1))=none:=rfl
   have n2:cptr ((none:Option (Nat×Nat)).map (·.2))=none:=rfl
   rw [n1] at z0 ⊢
   rw [n2] at z1
   clear n1 n2
   go_wp2
   have hlost:m.send fuel frm to s args fs=.stop { m with looks:=m.looks+2 } 1:=by
    have e8:=HSN.out.kim.findEq nmDnu frm
    rw [hr2,find_looks] at e8
    unfold Im.send
    rw [HH.out.stp.kim.findEq,hsay,e8]
    rfl
   rw [hlost]
   exact ⟨rfl,⟨rfl,K2,(H5.out.below ((Below.refl _ _).alloc (Nat.le_refl _) _)).stp⟩,fun e=>(by cases e)⟩
  | some x =>
   obtain ⟨d,mk⟩:=x
   obtain ⟨hr2,rfl,rfl⟩:=HR2.out
   have n1:cptr ((some (d,mk):Option (Nat×Nat)).map (fun x=>KN.cb x.1))=some ⟨KN.cb d,0,none⟩:=rfl
   have n2:cptr ((some (d,mk):Option (Nat×Nat)).map (·.2))=some ⟨mk,0,none⟩:=rfl
   rw [n1] at z0 hzb ⊢
   rw [n2] at z1 hzb
   clear n1 n2
   obtain ⟨hdl,hmk⟩:=HSN.out.kim.saysM hfrm hr2
   have hcd:KN.cb d=K2.cb d:=(HK2.out.1 d hdl).symm
   rw [hcd] at z0 hzb ⊢
   have hfind:m.find nmDnu frm=some (d,(K2.k.md mk).ws):=by
    have e8:=HSN.out.kim.findEq nmDnu frm
    rw [hr2,find_looks] at e8
    rw [e8,(HK2.out.2 mk hmk).2]
    rfl
   have HFD:Hid _:=hfind
   have HMK:Hid (d < m.kl.length∧K2.k.Mk mk):=⟨hdl,(HK2.out.2 mk hmk).1⟩
   clear hfind hdl hmk hr2 hcd
   have t0:W5.cell? ⟨w.heap.size+1,0,none⟩=some (.bool to.obj):=by simp only [World.cell?,hto];rfl
   have t1:W5.cell? ⟨w.heap.size+1,1,none⟩=some (.int .i64 to.n):=by simp only [World.cell?,hto];rfl
   have cq:=H5.out.run.cq
   have ct:=H5.out.run.ct
   have fzr:∀ o,W5.frozen? ⟨rb,o,none⟩=false:=fun o=>H5.out.run.cel.free o
   have hrl5:=H5.out.run.cel.lt
   have htl5:w.heap.size+1 < W5.heap.size:=(Array.getElem?_eq_some_iff.1 hto).1
   clear hto hzb
   by_cases hd:fs.length=32
   · rw [hd] at cq
     go_wp2
     have hsend:m.send fuel frm to s args fs=.stop { m with looks:=m.looks+2 } 4:=by
      unfold Im.send
      rw [HH.out.stp.kim.findEq,hsay,HFD.out]
      simp [hd]
     rw [hsend]
     exact ⟨rfl,⟨rfl,K2,(H5.out.below ((Below.refl _ _).alloc (Nat.le_refl _) _)).stp⟩,fun e=>(by cases e)⟩
   · have hd':¬ ((fs.length:Int)=32):=by omega
     have hd2:(fs.length:Int)≤31:=by omega
     go_wp2_with fail
     obtain ⟨W4,hW4⟩:∃ W4,W4=(W5.setCell ⟨rb,25,none⟩ (.int .i64 ((fs.length:Int)+1))).alloc (.cells #[.bool false,.int .i64 (args.length:Nat)] 33):=⟨_,rfl⟩
     rw [← hW4]
     have hz4':W5.heap.size≤W4.heap.size:=by rw [hW4];simp [World.setCell]
     have hb4:∀ k,k < W5.heap.size→k≠rb→W4.heap[k]?=W5.heap[k]?:=fun k hk e=>by rw [hW4,Below.heap_alloc _ _ _ (by simpa [World.setCell] using hk)];exact Below.heap_setCell _ _ _ _ e
     have y0:W4.cell? ⟨z,0,none⟩=some (.pointer (some ⟨K2.cb d,0,none⟩)):=(World.cell?_of_block (a:=⟨z,0,none⟩) (hb4 z hzl5 e1)).trans z0
     have y1:W4.cell? ⟨z,1,none⟩=some (.pointer (some ⟨mk,0,none⟩)):=(World.cell?_of_block (a:=⟨z,1,none⟩) (hb4 z hzl5 e1)).trans z1
     have x0:W4.cell? ⟨w.heap.size+1,0,none⟩=some (.bool to.obj):=(World.cell?_of_block (a:=⟨w.heap.size+1,0,none⟩) (hb4 _ htl5 e3)).trans t0
     have x1:W4.cell? ⟨w.heap.size+1,1,none⟩=some (.int .i64 to.n):=(World.cell?_of_block (a:=⟨w.heap.size+1,1,none⟩) (hb4 _ htl5 e3)).trans t1
     have hr4:RunAt W4 K2.b rb (bs.head?.map (·.1)) (fs.length+1) fuel:=by
      have:=H5.out.run.setDepth (fs.length+1)
      rw [hW4]
      have h9:=this.same (w':=(W5.setCell ⟨rb,25,none⟩ (.int .i64 ((fs.length+1:Nat):Int))).alloc (.cells #[.bool false,.int .i64 (args.length:Nat)] 33)) (Below.heap_alloc _ _ _ (by simpa [World.setCell] using hrl5))
      simpa using h9
     have ct4:=hr4.ct
     have HR4:Hid _:=hr4
     have HC4:Hid (Chg W5 W4 (fun k=>k=rb)):=by
      have hx:Chg W5 W4 (fun k=>k=rb):=by rw [hW4];exact ((Chg.refl _ (fun k=>k=rb)).setCell _ _ (fun _=>rfl)).alloc _
      exact hx
     have hrl4:rb < W4.heap.size:=by omega
     have hzl4:z < W4.heap.size:=by omega
     have htl4:w.heap.size+1 < W4.heap.size:=by omega
     have hab4:W4.heap[W5.heap.size]?=some (.cells #[.bool false,.int .i64 (args.length:Nat)] 33):=by
      have:=(MapKept.heap_alloc (W5.setCell ⟨rb,25,none⟩ (.int .i64 ((fs.length:Int)+1))) (.cells #[.bool false,.int .i64 (args.length:Nat)] 33)).1
      rw [hW4]
      simpa [World.setCell] using this
     have HAB:Hid _:=hab4
     clear hab4 hr4 hW4 z0 z1 t0 t1 cq ct fzr hb4
     refine wp_region_noPanic ?_
     refine wp_region_held_drew (S:=(fun w'=>w'.cell? ⟨z,0,none⟩=some (.pointer (some ⟨K2.cb d,0,none⟩))∧w'.cell? ⟨z,1,none⟩=some (.pointer (some ⟨mk,0,none⟩))∧w'.cell? ⟨w.heap.size+1,0,none⟩=some (.bool to.obj)∧w'.cell? ⟨w.heap.size+1,1,none⟩=some (.int .i64 to.n)∧w'.cell? ⟨rb,24,none⟩=some (.pointer (cptr (bs.head?.map (·.1)))))) (by kernel_rfl) (by go_keep) (fun hHeld=>?_)
     refine tkH 0 ?_
     refine tkH 1 ?_
     refine tkH 2 ?_
     refine tkH 3 ?_
     refine tkH 4 ?_
     refine tkH 5 ?_
     refine tkH 6 ?_
     refine tkH 7 ?_
     refine tkH 8 ?_
     refine tkL 9 ?_
     refine rdH 10 fun Kmac hKmac=>?_
     go_simp
     refine hKmac.go fun hHeld=>?_
     clear hKmac Kmac
     try refine lyH ?_
     refine tkL 11 ?_
     refine wpAnyH_done (by kernel_rfl) ?_ _
     refine NoPanic.normal ?_
     obtain ⟨cur,hcur⟩:∃ cur:Array Value,cur=#[.pointer (some ⟨mk,0,none⟩),.pointer (some ⟨K2.cb d,0,none⟩),.bool to.obj,.int .i64 to.n,.bool false,.int .i64 0,.bool false,.int .i64 0,.bool false,.int .i64 0,.int .i64 0,.bool false,.int .i64 0,.bool false,.int .i64 0,.bool false,.int .i64 0,.bool false,.int .i64 0,.bool false,.int .i64 0,.bool false,.int .i64 0,.bool false,.int .i64 0,.bool false,.int .i64 0,.bool false,.int .i64 0,.bool false,.int .i64 0,.bool false,.int .i64 0,.bool false,.int .i64 0,.bool false,.int .i64 0,.bool false,.int .i64 0,.bool false,.int .i64 0,.bool false,.int .i64 0,.int .i64 0,.pointer (cptr (bs.head?.map (·.1)))]:=⟨_,rfl⟩
     obtain ⟨V5,hV5⟩:∃ V5,V5=(W4.alloc (.cells cur 212)).drew:=⟨_,rfl⟩
     obtain ⟨nb,hnb⟩:∃ nb,nb=W4.heap.size:=⟨_,rfl⟩
     rw [← hcur,← hV5,← hnb]
     have hB5:Below W4.heap.size W4 V5:=by rw [hV5];exact ((Below.refl _ _).alloc (Nat.le_refl _) _).drew
     have hg5:V5.heap[nb]?=some (.cells cur 212):=by rw [hV5,hnb];exact (MapKept.heap_alloc _ _).1
     have hav5:ArgsAt V5 (.slice (some ⟨W5.heap.size,0,none⟩) 1 1) [⟨false,(args.length:Nat)⟩] W5.heap.size:=by
      refine ⟨_,1,rfl,fun _=>⟨_,rfl,rfl,?_⟩⟩
      exact World.news_of_block (cs:=#[.bool false,.int .i64 (args.length:Nat)]) ((hB5.block _ ((Array.getElem?_eq_some_iff.1 HAB.out).1)).trans HAB.out)
     have hcopy:=fun ty=>copy_args hav5 (by simp) hg5 (by rw [hcur];show 10≤45;omega) ty
     have hsl:=slice_args nb V5
     obtain ⟨W6,hW6⟩:∃ W6,W6=V5.setRow nb (cur.toList.take 4++vcs [⟨false,(args.length:Nat)⟩]++cur.toList.drop (4+(vcs [⟨false,(args.length:Nat)⟩]).length)).toArray:=⟨_,rfl⟩
     rw [← hW6] at hcopy
     have hfr6:FrRaw W6 nb (some ⟨mk,0,none⟩) (some ⟨K2.cb d,0,none⟩) to [⟨false,(args.length:Nat)⟩] 0 [] (bs.head?.map (·.1)):=by
      rw [hW6]
      exact fresh_frame (by simp) hg5 (by rw [hcur];rfl) (by rw [hcur];rfl) (by rw [hcur];rfl) (by rw [hcur];rfl) (by rw [hcur];rfl) (by rw [hcur];rfl) (by rw [hcur];rfl) (by rw [hcur];rfl)
     have hb6:∀ k,k≠nb→W6.heap[k]?=V5.heap[k]?:=fun k e=>by rw [hW6];simp [World.setRow,Array.getElem?_modify,Ne.symm e]
     have hc56:Chg V5 W6 (fun k=>k=nb):=by rw [hW6] at hb6 ⊢;exact ⟨rfl,rfl,rfl,by simp [World.setRow],fun k _ e=>hb6 k e⟩
     have hrb6:W6.heap[rb]?=W4.heap[rb]?:=(hb6 rb (by omega)).trans (hB5.block rb hrl4)
     have hr6:=HR4.out.same hrb6
     have ct6:=hr6.ct
     have fz6:∀ o,W6.frozen? ⟨rb,o,none⟩=false:=fun o=>hr6.cel.free o
     have hrl6:=hr6.cel.lt
     have hnb5:=(Array.getElem?_eq_some_iff.1 hg5).1
     have HF6:Hid (FrRaw W6 nb (some ⟨mk,0,none⟩) (some ⟨K2.cb d,0,none⟩) to [⟨false,(args.length:Nat)⟩] 0 [] (bs.head?.map (·.1))∧RunAt W6 K2.b rb (bs.head?.map (·.1)) (fs.length+1) fuel):=⟨hfr6,hr6⟩
     have HC6:Hid (Chg W5 W6 (fun k=>k=rb)):=by
      have hx:Chg W5 W6 (fun k=>k=rb):=(HC4.out.then (Chg.of_below hB5 (fun _=>False)) (fun _ _ e=>e.elim)).then hc56 (fun k hk e=>by omega)
      exact hx
     have hnb3:W5.heap.size≤nb:=by omega
     clear hc56 hfr6 hr6 hrb6 hb6 hW6 hav5 hcur hV5 hB5 y0 y1 x0 x1 ct4 hz4'
     have hnb1:W4.heap.size≤nb:=by omega
     have hnb2:nb≤W4.heap.size:=by omega
     clear hnb
     go_wp2
     have hsend:m.send fuel frm to s args fs=.on { m with looks:=m.looks+2 } fuel (⟨(K2.k.md mk).ws,d,to,[⟨false,(args.length:Nat)⟩],0,[]⟩::fs):=by
      unfold Im.send
      rw [HH.out.stp.kim.findEq,hsay,HFD.out]
      have:¬ 32≤fs.length:=by omega
      simp [this]
     rw [hsend]
     go_end0
     exact ⟨⟨rfl,K2,(nb,mk)::bs,H5.out.push h0 (HC6.out.setCell _ _ (fun _=>rfl)) (HF6.out.2.setTop (some nb)) hnb3 ⟨HF6.out.1.same (Below.heap_setCell _ _ _ _ (by show nb≠rb;omega)),HMK.out.2,rfl⟩ HMK.out.1⟩,fun _ k hk hf hr=>(Below.heap_setCell _ _ _ _ hr).trans ((HC6.out.block k (by omega) hr).trans ((HC5.out.block k (by omega) (by omega)).trans (HKW.out k hk hf)))⟩
end Go.Proofs.YtkghmgoefiepeaaGreatDoor.reads
