import Derived.Test.YtkghmgoefiepeaaGreatDoorQ0
import Derived.Test.YtkghmgoefiepeaaGreatDoorQ32
import Derived.Test.YtkghmgoefiepeaaGreatDoorQ34
set_option linter.unusedSimpArgs false
set_option linter.unusedVariables false
set_option maxHeartbeats 4000000
set_option maxRecDepth 100000
namespace Go.Proofs.YtkghmgoefiepeaaGreatDoor.reads
open Go.ChangeShapes Go.WideShapes Go.ChangeAt Go.RowKit Kn Go.Proofs.YtkghmgoefiepeaaGreatDoor.img
def SPost (Dd:Nat→Prop) (w0:World) (m0:Im) (K0:Kd) (rb:Nat) (g:Go1) (w:World) (m:Im) (K:Kd) (e:Ending) (w':World):Prop:=WPost Dd w0 m0 K0 rb g e w'∧(e=.returned (.tuple #[])→∀ k,k < w.heap.size→¬ Foot m K k→k≠rb→w'.heap[k]?=w.heap[k]?)
variable {w : World}
variable {m : Im}
variable {K : Kd}
theorem KIm.findEq (h:KIm w m K) (s:ByteArray) (c:Option Nat):m.find s c=(K.says m s c).map (fun x=>(x.1,(K.k.md x.2).ws)):=by
 unfold Kd.says
 rw [find_climb,show (fun c=>m.own c s)=(fun c=>(K.mid c s).map (fun k=>(K.k.md k).ws)) from funext fun c=>h.own c s,climb_map]
theorem KIm.saysM (h:KIm w m K) {s:ByteArray}{c:Option Nat} (hc:∀ x,c=some x→x < m.kl.length) {d mk:Nat} (e:K.says m s c=some (d,mk)):d < m.kl.length∧K.k.Mk mk:=by
 cases c with
 | none=>unfold Kd.says at e;rw [climb_none] at e;cases e
 | some c =>
  obtain ⟨h1,h2⟩:=climb_up _ _ _ _ e
  exact ⟨up_lt h.ok h1 (hc c rfl),h.isM d s mk h2⟩
theorem slice_args (nb:Nat) (w:World):(Instr.sliceAt 209 (.pointer (some ⟨nb,4,none⟩)) none none none).run Tryz.prog w=.ok (.slice (some ⟨nb,4,none⟩) 3 3) w:=by
 obtain ⟨i0,hi,_,hs,_⟩:=info_parts info_val
 simp [Instr.sliceAt,Instr.sureAddr,Instr.sliceBounds,Instr.sliceBound,run_underlying Tryz.underlying209,Go.sizeOf,typeInfo,hi,hs,Addr.add,asIntOf]
variable {w0 : World}
variable {m0 : Im}
variable {K0 : Kd}
variable {Dd : Nat → Prop}
variable {bs : List (Nat × Nat)}
variable {fs : List Fr}
theorem send_found {rb:Nat}{fuel:Nat} (h:Sg Dd w0 m0 K0 rb w m K fuel bs fs) (h0:Glo w0) {p:Nat}{s:ByteArray} (hp:(p,s)∈K.k.L) (frm:Option Nat) (hfrm:∀ x,frm=some x→x < m.kl.length) (hs:s.size≤1000)
 (to:Vl) {av:Value}{args:List Vl}{ab:Nat} (hav:ArgsAt w av args ab) (hab:args≠[]→ab < w.heap.size∧ab≠rb∧¬ Foot m K ab) (h3:args.length≤3) (h32:fs.length≤32) {d mk:Nat} (hsay:K.says m s frm=some (d,mk)) :
 Calls Tryz.prog 89 #[.pointer (some ⟨rb,0,none⟩),.pointer (some ⟨p,0,none⟩),.agg #[.pointer (cptr (frm.map K.cb)),.string s],to.val,av] w (SPost Dd w0 m0 K0 rb (m.send fuel frm to s args fs) w m K):=by
 obtain ⟨W1,hW1⟩:∃ W1,W1=(w.alloc (.cells #[.pointer (cptr (frm.map K.cb)),.string s] 59)).alloc (.cells #[.bool to.obj,.int .i64 to.n] 33):=⟨_,rfl⟩
 have hB1:Below w.heap.size w W1:=by rw [hW1];exact below2 _ _ _
 have hl1:w.heap.size+2≤W1.heap.size:=by rw [hW1];simp
 have b0:W1.heap[w.heap.size]?=some (.cells #[.pointer (cptr (frm.map K.cb)),.string s] 59):=by
  rw [hW1,Below.heap_alloc _ _ _ (by simp)]
  exact (MapKept.heap_alloc w _).1
 have b1:W1.heap[w.heap.size+1]?=some (.cells #[.bool to.obj,.int .i64 to.n] 33):=by
  rw [hW1]
  have:=(MapKept.heap_alloc (w.alloc (.cells #[.pointer (cptr (frm.map K.cb)),.string s] 59)) (.cells #[.bool to.obj,.int .i64 to.n] 33)).1
  rw [World.size_alloc] at this
  exact this
 have q0:W1.cell? ⟨w.heap.size,0,none⟩=some (.pointer (cptr (frm.map K.cb))):=by simp only [World.cell?,b0];rfl
 have q1:W1.cell? ⟨w.heap.size,1,none⟩=some (.string s):=by simp only [World.cell?,b0];rfl
 have h1:=h.below hB1
 have r01:=h1.run.c0
 have hrw:=(h.lo rb (by simp)).2.1
 have hKf:∀ W,Below W1.heap.size W1 W→Calls Tryz.prog 136 #[.pointer (some ⟨K.b,0,none⟩),.pointer (some ⟨p,0,none⟩),.agg #[.pointer (cptr (frm.map K.cb)),.string s]] W fun e w'=>e=.returned (.agg #[.pointer (some ⟨K.cb d,0,none⟩),.pointer (some ⟨mk,0,none⟩)])∧∃ K',Step W w' m K { m with looks:=m.looks+1 } K':=fun W hW=>by
  have:=find_any (h1.below hW).stp.kim hp frm hfrm hs
  rw [hsay] at this
  exact this
 have hBa:Below W1.heap.size W1 W1.drew:=(Below.refl _ _).drew
 have hBb:Below W1.heap.size W1 (W1.alloc (.cells #[.pointer none,.pointer none] 62)).drew:=((Below.refl _ _).alloc (Nat.le_refl _) _).drew
 have HH:Hid _:=h
 have H1:Hid _:=h1
 have HAV:Hid (ArgsAt w av args ab∧(args≠[]→ab < w.heap.size∧ab≠rb∧¬ Foot m K ab)):=⟨hav,hab⟩
 obtain ⟨ap,acap,hav1,_⟩:=hav
 subst hav1
 have HB1:Hid _:=hB1
 have HBK:Hid (W1.heap[w.heap.size]?=some (.cells #[.pointer (cptr (frm.map K.cb)),.string s] 59)∧W1.heap[w.heap.size+1]?=some (.cells #[.bool to.obj,.int .i64 to.n] 33)):=⟨b0,b1⟩
 clear h h1 hB1 b0 b1
 unfold Vl.val
 go_enter Tryz.func89,Tryz.ntmps89
 go_wp2_with fail
 rw [← hW1]
 clear hW1
 refine wp_region_noPanic ?_
 refine wp_region_held_drew (S:=(fun w'=>w'.cell? ⟨w.heap.size,0,none⟩=some (.pointer (cptr (frm.map K.cb)))∧w'.cell? ⟨w.heap.size,1,none⟩=some (.string s)∧w'.cell? ⟨rb,0,none⟩=some (.pointer (some ⟨K.b,0,none⟩)))) (by kernel_rfl) (by go_keep) (fun hHeld=>?_)
 refine tkH 0 ?_
 refine tkH 1 ?_
 refine tkH 2 ?_
 refine tkH 3 ?_
 refine tkH 4 ?_
 refine tkL 5 ?_
 refine wpAnyH_ready (rs:=[6,7]) (by kernel_rfl) (by simp) ?_
 refine (AllReadyH.cons (o:=_) rfl (fun Kmac hKmac=>?_) (AllReadyH.cons (o:=_) rfl (fun Kmac hKmac=>?_) AllReadyH.nil))
 case' refine_2 =>
  go_simp
  refine hKmac.go fun hHeld=>?_
  clear hKmac Kmac
  try refine lyH ?_
  refine rdH 6 fun Kmac hKmac=>?_
  go_simp
  refine (hKf _ hBb).mono ?_;rintro e w2 ⟨rfl,K1,hst⟩;have h2:=(H1.out.below hBb).img hst;have hfw:∀ k,Foot m K k→k < w.heap.size:=fun k e=>HH.out.stp.kim.lt e;have hbk:∀ k,w.heap.size≤k→k < W1.heap.size→w2.heap[k]?=W1.heap[k]?:=fun k e1 e2=>(hst.chg.block k (by simp;omega) (fun e=>by have:=hfw k e;omega)).trans (hBb.block k e2);have q02:w2.cell? ⟨w.heap.size,0,none⟩=some (.pointer (cptr (frm.map K.cb))):=(World.cell?_of_block (a:=⟨w.heap.size,0,none⟩) (hbk _ (Nat.le_refl _) (by show w.heap.size < W1.heap.size;omega))).trans q0;have q12:w2.cell? ⟨w.heap.size,1,none⟩=some (.string s):=(World.cell?_of_block (a:=⟨w.heap.size,1,none⟩) (hbk _ (Nat.le_refl _) (by show w.heap.size < W1.heap.size;omega))).trans q1;have r02:w2.cell? ⟨rb,0,none⟩=some (.pointer (some ⟨K.b,0,none⟩)):=by { have:=h2.run.c0;rw [hst.b] at this;exact this }
  try go_wp2_with fail
  refine hKmac.go fun hHeld=>?_
  clear hKmac Kmac
  try refine lyH ?_
  have hzw:w2.heap[W1.heap.size]?=some (.cells #[.pointer none,.pointer none] 62):=(hst.chg.block _ (by simp) (fun e=>by have:=hfw _ e;omega)).trans (MapKept.heap_alloc _ _).1
  have u0:w2.cell? ⟨W1.heap.size,0,none⟩=some (.pointer none):=by simp only [World.cell?,hzw];rfl
  have u1:w2.cell? ⟨W1.heap.size,1,none⟩=some (.pointer none):=by simp only [World.cell?,hzw];rfl
  have uf:∀ o,w2.frozen? ⟨W1.heap.size,o,none⟩=false:=fun o=>Cel.free ⟨_,_,hzw⟩ o
  have hn1:¬ W1.heap.size=w.heap.size:=by omega
  have hn2:¬ w.heap.size=W1.heap.size:=by omega
  have hn3:¬ W1.heap.size=rb:=by omega
  have hn4:¬ rb=W1.heap.size:=by omega
  refine rdH 8 fun Kmac hKmac=>?_
  go_simp
  refine hKmac.go fun hHeld=>?_
  clear hKmac Kmac
  try refine lyH ?_
  refine wpAnyH_done (by kernel_rfl) ?_ _
  refine NoPanic.normal ?_
  obtain ⟨W3,hW3⟩:∃ W3,W3=(w2.setCell ⟨W1.heap.size,0,none⟩ (.pointer (some ⟨K.cb d,0,none⟩))).setCell ⟨W1.heap.size,1,none⟩ (.pointer (some ⟨mk,0,none⟩)):=⟨_,rfl⟩
  obtain ⟨z,hzz⟩:∃ z,z=W1.heap.size:=⟨_,rfl⟩
  rw [← hW3,← hzz]
  have hzb:W3.heap[z]?=some (.cells #[.pointer (some ⟨K.cb d,0,none⟩),.pointer (some ⟨mk,0,none⟩)] 62):=by rw [hW3,hzz];exact set2 hzw
  have hz1:W1.heap.size≤z:=by omega
  have hc3:Chg w2 W3 (fun k=>k=z):=by rw [hW3,hzz];exact ((Chg.refl _ (fun k=>k=W1.heap.size)).setCell _ _ (fun _=>rfl)).setCell _ _ (fun _=>rfl)
  have hz2:z < w2.heap.size:=by rw [hzz];exact (Array.getElem?_eq_some_iff.1 hzw).1
  have hzf:¬ Foot { m with looks:=m.looks+1 } K1 z:=fun e=>by
   rcases hst.foot z e with e | e
   · have:=hfw z e;omega
   · simp at e;omega
  have H3:Hid (Sg Dd w0 m0 K0 rb W3 { m with looks:=m.looks+1 } K1 fuel bs fs):=by
   have hx:=h2.aside h0 hc3 (fun k e=>by rw [e];exact ⟨by have:=HH.out.stp.chg.size;omega,hzf,fun e'=>by have:=(HH.out.lo z e').2.1;omega,fun e'=>by have:=(HH.out.dead z e').2.1;omega⟩)
   exact hx
  have HKP:Hid (∀ k,k < W1.heap.size→¬ Foot m K k→W3.heap[k]?=W1.heap[k]?):=by
   have hx:∀ k,k < W1.heap.size→¬ Foot m K k→W3.heap[k]?=W1.heap[k]?:=fun k e1 e2=>(hc3.block k (by omega) (by omega)).trans ((hst.chg.block k (by simp;omega) e2).trans (hBb.block k e1))
   exact hx
  have HK1:Hid (K1.b=K.b∧(∀ c,c < m.kl.length→K1.cb c=K.cb c)∧∀ k,K.k.Mk k→K1.k.Mk k∧K1.k.md k=K.k.md k):=⟨hst.b,hst.cb,hst.md⟩
  have HFT:Hid (∀ k,Foot { m with looks:=m.looks+1 } K1 k→Foot m K k∨(W1.heap.size≤k∧k≠z)):=by
   have hx:∀ k,Foot { m with looks:=m.looks+1 } K1 k→Foot m K k∨(W1.heap.size≤k∧k≠z):=fun k e=>by
    rcases hst.foot k e with e1 | e1
    · exact .inl e1
    · simp at e1;exact .inr ⟨by omega,by omega⟩
   exact hx
  clear hzz hW3 hzw u0 u1 uf hn1 hn2 hn3 hn4 q02 q12 r02 hst h2 hfw hbk hc3 hz2 hzf
 case' refine_1 =>
  go_simp
  refine (hKf _ hBa).mono ?_;rintro e w2 ⟨rfl,K1,hst⟩;have h2:=(H1.out.below hBa).img hst;have hfw:∀ k,Foot m K k→k < w.heap.size:=fun k e=>HH.out.stp.kim.lt e;have hbk:∀ k,w.heap.size≤k→k < W1.heap.size→w2.heap[k]?=W1.heap[k]?:=fun k e1 e2=>hst.chg.block k e2 (fun e=>by have:=hfw k e;omega);have q02:w2.cell? ⟨w.heap.size,0,none⟩=some (.pointer (cptr (frm.map K.cb))):=(World.cell?_of_block (a:=⟨w.heap.size,0,none⟩) (hbk _ (Nat.le_refl _) (by show w.heap.size < W1.heap.size;omega))).trans q0;have q12:w2.cell? ⟨w.heap.size,1,none⟩=some (.string s):=(World.cell?_of_block (a:=⟨w.heap.size,1,none⟩) (hbk _ (Nat.le_refl _) (by show w.heap.size < W1.heap.size;omega))).trans q1;have r02:w2.cell? ⟨rb,0,none⟩=some (.pointer (some ⟨K.b,0,none⟩)):=by { have:=h2.run.c0;rw [hst.b] at this;exact this }
  try go_wp2_with fail
  refine hKmac.go fun hHeld=>?_
  clear hKmac Kmac
  try refine lyH ?_
  have hs2:W1.heap.size≤w2.heap.size:=hst.chg.size
  refine rdH 7 fun Kmac hKmac=>?_
  go_simp
  refine hKmac.go fun hHeld=>?_
  clear hKmac Kmac
  try refine lyH ?_
  refine rdH 8 fun Kmac hKmac=>?_
  go_simp
  refine hKmac.go fun hHeld=>?_
  clear hKmac Kmac
  try refine lyH ?_
  refine wpAnyH_done (by kernel_rfl) ?_ _
  refine NoPanic.normal ?_
  obtain ⟨W3,hW3⟩:∃ W3,W3=w2.alloc (.cells #[.pointer (some ⟨K.cb d,0,none⟩),.pointer (some ⟨mk,0,none⟩)] 62):=⟨_,rfl⟩
  obtain ⟨z,hzz⟩:∃ z,z=w2.heap.size:=⟨_,rfl⟩
  rw [← hW3,← hzz]
  have hzb:W3.heap[z]?=some (.cells #[.pointer (some ⟨K.cb d,0,none⟩),.pointer (some ⟨mk,0,none⟩)] 62):=by rw [hW3,hzz];exact (MapKept.heap_alloc _ _).1
  have hz1:W1.heap.size≤z:=by omega
  have hb3:Below w2.heap.size w2 W3:=by rw [hW3];exact (Below.refl _ _).alloc (Nat.le_refl _) _
  have H3:Hid (Sg Dd w0 m0 K0 rb W3 { m with looks:=m.looks+1 } K1 fuel bs fs):=by
   have hx:=h2.below hb3
   exact hx
  have HKP:Hid (∀ k,k < W1.heap.size→¬ Foot m K k→W3.heap[k]?=W1.heap[k]?):=by
   have hx:∀ k,k < W1.heap.size→¬ Foot m K k→W3.heap[k]?=W1.heap[k]?:=fun k e1 e2=>(hb3.block k (by omega)).trans (hst.chg.block k e1 e2)
   exact hx
  have HK1:Hid (K1.b=K.b∧(∀ c,c < m.kl.length→K1.cb c=K.cb c)∧∀ k,K.k.Mk k→K1.k.Mk k∧K1.k.md k=K.k.md k):=⟨hst.b,hst.cb,hst.md⟩
  have HFT:Hid (∀ k,Foot { m with looks:=m.looks+1 } K1 k→Foot m K k∨(W1.heap.size≤k∧k≠z)):=by
   have hx:∀ k,Foot { m with looks:=m.looks+1 } K1 k→Foot m K k∨(W1.heap.size≤k∧k≠z):=fun k e=>by
    have h4:=h2.stp.kim.lt e
    rcases hst.foot k e with e1 | e1
    · exact .inl e1
    · have e1:W1.heap.size≤k:=e1
      exact .inr ⟨e1,by omega⟩
   exact hx
  clear hzz hW3 q02 q12 r02 hst h2 hfw hbk hb3 hs2
 all_goals
  have hfw:∀ k,Foot m K k→k < w.heap.size:=fun k e=>HH.out.stp.kim.lt e
  have hto:W3.heap[w.heap.size+1]?=some (.cells #[.bool to.obj,.int .i64 to.n] 33):=(HKP.out _ (by omega) (fun e=>by have:=hfw _ e;omega)).trans HBK.out.2
  have z0:W3.cell? ⟨z,0,none⟩=some (.pointer (some ⟨K.cb d,0,none⟩)):=by simp only [World.cell?,hzb];rfl
  have z1:W3.cell? ⟨z,1,none⟩=some (.pointer (some ⟨mk,0,none⟩)):=by simp only [World.cell?,hzb];rfl
  have t0:W3.cell? ⟨w.heap.size+1,0,none⟩=some (.bool to.obj):=by simp only [World.cell?,hto];rfl
  have t1:W3.cell? ⟨w.heap.size+1,1,none⟩=some (.int .i64 to.n):=by simp only [World.cell?,hto];rfl
  have cq:=H3.out.run.cq
  have ct:=H3.out.run.ct
  have fzr:∀ o,W3.frozen? ⟨rb,o,none⟩=false:=fun o=>H3.out.run.cel.free o
  have hrl3:=H3.out.run.cel.lt
  have hzl3:z < W3.heap.size:=(Array.getElem?_eq_some_iff.1 hzb).1
  have htl3:w.heap.size+1 < W3.heap.size:=(Array.getElem?_eq_some_iff.1 hto).1
  have e1:¬ z=rb:=by omega
  have e2:¬ rb=z:=by omega
  have e3:¬ w.heap.size+1=rb:=by omega
  have e4:¬ rb=w.heap.size+1:=by omega
  have HZB:Hid (W3.heap[z]?=some (.cells #[.pointer (some ⟨K.cb d,0,none⟩),.pointer (some ⟨mk,0,none⟩)] 62)∧W3.heap[w.heap.size+1]?=some (.cells #[.bool to.obj,.int .i64 to.n] 33)):=⟨hzb,hto⟩
  clear hfw hto hzb hKf hBa hBb
  by_cases hd:fs.length=32
  · rw [hd] at cq
    go_wp2
    have hsend:m.send fuel frm to s args fs=.stop { m with looks:=m.looks+1 } 4:=by
     unfold Im.send
     rw [HH.out.stp.kim.findEq,hsay]
     simp [hd]
    rw [hsend]
    exact ⟨rfl,⟨rfl,K1,H3.out.stp⟩,fun e=>(by cases e)⟩
  · have hd':¬ ((fs.length:Int)=32):=by omega
    have hd2:(fs.length:Int)≤31:=by omega
    go_wp2_with fail
    obtain ⟨W4,hW4⟩:∃ W4,W4=W3.setCell ⟨rb,25,none⟩ (.int .i64 ((fs.length:Int)+1)):=⟨_,rfl⟩
    rw [← hW4]
    have hz4:W4.heap.size≤W3.heap.size:=by rw [hW4];simp [World.setCell]
    have hz4':W3.heap.size≤W4.heap.size:=by rw [hW4];simp [World.setCell]
    have hb4:∀ k,k < W3.heap.size→k≠rb→W4.heap[k]?=W3.heap[k]?:=fun k _ e=>by rw [hW4];exact Below.heap_setCell _ _ _ _ e
    have y0:W4.cell? ⟨z,0,none⟩=some (.pointer (some ⟨K.cb d,0,none⟩)):=(World.cell?_of_block (a:=⟨z,0,none⟩) (hb4 z hzl3 e1)).trans z0
    have y1:W4.cell? ⟨z,1,none⟩=some (.pointer (some ⟨mk,0,none⟩)):=(World.cell?_of_block (a:=⟨z,1,none⟩) (hb4 z hzl3 e1)).trans z1
    have x0:W4.cell? ⟨w.heap.size+1,0,none⟩=some (.bool to.obj):=(World.cell?_of_block (a:=⟨w.heap.size+1,0,none⟩) (hb4 _ htl3 e3)).trans t0
    have x1:W4.cell? ⟨w.heap.size+1,1,none⟩=some (.int .i64 to.n):=(World.cell?_of_block (a:=⟨w.heap.size+1,1,none⟩) (hb4 _ htl3 e3)).trans t1
    have hr4:RunAt W4 K1.b rb (bs.head?.map (·.1)) (fs.length+1) fuel:=by
     have:=H3.out.run.setDepth (fs.length+1)
     rw [hW4]
     simpa using this
    have ct4:=hr4.ct
    have HR4:Hid _:=hr4
    have HC4:Hid (Chg W3 W4 (fun k=>k=rb)):=by
     have hx:Chg W3 W4 (fun k=>k=rb):=by rw [hW4];exact (Chg.refl _ (fun k=>k=rb)).setCell _ _ (fun _=>rfl)
     exact hx
    have hrl4:rb < W4.heap.size:=by omega
    have hzl4:z < W4.heap.size:=by omega
    have htl4:w.heap.size+1 < W4.heap.size:=by omega
    clear hr4 hW4 z0 z1 t0 t1 cq ct fzr hb4
    refine wp_region_noPanic ?_
    refine wp_region_held_drew (S:=(fun w'=>w'.cell? ⟨z,0,none⟩=some (.pointer (some ⟨K.cb d,0,none⟩))∧w'.cell? ⟨z,1,none⟩=some (.pointer (some ⟨mk,0,none⟩))∧w'.cell? ⟨w.heap.size+1,0,none⟩=some (.bool to.obj)∧w'.cell? ⟨w.heap.size+1,1,none⟩=some (.int .i64 to.n)∧w'.cell? ⟨rb,24,none⟩=some (.pointer (cptr (bs.head?.map (·.1)))))) (by kernel_rfl) (by go_keep) (fun hHeld=>?_)
    refine tkH 0 ?_
    refine tkH 1 ?_
    refine tkH 2 ?_
    refine tkH 3 ?_
    refine tkH 4 ?_
    refine tkH 5 ?_
    refine tkH 6 ?_
    refine tkH 7 ?_
    refine tkH 8 ?_
    refine tkL 9 ?_
    refine rdH 10 fun Kmac hKmac=>?_
    go_simp
    refine hKmac.go fun hHeld=>?_
    clear hKmac Kmac
    try refine lyH ?_
    refine tkL 11 ?_
    refine wpAnyH_done (by kernel_rfl) ?_ _
    refine NoPanic.normal ?_
    obtain ⟨cur,hcur⟩:∃ cur:Array Value,cur=#[.pointer (some ⟨mk,0,none⟩),.pointer (some ⟨K.cb d,0,none⟩),.bool to.obj,.int .i64 to.n,.bool false,.int .i64 0,.bool false,.int .i64 0,.bool false,.int .i64 0,.int .i64 0,.bool false,.int .i64 0,.bool false,.int .i64 0,.bool false,.int .i64 0,.bool false,.int .i64 0,.bool false,.int .i64 0,.bool false,.int .i64 0,.bool false,.int .i64 0,.bool false,.int .i64 0,.bool false,.int .i64 0,.bool false,.int .i64 0,.bool false,.int .i64 0,.bool false,.int .i64 0,.bool false,.int .i64 0,.bool false,.int .i64 0,.bool false,.int .i64 0,.bool false,.int .i64 0,.int .i64 0,.pointer (cptr (bs.head?.map (·.1)))]:=⟨_,rfl⟩
    obtain ⟨W5,hW5⟩:∃ W5,W5=(W4.alloc (.cells cur 212)).drew:=⟨_,rfl⟩
    obtain ⟨nb,hnb⟩:∃ nb,nb=W4.heap.size:=⟨_,rfl⟩
    rw [← hcur,← hW5,← hnb]
    have hB5:Below W4.heap.size W4 W5:=by rw [hW5];exact ((Below.refl _ _).alloc (Nat.le_refl _) _).drew
    have hg5:W5.heap[nb]?=some (.cells cur 212):=by rw [hW5,hnb];exact (MapKept.heap_alloc _ _).1
    have hav5:ArgsAt W5 (.slice ap args.length acap) args ab:=HAV.out.1.same (fun hn=>by
     obtain ⟨a1,a2,a3⟩:=HAV.out.2 hn
     have hb1:=HB1.out.size
     rw [hB5.block ab (by omega),HC4.out.block ab (by omega) a2,HKP.out ab (by omega) a3]
     exact HB1.out.block ab a1)
    have hcopy:=fun ty=>copy_args hav5 h3 hg5 (by rw [hcur];show 10≤45;omega) ty
    have hsl:=slice_args nb W5
    obtain ⟨W6,hW6⟩:∃ W6,W6=W5.setRow nb (cur.toList.take 4++vcs args++cur.toList.drop (4+(vcs args).length)).toArray:=⟨_,rfl⟩
    rw [← hW6] at hcopy
    have hfr6:FrRaw W6 nb (some ⟨mk,0,none⟩) (some ⟨K.cb d,0,none⟩) to args 0 [] (bs.head?.map (·.1)):=by
     rw [hW6]
     exact fresh_frame h3 hg5 (by rw [hcur];rfl) (by rw [hcur];rfl) (by rw [hcur];rfl) (by rw [hcur];rfl) (by rw [hcur];rfl) (by rw [hcur];rfl) (by rw [hcur];rfl) (by rw [hcur];rfl)
    have hb6:∀ k,k≠nb→W6.heap[k]?=W5.heap[k]?:=fun k e=>by rw [hW6];simp [World.setRow,Array.getElem?_modify,Ne.symm e]
    have hc56:Chg W5 W6 (fun k=>k=nb):=by rw [hW6] at hb6 ⊢;exact ⟨rfl,rfl,rfl,by simp [World.setRow],fun k _ e=>hb6 k e⟩
    have hrb6:W6.heap[rb]?=W4.heap[rb]?:=(hb6 rb (by omega)).trans (hB5.block rb hrl4)
    have hr6:=HR4.out.same hrb6
    have ct6:=hr6.ct
    have fz6:∀ o,W6.frozen? ⟨rb,o,none⟩=false:=fun o=>hr6.cel.free o
    have hrl6:=hr6.cel.lt
    have hnb5:=(Array.getElem?_eq_some_iff.1 hg5).1
    have HF6:Hid (FrRaw W6 nb (some ⟨mk,0,none⟩) (some ⟨K.cb d,0,none⟩) to args 0 [] (bs.head?.map (·.1))∧RunAt W6 K1.b rb (bs.head?.map (·.1)) (fs.length+1) fuel):=⟨hfr6,hr6⟩
    have HC6:Hid (Chg W3 W6 (fun k=>k=rb)):=by
     have hx:Chg W3 W6 (fun k=>k=rb):=(HC4.out.then (Chg.of_below hB5 (fun _=>False)) (fun _ _ e=>e.elim)).then hc56 (fun k hk e=>by omega)
     exact hx
    have hnb3:W3.heap.size≤nb:=by omega
    clear hc56 hfr6 hr6 hrb6 hb6 hW6 hav5 hcur hW5 hB5 y0 y1 x0 x1 ct4
    have hnb1:W4.heap.size≤nb:=by omega
    have hnb2:nb≤W4.heap.size:=by omega
    clear hnb
    go_wp2
    have hsend:m.send fuel frm to s args fs=.on { m with looks:=m.looks+1 } fuel (⟨(K.k.md mk).ws,d,to,args,0,[]⟩::fs):=by
     unfold Im.send
     rw [HH.out.stp.kim.findEq,hsay]
     have:¬ 32≤fs.length:=by omega
     simp [this]
    rw [hsend]
    obtain ⟨hdl,hmk⟩:=HH.out.stp.kim.saysM hfrm hsay
    have hk1:=HK1.out
    go_end0
    refine ⟨⟨rfl,K1,(nb,mk)::bs,H3.out.push h0 (HC6.out.setCell _ _ (fun _=>rfl)) (HF6.out.2.setTop (some nb)) hnb3 ⟨?_,(hk1.2.2 mk hmk).1,by rw [(hk1.2.2 mk hmk).2]⟩ hdl⟩,fun _ k hk hf hr=>(Below.heap_setCell _ _ _ _ hr).trans ((HC6.out.block k (by omega) hr).trans ((HKP.out k (by omega) hf).trans (HB1.out.block k hk)))⟩
    rw [hk1.2.1 d hdl]
    exact HF6.out.1.same (Below.heap_setCell _ _ _ _ (by show nb≠rb;omega))
end Go.Proofs.YtkghmgoefiepeaaGreatDoor.reads
