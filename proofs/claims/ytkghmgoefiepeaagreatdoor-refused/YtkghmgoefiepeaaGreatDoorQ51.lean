import Derived.Deep.Slices
import Derived.SizedLaws
import Derived.SliceStrings
import Derived.Carry
import Derived.Test.YtkghmgoefiepeaaGreatDoorQ0
import Derived.Test.YtkghmgoefiepeaaGreatDoorQ49
set_option linter.unusedSimpArgs false
set_option linter.unusedVariables false
set_option maxHeartbeats 4000000
set_option maxRecDepth 100000
namespace Go.Proofs.YtkghmgoefiepeaaGreatDoor.reads
open Go.ChangeShapes Go.WideShapes Go.ChangeAt Go.RowKit Kn Go.Proofs.YtkghmgoefiepeaaGreatDoor.img
structure Two (w0 w:World) (b1 b2:Nat) (m1 m2:Im) (K1 K2:Kd):Prop where
 a1:At w0 b1 w m1 K1
 a2:At w0 b2 w m2 K2
 apart:∀ k,Foot m1 K1 k→¬ Foot m2 K2 k
variable {w w0 : World}
theorem Two.swap {b1 b2:Nat}{m1 m2:Im}{K1 K2:Kd} (h:Two w0 w b1 b2 m1 m2 K1 K2):Two w0 w b2 b1 m2 m1 K2 K1:=⟨h.a2,h.a1,fun k e1 e2=>h.apart k e2 e1⟩
variable {w' : World}
theorem Two.step {b1 b2:Nat}{m1 m2 m':Im}{K1 K2 K':Kd} (h:Two w0 w b1 b2 m1 m2 K1 K2) (s:Step w w' m1 K1 m' K'):Two w0 w' b1 b2 m' m2 K' K2:=by
 obtain ⟨h1,h2⟩:=s.beside h.a1.kim h.a2.kim h.apart
 have ha:=h.a1.step s
 exact ⟨ha,⟨h1,h.a2.lo,ha.bel,h.a2.b_⟩,h2⟩
theorem Two.below {b1 b2:Nat}{m1 m2:Im}{K1 K2:Kd} (h:Two w0 w b1 b2 m1 m2 K1 K2) (hb:Below w.heap.size w w'):Two w0 w' b1 b2 m1 m2 K1 K2:=h.step (Step.below h.a1.kim hb)
structure Scr (w:World) (sp:Option Addr) (os:List POp):Prop where
 at_:os≠[]→∃ sb so,sp=some ⟨sb,so,none⟩∧sb < w.heap.size∧∀ i o,os[i]?=some o→(w.cell? ⟨sb,so+i*9,none⟩=some (.int .i64 o.kind)∧w.cell? ⟨sb,so+i*9+1,none⟩=some (.string o.s)∧w.cell? ⟨sb,so+i*9+2,none⟩=some (.string o.t)∧w.cell? ⟨sb,so+i*9+3,none⟩=some (.string o.u)∧w.cell? ⟨sb,so+i*9+4,none⟩=some (.int .i64 o.n)∧w.cell? ⟨sb,so+i*9+5,none⟩=some (.int .i64 o.k)∧w.cell? ⟨sb,so+i*9+6,none⟩=some (.bool o.to.obj)∧w.cell? ⟨sb,so+i*9+7,none⟩=some (.int .i64 o.to.n)∧w.cell? ⟨sb,so+i*9+8,none⟩=some (.slice o.ap o.args.length o.cap))
 ok:∀ o∈os,OpOk w o
theorem OpOk.below {o:POp} (h:OpOk w o) (hb:Below w.heap.size w w'):OpOk w' o :=
 ⟨h.zs,h.zt,h.zu,h.to,h.args.same (fun hn=>hb.block _ (h.lt hn)),fun hn=>Nat.lt_of_lt_of_le (h.lt hn) hb.size,h.all⟩
variable {m : Im}
variable {K : Kd}
theorem OpOk.off {b:Nat}{o:POp} (h:OpOk w o) (ha:At w b w' m K):o.args≠[]→¬ Foot m K o.ab:=fun hn e=>by have:=ha.lo _ e;have:=h.lt hn;omega
theorem At.call {b:Nat}{o:POp} (ha:At w b w' m K) (h:OpOk w o):Calls Tryz.prog 13 #[.pointer (some ⟨b,0,none⟩),o.val] w' (CPost w' m K o):=call_any ha o (h.below ha.bel) (h.off ha)
theorem two_new {K1 K2:Kd} (h1:KIm w im0 K1) (l1:∀ k,Foot im0 K1 k→w0.heap.size≤k) (hb0:Below w0.heap.size w0 w) (h2:KIm w' im0 K2) (l2:∀ k,Foot im0 K2 k→w.heap.size≤k) (hb:Below w.heap.size w w'):Two w0 w' K1.b K2.b im0 im0 K1 K2 :=
 ⟨⟨h1.below hb,l1,hb0.trans (hb.mono hb0.size),rfl⟩,⟨h2,fun k e=>Nat.le_trans hb0.size (l2 k e),hb0.trans (hb.mono hb0.size),rfl⟩,fun k e1 e2=>by have:=h1.lt e1;have:=l2 k e2;omega⟩
theorem refused_walk (p t:Int) (sp:Option Addr) (cap:Nat) (os:List POp) (w:World) (hg:Glo w) (hs:Scr w sp os) (hn:os.length≤140737488355328) :
 Calls Tryz.prog 5 #[.int .i64 p,.int .i64 t,.slice sp os.length cap] w fun e w'=>e=.returned (.bool true)∧Below w.heap.size w w':=by
 have HS:Hid _:=hs
 obtain ⟨n,hnn⟩:∃ n,n=os.length:=⟨_,rfl⟩
 have HN:Hid _:=hnn
 rw [← hnn] at hn ⊢
 clear hs hnn
 by_cases hgood:GoodNew p t
 · have HG:Hid (GoodNew p t):=hgood
   clear hgood
   go_enter Tryz.func5,Tryz.ntmps5
   go_wp2_with fail
   refine (alive_any w hg).mono ?_
   rintro e w1 ⟨rfl,hb1⟩
   have HB1:Hid _:=hb1
   clear hb1
   go_wp2_with fail
   refine (rnew_ok p t w1 HG.out).mono ?_
   rintro e w2 ⟨⟨rp,rfl⟩,hb2⟩
   have HB2:Hid (Below w.heap.size w w2):=HB1.out.trans (hb2.mono HB1.out.size)
   have hg2:Glo w2:=hg.same HB2.out.size (fun k hk=>HB2.out.block k (hg.lt hk))
   clear hb2
   go_wp2_with fail
   refine (new_any p t w2 hg2 HG.out).mono ?_
   rintro e w3 ⟨K1,rfl,hk1,hf1,hb3⟩
   have HB3:Hid (KIm w3 im0 K1∧(∀ k,Foot im0 K1 k→w.heap.size≤k)∧Below w.heap.size w w3):=⟨hk1,fun k e=>Nat.le_trans HB2.out.size (hf1 k e),HB2.out.trans (hb3.mono HB2.out.size)⟩
   have hg3:=hk1.glo
   clear hk1 hf1 hb3 hg hg2
   go_wp2_with fail
   refine (new_any p t w3 hg3 HG.out).mono ?_
   rintro e w4 ⟨K2,rfl,hk2,hf2,hb4⟩
   have h4:=two_new HB3.out.1 HB3.out.2.1 HB3.out.2.2 hk2 hf2 hb4
   obtain ⟨b1,hb1⟩:∃ b,b=K1.b:=⟨_,rfl⟩
   obtain ⟨b2,hb2⟩:∃ b,b=K2.b:=⟨_,rfl⟩
   rw [← hb1,← hb2] at h4 ⊢
   have H4:Hid _:=h4
   clear h4 hb1 hb2 hk2 hf2 hb4 hg3
   go_wp2_with fail
   refine (num_any 0 _).mono ?_
   rintro e w5 ⟨rfl,rfl⟩
   go_wp2_with fail
   refine (num_any 0 _).mono ?_
   rintro e w6 ⟨rfl,rfl⟩
   go_wp2
   go_loopw [14] (fun i wr=>∃ k:Nat,i=.int .i64 k∧k≤n∧∃ m K1 K2,Two w wr b1 b2 m m K1 K2) (fun i _=>n - (intOf i).toNat)
   case atStart=>exact ⟨0,rfl,by omega,im0,K1,K2,H4.out⟩
   case round =>
    obtain ⟨k,rfl,hk,m,L1,L2,htwo⟩:=hrel
    have HT:Hid _:=htwo
    by_cases hkn:k < n
    · obtain ⟨o,ho⟩:∃ o,os[k]?=some o:=⟨_,List.getElem?_eq_getElem (by rw [← HN.out];exact hkn)⟩
      have hne:os≠[]:=fun e=>by rw [e] at ho;cases ho
      obtain ⟨sb,so,hsp,hsl,hget⟩:=HS.out.at_ hne
      have hok:=HS.out.ok o (List.mem_of_getElem? ho)
      have q:=hget k o ho
      have hbl:=htwo.a1.bel
      have hsk:∀ x,wr.cell? ⟨sb,x,none⟩=w.cell? ⟨sb,x,none⟩:=fun x=>hbl.cell (p:=⟨sb,x,none⟩) hsl
      simp only [← hsk] at q
      have hadd:(⟨sb,so,none⟩:Addr).add (k*9)=⟨sb,so+k*9,none⟩:=add_plain _ _ _
      have hca:=htwo.a1.call hok
      unfold Kn.POp.val at hca
      subst hsp
      have HQ:Hid (os[k]?=some o∧OpOk w o∧sb < w.heap.size):=⟨ho,hok,hsl⟩
      have HK:Hid _:=hget k o ho
      clear htwo ho hne hget hok hsk hbl
      have hki:(k:Int) < (n:Int):=by omega
      have hni:(n:Int)≤140737488355328:=by omega
      go_wp2_with fail
      refine hca.mono ?_
      rintro e wa ⟨d,m1,L3,rfl,hres,hst⟩
      have H5:Hid (Two w wa b1 b2 m1 m L3 L2∧CallRes m o d m1):=⟨HT.out.step hst,hres⟩
      clear hca hst hres q
      unfold Kn.Sd.val
      by_cases he:d.e=0
      · have HE:Hid (d.e=0):=he
        rw [he]
        obtain ⟨vo,hvo⟩:∃ x,x=d.v.obj:=⟨_,rfl⟩
        obtain ⟨vn,hvn⟩:∃ x,x=d.v.n:=⟨_,rfl⟩
        obtain ⟨ds,hds⟩:∃ x,x=d.s:=⟨_,rfl⟩
        obtain ⟨dn,hdn⟩:∃ x,x=d.n:=⟨_,rfl⟩
        obtain ⟨dk,hdk⟩:∃ x,x=d.k:=⟨_,rfl⟩
        rw [← hvo,← hvn,← hds,← hdn,← hdk]
        have HD:Hid (vo=d.v.obj∧vn=d.v.n∧ds=d.s∧dn=d.n∧dk=d.k):=⟨hvo,hvn,hds,hdn,hdk⟩
        clear hvo hvn hds hdn hdk he
        go_wp2_with fail
        refine (num_any 0 _).mono ?_
        rintro e wb ⟨rfl,rfl⟩
        obtain ⟨wb,hwb⟩:∃ wb,wb=wa.alloc (.cells #[.bool vo,.int .i64 vn,.string ds,.int .i64 dn,.int .i64 0,.int .i64 dk] 42):=⟨_,rfl⟩
        obtain ⟨z,hz⟩:∃ z,z=wa.heap.size:=⟨_,rfl⟩
        rw [← hwb,← hz]
        have hB:Below wa.heap.size wa wb:=by rw [hwb];exact below1 _ _
        have hzb:wb.heap[z]?=some (.cells #[.bool vo,.int .i64 vn,.string ds,.int .i64 dn,.int .i64 0,.int .i64 dk] 42):=by rw [hwb,hz];exact (MapKept.heap_alloc _ _).1
        have hzf:¬ Foot m L2 z:=fun e=>by have:=H5.out.1.a2.kim.lt e;omega
        have h6:=H5.out.1.below hB
        have H6:Hid (Two w wb b1 b2 m1 m L3 L2∧wb.heap[z]?=some (.cells #[.bool vo,.int .i64 vn,.string ds,.int .i64 dn,.int .i64 0,.int .i64 dk] 42)∧¬ Foot m L2 z):=⟨h6,hzb,hzf⟩
        have q:=HK.out
        have hsk:∀ x,wb.cell? ⟨sb,x,none⟩=w.cell? ⟨sb,x,none⟩:=fun x=>h6.a1.bel.cell (p:=⟨sb,x,none⟩) HQ.out.2.2
        simp only [← hsk] at q
        have hca:=h6.a2.call HQ.out.2.1
        unfold Kn.POp.val at hca
        clear hwb hz hB hzb hzf h6 hsk
        go_wp2_with fail
        refine hca.mono ?_
        rintro e wc ⟨d2,m2,L4,rfl,hres2,hst2⟩
        have hz6:=(hst2.chg.block z (Array.getElem?_eq_some_iff.1 H6.out.2.1).1 H6.out.2.2).trans H6.out.2.1
        obtain ⟨rfl,rfl⟩:=callRes_one H5.out.2 hres2
        have H7:Hid (Two w wc b1 b2 m1 m1 L3 L4):=(H6.out.1.swap.step hst2).swap
        unfold Kn.Sd.val
        rw [HE.out,← HD.out.1,← HD.out.2.1,← HD.out.2.2.1,← HD.out.2.2.2.1,← HD.out.2.2.2.2]
        have hzl:=(Array.getElem?_eq_some_iff.1 hz6).1
        have c0:wc.cell? ⟨z,0,none⟩=some (.bool vo):=by simp only [World.cell?,hz6];rfl
        have c1:wc.cell? ⟨z,1,none⟩=some (.int .i64 vn):=by simp only [World.cell?,hz6];rfl
        have c2:wc.cell? ⟨z,2,none⟩=some (.string ds):=by simp only [World.cell?,hz6];rfl
        have c3:wc.cell? ⟨z,3,none⟩=some (.int .i64 dn):=by simp only [World.cell?,hz6];rfl
        have c4:wc.cell? ⟨z,4,none⟩=some (.int .i64 0):=by simp only [World.cell?,hz6];rfl
        have c5:wc.cell? ⟨z,5,none⟩=some (.int .i64 dk):=by simp only [World.cell?,hz6];rfl
        clear hca hst2 hres2 q hz6
        go_wp2
        go_roundw
        case rel=>exact ⟨k+1,by go_num,by omega,m1,L3,L4,H7.out.below (below1 _ _)⟩
        case measure=>simp [intOf] <;> omega
      · obtain ⟨hm,hv,hsn⟩:=callRes_no H5.out.2 he
        subst hm
        have H6:Hid (Two w wa b1 b2 m1 m1 L3 L2):=H5.out.1
        obtain ⟨⟨vo,vn⟩,ds,dn,de,dk⟩:=d
        simp only [Vl.zero,Vl.mk.injEq] at hv hsn he
        obtain ⟨rfl,rfl⟩:=hv
        subst hsn
        clear H5
        go_wp2_with fail
        refine (num_any de _).mono ?_
        rintro e wb ⟨rfl,rfl⟩
        go_wp2
        go_roundw
        case rel=>exact ⟨k+1,by go_num,by omega,m1,L3,L2,H6.out.below (below1 _ _)⟩
        case measure=>simp [intOf] <;> omega
    · obtain rfl:k=n:=by omega
      clear htwo
      go_wp2
      go_ret
      exact ⟨rfl,HT.out.a1.bel⟩
 · have HG:Hid (¬ GoodNew p t):=hgood
   clear hgood
   go_enter Tryz.func5,Tryz.ntmps5
   go_wp2_with fail
   refine (alive_any w hg).mono ?_
   rintro e w1 ⟨rfl,hb1⟩
   have HB1:Hid _:=hb1
   clear hb1
   go_wp2_with fail
   refine (rnew_no p t w1 HG.out).mono ?_
   rintro e w2 ⟨rfl,rfl⟩
   go_wp2_with fail
   refine (new_no p t w2 HG.out).mono ?_
   rintro e w3 ⟨rfl,rfl⟩
   go_wp2_with fail
   refine (new_no p t w3 HG.out).mono ?_
   rintro e w4 ⟨rfl,rfl⟩
   go_wp2_with fail
   refine (num_any 1 _).mono ?_
   rintro e w5 ⟨rfl,rfl⟩
   go_wp2_with fail
   refine (num_any 1 _).mono ?_
   rintro e w6 ⟨rfl,rfl⟩
   go_wp2
   go_ret
   exact ⟨rfl,HB1.out⟩
theorem rnew_b (a0 a1:Int) (w:World) (f:Int) (hf:GoodNew a0 a1∧f=0∨¬ GoodNew a0 a1∧f=1) :
 Calls Tryz.prog 8 #[.int .i64 a0,.int .i64 a1] w fun e w'=>(∃ p,e=.returned (.tuple #[.pointer p,.int .i64 f]))∧Below w.heap.size w w':=by
 rcases hf with ⟨hg,rfl⟩ | ⟨hg,rfl⟩
 · exact (rnew_ok a0 a1 w hg).mono fun e w' ⟨⟨p,h1⟩,h2⟩=>⟨⟨_,h1⟩,h2⟩
 · exact (rnew_no a0 a1 w hg).mono fun e w' ⟨h1,h2⟩=>⟨⟨_,h1⟩,by rw [h2];exact Below.refl _ _⟩
theorem knew_b (a0 a1:Int) (w:World) (hgl:Glo w) (f:Int) (hf:GoodNew a0 a1∧f=0∨¬ GoodNew a0 a1∧f=1) :
 Calls Tryz.prog 7 #[.int .i64 a0,.int .i64 a1] w fun e w'=>(∃ p,e=.returned (.tuple #[.pointer p,.int .i64 f]))∧Below w.heap.size w w':=by
 rcases hf with ⟨hg,rfl⟩ | ⟨hg,rfl⟩
 · exact (new_any a0 a1 w hgl hg).mono fun e w' ⟨K,h1,_,_,h2⟩=>⟨⟨_,h1⟩,h2⟩
 · exact (new_no a0 a1 w hg).mono fun e w' ⟨h1,h2⟩=>⟨⟨_,h1⟩,by rw [h2];exact Below.refl _ _⟩
theorem Glo.bel (h:Glo w) (hb:Below w.heap.size w w'):Glo w':=h.same hb.size (fun k hk=>hb.block k (h.lt hk))
structure Fls (w:World) (fp:Option Addr) (fl:List ByteArray):Prop where
 at_:fl≠[]→∃ fb fo,fp=some ⟨fb,fo,none⟩∧fb < w.heap.size∧∀ i s,fl[i]?=some s→w.cell? ⟨fb,fo+i,none⟩=some (.string s)
 ok:∀ s∈fl,s.size≤140737488355328
theorem unseen_walk (p t q u:Int) (sp:Option Addr) (cap:Nat) (os:List POp) (fp:Option Addr) (fcap:Nat) (fl:List ByteArray) (w:World) (hg:Glo w) (hs:Scr w sp os) (hf:Fls w fp fl) (hn:os.length≤140737488355328) (hnf:fl.length≤140737488355328) :
 Calls Tryz.prog 4 #[.int .i64 p,.int .i64 t,.int .i64 q,.int .i64 u,.slice sp os.length cap,.slice fp fl.length fcap] w fun e w'=>e=.returned (.bool true)∧Below w.heap.size w w':=by
 have HS:Hid (Scr w sp os∧Fls w fp fl):=⟨hs,hf⟩
 obtain ⟨n,hnn⟩:∃ n,n=os.length:=⟨_,rfl⟩
 obtain ⟨nf,hnnf⟩:∃ nf,nf=fl.length:=⟨_,rfl⟩
 have HN:Hid (n=os.length∧nf=fl.length):=⟨hnn,hnnf⟩
 rw [← hnn] at hn ⊢
 rw [← hnnf] at hnf ⊢
 clear hs hf hnn hnnf
 by_cases hgood:GoodNew p t∧GoodNew q u
 · have HG:Hid (GoodNew p t∧GoodNew q u):=hgood
   clear hgood
   go_enter Tryz.func4,Tryz.ntmps4
   go_wp2_with fail
   refine (alive_any w hg).mono ?_
   rintro e w1 ⟨rfl,hb1⟩
   have HB1:Hid _:=hb1
   clear hb1
   go_wp2_with fail
   refine (rnew_ok p t w1 HG.out.1).mono ?_
   rintro e w2 ⟨⟨rp,rfl⟩,hb2⟩
   have HB2:Hid (Below w.heap.size w w2):=HB1.out.trans (hb2.mono HB1.out.size)
   clear hb2
   go_wp2_with fail
   refine (rnew_ok q u w2 HG.out.2).mono ?_
   rintro e w2' ⟨⟨rp',rfl⟩,hb2⟩
   have HB2':Hid (Below w.heap.size w w2'):=HB2.out.trans (hb2.mono HB2.out.size)
   have hg2:Glo w2':=hg.bel HB2'.out
   clear hb2
   go_wp2_with fail
   refine (new_any p t w2' hg2 HG.out.1).mono ?_
   rintro e w3 ⟨K1,rfl,hk1,hf1,hb3⟩
   have HB3:Hid (KIm w3 im0 K1∧(∀ k,Foot im0 K1 k→w.heap.size≤k)∧Below w.heap.size w w3):=⟨hk1,fun k e=>Nat.le_trans HB2'.out.size (hf1 k e),HB2'.out.trans (hb3.mono HB2'.out.size)⟩
   have hg3:=hk1.glo
   clear hk1 hf1 hb3 hg hg2
   go_wp2_with fail
   refine (new_any q u w3 hg3 HG.out.2).mono ?_
   rintro e w4 ⟨K2,rfl,hk2,hf2,hb4⟩
   have h4:=two_new HB3.out.1 HB3.out.2.1 HB3.out.2.2 hk2 hf2 hb4
   obtain ⟨b1,hb1⟩:∃ b,b=K1.b:=⟨_,rfl⟩
   obtain ⟨b2,hb2⟩:∃ b,b=K2.b:=⟨_,rfl⟩
   rw [← hb1,← hb2] at h4 ⊢
   have H4:Hid _:=h4
   clear h4 hb1 hb2 hk2 hf2 hb4 hg3
   go_wp2_with fail
   refine (num_any 0 _).mono ?_
   rintro e w5 ⟨rfl,rfl⟩
   go_wp2_with fail
   refine (num_any 0 _).mono ?_
   rintro e w6 ⟨rfl,rfl⟩
   go_wp2
   go_loopw [22] (fun i wr=>∃ k:Nat,i=.int .i64 k∧k≤n∧∃ m K1 K2,Two w wr b1 b2 m m K1 K2) (fun i _=>n - (intOf i).toNat)
   case atStart=>exact ⟨0,rfl,by omega,im0,K1,K2,H4.out⟩
   case round =>
    obtain ⟨k,rfl,hk,m,L1,L2,htwo⟩:=hrel
    have HT:Hid _:=htwo
    by_cases hkn:k < n
    · obtain ⟨o,ho⟩:∃ o,os[k]?=some o:=⟨_,List.getElem?_eq_getElem (by rw [← HN.out.1];exact hkn)⟩
      have hne:os≠[]:=fun e=>by rw [e] at ho;cases ho
      obtain ⟨sb,so,hsp,hsl,hget⟩:=HS.out.1.at_ hne
      have hok:=HS.out.1.ok o (List.mem_of_getElem? ho)
      have q:=hget k o ho
      have hbl:=htwo.a1.bel
      have hsk:∀ x,wr.cell? ⟨sb,x,none⟩=w.cell? ⟨sb,x,none⟩:=fun x=>hbl.cell (p:=⟨sb,x,none⟩) hsl
      simp only [← hsk] at q
      have hadd:(⟨sb,so,none⟩:Addr).add (k*9)=⟨sb,so+k*9,none⟩:=add_plain _ _ _
      have hca:=htwo.a1.call hok
      unfold Kn.POp.val at hca
      subst hsp
      have HQ:Hid (os[k]?=some o∧OpOk w o∧sb < w.heap.size):=⟨ho,hok,hsl⟩
      have HK:Hid _:=hget k o ho
      clear htwo ho hne hget hok hsk hbl
      have hki:(k:Int) < (n:Int):=by omega
      have hni:(n:Int)≤140737488355328:=by omega
      go_wp2_with fail
      refine hca.mono ?_
      rintro e wa ⟨d,m1,L3,rfl,hres,hst⟩
      have H5:Hid (Two w wa b1 b2 m1 m L3 L2∧CallRes m o d m1):=⟨HT.out.step hst,hres⟩
      clear hca hst hres q
      unfold Kn.Sd.val
      obtain ⟨vo,hvo⟩:∃ x,x=d.v.obj:=⟨_,rfl⟩
      obtain ⟨vn,hvn⟩:∃ x,x=d.v.n:=⟨_,rfl⟩
      obtain ⟨ds,hds⟩:∃ x,x=d.s:=⟨_,rfl⟩
      obtain ⟨dn,hdn⟩:∃ x,x=d.n:=⟨_,rfl⟩
      obtain ⟨de,hde⟩:∃ x,x=d.e:=⟨_,rfl⟩
      obtain ⟨dk,hdk⟩:∃ x,x=d.k:=⟨_,rfl⟩
      rw [← hvo,← hvn,← hds,← hdn,← hde,← hdk]
      have HD:Hid (vo=d.v.obj∧vn=d.v.n∧ds=d.s∧dn=d.n∧de=d.e∧dk=d.k):=⟨hvo,hvn,hds,hdn,hde,hdk⟩
      clear hvo hvn hds hdn hde hdk
      obtain ⟨wb,hwb⟩:∃ wb,wb=wa.alloc (.cells #[.bool vo,.int .i64 vn,.string ds,.int .i64 dn,.int .i64 de,.int .i64 dk] 42):=⟨_,rfl⟩
      obtain ⟨z,hz⟩:∃ z,z=wa.heap.size:=⟨_,rfl⟩
      have hB:Below wa.heap.size wa wb:=by rw [hwb];exact below1 _ _
      have hzb:wb.heap[z]?=some (.cells #[.bool vo,.int .i64 vn,.string ds,.int .i64 dn,.int .i64 de,.int .i64 dk] 42):=by rw [hwb,hz];exact (MapKept.heap_alloc _ _).1
      have hzf:¬ Foot m L2 z:=fun e=>by have:=H5.out.1.a2.kim.lt e;omega
      have H6:Hid (Two w wb b1 b2 m1 m L3 L2∧wb.heap[z]?=some (.cells #[.bool vo,.int .i64 vn,.string ds,.int .i64 dn,.int .i64 de,.int .i64 dk] 42)∧¬ Foot m L2 z):=⟨H5.out.1.below hB,hzb,hzf⟩
      clear hB hzb hzf
      by_cases hkf:k < nf
      case' pos =>
       obtain ⟨fs,hfs⟩:∃ s,fl[k]?=some s:=⟨_,List.getElem?_eq_getElem (by rw [← HN.out.2];exact hkf)⟩
       have hne:fl≠[]:=fun e=>by rw [e] at hfs;cases hfs
       obtain ⟨fb,fo,hfp,hfl,hfget⟩:=HS.out.2.at_ hne
       have fq:wb.cell? ⟨fb,fo+k,none⟩=some (.string fs):=(H6.out.1.a1.bel.cell (p:=⟨fb,fo+k,none⟩) hfl).trans (hfget k fs hfs)
       have hfa:(⟨fb,fo,none⟩:Addr).add k=⟨fb,fo+k,none⟩:=add_plain _ _ _
       have hfa1:(⟨fb,fo,none⟩:Addr).add (k*1)=⟨fb,fo+k,none⟩:=by rw [Nat.mul_one];exact hfa
       have hflu:=H6.out.1.a2.flush fs (HS.out.2.ok fs (List.mem_of_getElem? hfs))
       subst hfp
       clear hfget hne hfs hfl
       have hkfi:(k:Int) < (nf:Int):=by omega
       have hnfi:(nf:Int)≤140737488355328:=by omega
       rw [hwb] at fq
       go_wp2_with fail
       rw [← hwb,← hz]
       refine hflu.mono ?_
       rintro e wd ⟨⟨nn,rfl⟩,L5,hst⟩
       have hzd:=(hst.chg.block z (Array.getElem?_eq_some_iff.1 H6.out.2.1).1 H6.out.2.2).trans H6.out.2.1
       have hnz:¬ Foot m L5 z:=fun e=>by
        rcases hst.foot z e with e | e
        · exact H6.out.2.2 e
        · have:=(Array.getElem?_eq_some_iff.1 H6.out.2.1).1;omega
       have H7:Hid (Two w wd b1 b2 m1 m L3 L5∧wd.heap[z]?=some (.cells #[.bool vo,.int .i64 vn,.string ds,.int .i64 dn,.int .i64 de,.int .i64 dk] 42)∧¬ Foot m L5 z):=⟨(H6.out.1.swap.step hst).swap,hzd,hnz⟩
       have q:=HK.out
       have hsk:∀ x,wd.cell? ⟨sb,x,none⟩=w.cell? ⟨sb,x,none⟩:=fun x=>H7.out.1.a1.bel.cell (p:=⟨sb,x,none⟩) HQ.out.2.2
       simp only [← hsk] at q
       clear hwb hz hflu fq hst hzd hnz hsk
       go_wp2_with fail
      case' neg =>
       have hkfi:¬ (k:Int) < (nf:Int):=by omega
       have q:=HK.out
       have hsk:∀ x,wb.cell? ⟨sb,x,none⟩=w.cell? ⟨sb,x,none⟩:=fun x=>H6.out.1.a1.bel.cell (p:=⟨sb,x,none⟩) HQ.out.2.2
       simp only [← hsk] at q
       rw [hwb] at q
       clear hsk
       go_wp2_with fail
       rw [← hwb,← hz]
       obtain ⟨wd,hwd⟩:∃ wd,wd=wb:=⟨_,rfl⟩
       obtain ⟨L5,hL5⟩:∃ L5,L5=L2:=⟨_,rfl⟩
       have H7:Hid (Two w wd b1 b2 m1 m L3 L5∧wd.heap[z]?=some (.cells #[.bool vo,.int .i64 vn,.string ds,.int .i64 dn,.int .i64 de,.int .i64 dk] 42)∧¬ Foot m L5 z):=by rw [hwd,hL5];exact H6.out
       rw [← hwd]
       clear hwb hz hwd hL5
      all_goals
       have hca:=H7.out.1.a2.call HQ.out.2.1
       unfold Kn.POp.val at hca
       refine hca.mono ?_
       rintro e wc ⟨d2,m2,L4,rfl,hres2,hst2⟩
       have hz6:=(hst2.chg.block z (Array.getElem?_eq_some_iff.1 H7.out.2.1).1 H7.out.2.2).trans H7.out.2.1
       obtain ⟨rfl,rfl⟩:=callRes_one H5.out.2 hres2
       have H8:Hid (Two w wc b1 b2 m1 m1 L3 L4):=(H7.out.1.swap.step hst2).swap
       unfold Kn.Sd.val
       rw [← HD.out.1,← HD.out.2.1,← HD.out.2.2.1,← HD.out.2.2.2.1,← HD.out.2.2.2.2.1,← HD.out.2.2.2.2.2]
       have hzl:=(Array.getElem?_eq_some_iff.1 hz6).1
       have c0:wc.cell? ⟨z,0,none⟩=some (.bool vo):=by simp only [World.cell?,hz6];rfl
       have c1:wc.cell? ⟨z,1,none⟩=some (.int .i64 vn):=by simp only [World.cell?,hz6];rfl
       have c2:wc.cell? ⟨z,2,none⟩=some (.string ds):=by simp only [World.cell?,hz6];rfl
       have c3:wc.cell? ⟨z,3,none⟩=some (.int .i64 dn):=by simp only [World.cell?,hz6];rfl
       have c4:wc.cell? ⟨z,4,none⟩=some (.int .i64 de):=by simp only [World.cell?,hz6];rfl
       have c5:wc.cell? ⟨z,5,none⟩=some (.int .i64 dk):=by simp only [World.cell?,hz6];rfl
       clear hca hst2 hres2 q hz6
       go_wp2
       go_roundw
       case rel=>exact ⟨k+1,by go_num,by omega,m1,L3,L4,H8.out.below (below1 _ _)⟩
       case measure=>simp [intOf] <;> omega
    · obtain rfl:k=n:=by omega
      clear htwo
      go_wp2
      go_ret
      exact ⟨rfl,HT.out.a1.bel⟩
 · obtain ⟨f,hf⟩:∃ f:Int,GoodNew p t∧f=0∨¬ GoodNew p t∧f=1:=by
    by_cases h:GoodNew p t
    · exact ⟨0,.inl ⟨h,rfl⟩⟩
    · exact ⟨1,.inr ⟨h,rfl⟩⟩
   obtain ⟨g,hg'⟩:∃ g:Int,GoodNew q u∧g=0∨¬ GoodNew q u∧g=1:=by
    by_cases h:GoodNew q u
    · exact ⟨0,.inl ⟨h,rfl⟩⟩
    · exact ⟨1,.inr ⟨h,rfl⟩⟩
   have HF:Hid ((GoodNew p t∧f=0∨¬ GoodNew p t∧f=1)∧(GoodNew q u∧g=0∨¬ GoodNew q u∧g=1)):=⟨hf,hg'⟩
   have hfg:f≠0∨g≠0:=by
    rcases hf with ⟨h1,rfl⟩ | ⟨h1,rfl⟩
    · rcases hg' with ⟨h2,rfl⟩ | ⟨h2,rfl⟩
      · exact absurd ⟨h1,h2⟩ hgood
      · exact .inr (by decide)
    · exact .inl (by decide)
   clear hf hg' hgood
   go_enter Tryz.func4,Tryz.ntmps4
   go_wp2_with fail
   refine (alive_any w hg).mono ?_
   rintro e w1 ⟨rfl,hb1⟩
   have HB1:Hid _:=hb1
   clear hb1
   go_wp2_with fail
   refine (rnew_b p t w1 f HF.out.1).mono ?_
   rintro e w2 ⟨⟨p2,rfl⟩,hb2⟩
   have HB2:Hid (Below w.heap.size w w2):=HB1.out.trans (hb2.mono HB1.out.size)
   clear hb2
   go_wp2_with fail
   refine (rnew_b q u w2 g HF.out.2).mono ?_
   rintro e w3 ⟨⟨p3,rfl⟩,hb3⟩
   have HB3:Hid (Below w.heap.size w w3):=HB2.out.trans (hb3.mono HB2.out.size)
   have hg3:=hg.bel HB3.out
   clear hb3
   go_wp2_with fail
   refine (knew_b p t w3 hg3 f HF.out.1).mono ?_
   rintro e w4 ⟨⟨p4,rfl⟩,hb4⟩
   have HB4:Hid (Below w.heap.size w w4):=HB3.out.trans (hb4.mono HB3.out.size)
   have hg4:=hg.bel HB4.out
   clear hb4 hg3
   go_wp2_with fail
   refine (knew_b q u w4 hg4 g HF.out.2).mono ?_
   rintro e w5 ⟨⟨p5,rfl⟩,hb5⟩
   have HB5:Hid (Below w.heap.size w w5):=HB4.out.trans (hb5.mono HB4.out.size)
   clear hb5 hg4 hg
   go_wp2_with fail
   refine (num_any f _).mono ?_
   rintro e w6 ⟨rfl,rfl⟩
   go_wp2_with fail
   refine (num_any g _).mono ?_
   rintro e w7 ⟨rfl,rfl⟩
   by_cases hf0:f=0
   · have hg0:¬ g=0:=by rcases hfg with h | h;exact absurd hf0 h;exact h
     subst hf0
     clear hfg
     go_wp2
     go_ret
     exact ⟨rfl,HB5.out⟩
   · clear hfg
     go_wp2
     go_ret
     exact ⟨rfl,HB5.out⟩
end Go.Proofs.YtkghmgoefiepeaaGreatDoor.reads
namespace Go.Proofs.YtkghmgoefiepeaaGreatDoor.reads
open Go.ChangeShapes Go.WideShapes Go.ChangeAt Go.RowKit Kn Go.Proofs.YtkghmgoefiepeaaGreatDoor.img Go.Deep
instance:Inhabited Vl:=⟨Vl.zero⟩
instance:Inhabited POp:=⟨⟨0,⟨#[]⟩,⟨#[]⟩,⟨#[]⟩,0,0,Vl.zero,none,0,[],0⟩⟩
section
variable {H : Type} {enc : TypeId × Value → H} {w : World}
theorem cells_str:Tryz.prog.cellsOf 9=1:=by kernel_rfl
theorem cells_val:Tryz.prog.cellsOf 33=2:=by kernel_rfl
theorem cells_vals:Tryz.prog.cellsOf 34=1:=by kernel_rfl
theorem cells_op:Tryz.prog.cellsOf 36=9:=by kernel_rfl
theorem i64_wf {a:Int} (h:(Lit.int IntKind.i64 a).wf=true):isI64 a:=by
 simp only [Lit.wf,Bool.and_eq_true,decide_eq_true_eq] at h
 exact ⟨h.1,h.2⟩
theorem list_two {l:List Value} (h:l.length=2):∃ a b,l=[a,b]:=by
 rcases l with _ | ⟨a,_ | ⟨b,_ | ⟨c,r⟩⟩⟩ <;> simp at h
 exact ⟨a,b,rfl⟩
theorem list_nine {l:List Value} (h:l.length=9):∃ a0 a1 a2 a3 a4 a5 a6 a7 a8,l=[a0,a1,a2,a3,a4,a5,a6,a7,a8]:=by
 rcases l with _ | ⟨a0,_ | ⟨a1,_ | ⟨a2,_ | ⟨a3,_ | ⟨a4,_ | ⟨a5,_ | ⟨a6,_ | ⟨a7,_ | ⟨a8,_ | ⟨a9,r⟩⟩⟩⟩⟩⟩⟩⟩⟩⟩ <;> simp at h
 exact ⟨a0,a1,a2,a3,a4,a5,a6,a7,a8,rfl⟩
theorem open_vl {n:Nat}{cs:List Value}{x:DataW H×List MemPlace} (h:DataW.trod enc Tryz.prog w 0 (fun _=>true) true n 33 cs=some x):∃ v:Vl,cs=[.bool v.obj,.int .i64 v.n]∧isI64 v.n:=by
 obtain ⟨xs,n1,rfl,rfl,hl,hxs,hf⟩:=DataW.trod_struct Tryz.underlying33 h
 rw [cells_val] at hl
 obtain ⟨a,b,rfl⟩:=list_two hl
 have f0:=hf 0 _ rfl
 have f1:=hf 1 _ rfl
 simp only [List.size_toArray,List.length_cons,List.length_nil] at hxs
 rw [List.getElem?_eq_getElem (by omega)] at f0 f1
 obtain ⟨bo,e0,_⟩:=DataW.trod_bool Tryz.underlying4 f0
 obtain ⟨m,e1,_,hw⟩:=DataW.trod_int Tryz.underlying3 f1
 simp [cells_int,cells_bool] at e0 e1
 exact ⟨⟨bo,m⟩,by rw [e0,e1],i64_wf hw⟩
theorem open_vls {n:Nat}{cs:List Value}{x:DataW H×List MemPlace} (h:DataW.trod enc Tryz.prog w 0 (fun _=>true) true n 34 cs=some x):∃ (ap:Option Addr) (cap:Nat) (args:List Vl) (ab:Nat),cs=[.slice ap args.length cap]∧ArgsAt w (.slice ap args.length cap) args ab∧(args≠[]→ab < w.heap.size)∧∀ v∈args,isI64 v.n:=by
 rcases open_slice Tryz.underlying34 h with ⟨rfl,rfl⟩ | ⟨a,len,cap,m,n1,D,Pl,rfl,hb,hl,hm,hmm,rfl,hx⟩
 · exact ⟨none,0,[],0,rfl,⟨none,0,rfl,fun e=>absurd rfl e⟩,fun e=>absurd rfl e,fun v hv=>(List.not_mem_nil hv).elim⟩
 · simp only [if_true] at hmm
   subst hmm
   have each:∀ i,i < len→∃ v:Vl,w.cell? (a.add (i*2))=some (.bool v.obj)∧w.cell? (a.add (i*2+1))=some (.int .i64 v.n)∧isI64 v.n:=fun i hi=>by
    obtain ⟨cs',h1,h2⟩:=hx i (by omega)
    obtain ⟨v,rfl,hv⟩:=open_vl h2
    rw [cells_val] at h1
    obtain ⟨_,_,h3⟩:=World.cells?_some h1
    refine ⟨v,?_,?_,hv⟩
    · have:=h3 0 (by omega)
      rw [add_add,Nat.add_zero] at this
      exact this
    · have:=h3 1 (by omega)
      rw [add_add] at this
      exact this
   obtain ⟨V,hV⟩:=choose_lt (α:=Vl) (p:=fun i v=>w.cell? (a.add (i*2))=some (.bool v.obj)∧w.cell? (a.add (i*2+1))=some (.int .i64 v.n)∧isI64 v.n) each
   have hlen:((List.range len).map V).length=len:=by simp
   refine ⟨some a,m,(List.range len).map V,a.block,by rw [hlen],⟨some a,m,rfl,fun _=>⟨a,rfl,rfl,fun j u hu=>?_⟩⟩,fun hne=>?_,fun v hv=>?_⟩
   · have hj:=(List.getElem?_eq_some_iff.1 hu).1
     rw [vcs_len,hlen] at hj
     obtain ⟨i,hji⟩:∃ i,j=i*2∨j=i*2+1:=⟨j / 2,by omega⟩
     have hi:i < len:=by omega
     have hg:((List.range len).map V)[i]?=some (V i):=by simp [hi]
     obtain ⟨g1,g2⟩:=vcs_get _ _ _ hg
     obtain ⟨e1,e2,_⟩:=hV i hi
     rcases hji with rfl | rfl
     · rw [g1] at hu
       rw [← hu]
       exact e1
     · rw [g2] at hu
       rw [← hu]
       exact e2
   · have h0:0 < len:=by
      cases len with
      | zero=>simp at hne
      | succ k=>omega
     have:=World.block_lt_of_cell? w _ (hV 0 h0).1
     rw [Addr.add_block] at this
     exact this
   · obtain ⟨i,hi,rfl⟩:=List.mem_map.1 hv
     exact (hV i (List.mem_range.1 hi)).2.2
theorem open_op {n:Nat}{cs:List Value}{x:DataW H×List MemPlace} (h:DataW.trod enc Tryz.prog w 0 (fun _=>true) true n 36 cs=some x) :
 ∃ o:POp,cs=[.int .i64 o.kind,.string o.s,.string o.t,.string o.u,.int .i64 o.n,.int .i64 o.k,.bool o.to.obj,.int .i64 o.to.n,.slice o.ap o.args.length o.cap]∧isI64 o.to.n∧ArgsAt w (.slice o.ap o.args.length o.cap) o.args o.ab∧(o.args≠[]→o.ab < w.heap.size)∧(∀ v∈o.args,isI64 v.n) ∧
  ∀ k,k=o.s.size∨k=o.t.size∨k=o.u.size→k∈x.1.weights Tryz.prog 36:=by
 obtain ⟨xs,n1,rfl,rfl,hl,hxs,hf⟩:=DataW.trod_struct Tryz.underlying36 h
 rw [cells_op] at hl
 obtain ⟨a0,a1,a2,a3,a4,a5,a6,a7,a8,rfl⟩:=list_nine hl
 have f0:=hf 0 _ rfl
 have f1:=hf 1 _ rfl
 have f2:=hf 2 _ rfl
 have f3:=hf 3 _ rfl
 have f4:=hf 4 _ rfl
 have f5:=hf 5 _ rfl
 have f6:=hf 6 _ rfl
 have f7:=hf 7 _ rfl
 simp only [List.size_toArray,List.length_cons,List.length_nil] at hxs
 have g1:xs[1]?=some xs[1]:=List.getElem?_eq_getElem (by omega)
 have g2:xs[2]?=some xs[2]:=List.getElem?_eq_getElem (by omega)
 have g3:xs[3]?=some xs[3]:=List.getElem?_eq_getElem (by omega)
 rw [List.getElem?_eq_getElem (by omega)] at f0 f1 f2 f3 f4 f5 f6 f7
 obtain ⟨k0,e0,_,_⟩:=DataW.trod_int Tryz.underlying3 f0
 obtain ⟨s1,e1,d1,_⟩:=DataW.trod_string Tryz.underlying9 f1
 obtain ⟨s2,e2,d2,_⟩:=DataW.trod_string Tryz.underlying9 f2
 obtain ⟨s3,e3,d3,_⟩:=DataW.trod_string Tryz.underlying9 f3
 obtain ⟨k4,e4,_,_⟩:=DataW.trod_int Tryz.underlying3 f4
 obtain ⟨k5,e5,_,_⟩:=DataW.trod_int Tryz.underlying3 f5
 obtain ⟨v,e6,hv⟩:=open_vl f6
 obtain ⟨ap,cap,args,ab,e7,h7,h8,h9⟩:=open_vls f7
 simp [cells_int,cells_str,cells_val,cells_vals] at e0 e1 e2 e3 e4 e5 e6 e7
 refine ⟨⟨k0,s1,s2,s3,k4,k5,v,ap,cap,args,ab⟩,by rw [e0,e1,e2,e3,e4,e5,e6.1,e6.2,e7],hv,h7,h8,h9,?_⟩
 have key:∀ (j:Nat) (s:ByteArray) (y:DataW H×List MemPlace) (t:TypeId),xs[j]?=some y→y=(.lit (.string s.data.toList),[])→[3,9,9,9,3,3,33,34][j]?=some t→s.size∈(DataW.agg (xs.map (·.1))).weights Tryz.prog 36:=fun j s y t hy e ht=>by
  simp only [DataW.weights,Tryz.underlying36]
  refine DataW.weights_mem_each (j:=j) (t:=t) (d:=y.1) ht (by rw [List.getElem?_map,hy];rfl) _ ?_
  rw [e]
  simp only [DataW.weights,List.mem_singleton,Array.length_toList]
  rfl
 rintro k (rfl | rfl | rfl)
 · exact key 1 s1 _ _ g1 d1 rfl
 · exact key 2 s2 _ _ g2 d2 rfl
 · exact key 3 s3 _ _ g3 d3 rfl
theorem weights_all {P:Program}{e:TypeId}{d:DataW H}:∀ {l:List (DataW H)},d∈l→∀ k∈d.weights P e,k∈DataW.weightsAll P e l
 | a::l,hd,k,hk=>by
  simp only [DataW.weightsAll,List.mem_append]
  rcases List.mem_cons.1 hd with e | e
  · subst e;exact .inl hk
  · exact .inr (weights_all e k hk)
theorem open_scr {v:Value}{d:DataW H}{ps:List MemPlace} (h:DataW.Trod enc Tryz.prog w 0 (fun _=>true) true 22 v d ps) (hv:∃ a len cap,v=.slice a len cap) (hz:∀ k∈d.weights Tryz.prog 22,k≤reachBytes) :
 ∃ (sp:Option Addr) (cap:Nat) (os:List POp),v=.slice sp os.length cap∧Scr w sp os∧os.length≤140737488355328:=by
 obtain ⟨a0,len0,cap0,rfl⟩:=hv
 obtain ⟨fuel,hf⟩:=h
 have hr:=reachBytes_lt
 rcases open_slice Tryz.underlying22 hf with ⟨hcs,hx⟩ | ⟨a,len,cap,m,n1,D,Pl,hcs,hb,hl,hm,hmm,hxx,hx⟩
 · simp [Value.cells] at hcs
   obtain ⟨rfl,rfl,rfl⟩:=hcs
   exact ⟨none,0,[],rfl,⟨fun e=>absurd rfl e,fun o ho=>(List.not_mem_nil ho).elim⟩,by simp⟩
 · simp [Value.cells] at hcs
   obtain ⟨rfl,rfl,rfl⟩:=hcs
   simp only [if_true] at hmm
   subst hmm
   have hd:d=.slice ((List.range len0).map D) ((List.range (m - len0)).map fun j=>D (len0+j)):=congrArg Prod.fst hxx
   have each:∀ i,i < len0→∃ o:POp,(w.cells? 0 (a.add (i*9)) 9=some [.int .i64 o.kind,.string o.s,.string o.t,.string o.u,.int .i64 o.n,.int .i64 o.k,.bool o.to.obj,.int .i64 o.to.n,.slice o.ap o.args.length o.cap])∧OpOk w o:=fun i hi=>by
    obtain ⟨cs',h1,h2⟩:=hx i (by omega)
    obtain ⟨o,rfl,h3,h4,h5,h6,h7⟩:=open_op h2
    rw [cells_op] at h1
    have hw:∀ k,k=o.s.size∨k=o.t.size∨k=o.u.size→k≤140737488355328:=fun k hk=>by
     have:=hz k (by
      rw [hd]
      simp only [DataW.weights,Tryz.underlying22,List.mem_cons,List.mem_append]
      exact .inr (.inl (weights_all (List.mem_map.2 ⟨i,List.mem_range.2 hi,rfl⟩) k (h7 k hk))))
     omega
    exact ⟨o,h1,⟨hw _ (.inl rfl),hw _ (.inr (.inl rfl)),hw _ (.inr (.inr rfl)),h3,h4,h5,h6⟩⟩
   obtain ⟨O,hO⟩:=choose_lt (α:=POp) (p:=fun i o=>(w.cells? 0 (a.add (i*9)) 9=some [.int .i64 o.kind,.string o.s,.string o.t,.string o.u,.int .i64 o.n,.int .i64 o.k,.bool o.to.obj,.int .i64 o.to.n,.slice o.ap o.args.length o.cap])∧OpOk w o) each
   have hlen:((List.range len0).map O).length=len0:=by simp
   refine ⟨some a,m,(List.range len0).map O,by rw [hlen],⟨fun hne=>?_,fun o ho=>?_⟩,?_⟩
   · have h0:0 < len0:=by
      cases len0 with
      | zero=>simp at hne
      | succ k=>omega
     have hc:=fun i (hi:i < len0)=>(World.cells?_some (hO i hi).1).2.2
     have hp:=cell_plain ((hc 0 h0 0 (by omega)).trans rfl)
     simp only [Nat.zero_mul,Addr.add,if_true] at hp
     refine ⟨a.block,a.off,by rw [← hp],?_,fun i o ho=>?_⟩
     · have:=World.block_lt_of_cell? w _ ((hc 0 h0 0 (by omega)).trans rfl)
       rw [Addr.add_block,Addr.add_block] at this
       exact this
     · have hi:i < len0:=by have:=(List.getElem?_eq_some_iff.1 ho).1;rw [hlen] at this;exact this
       have ho':O i=o:=by simp [hi] at ho;exact ho
       have hq:∀ k (hk:k < 9),w.cell? ⟨a.block,a.off+i*9+k,none⟩=([.int .i64 (O i).kind,.string (O i).s,.string (O i).t,.string (O i).u,.int .i64 (O i).n,.int .i64 (O i).k,.bool (O i).to.obj,.int .i64 (O i).to.n,.slice (O i).ap (O i).args.length (O i).cap]:List Value)[k]?:=fun k hk=>by
        have:=hc i hi k hk
        rw [add_add] at this
        rw [hp,add_plain,← Nat.add_assoc] at this
        exact this
       rw [← ho']
       exact ⟨hq 0 (by omega),hq 1 (by omega),hq 2 (by omega),hq 3 (by omega),hq 4 (by omega),hq 5 (by omega),hq 6 (by omega),hq 7 (by omega),hq 8 (by omega)⟩
   · obtain ⟨i,hi,rfl⟩:=List.mem_map.1 ho
     exact (hO i (List.mem_range.1 hi)).2
   · rw [hlen]
     have:=hz ((len0+(m - len0))*Tryz.prog.bytesOf 36) (by
      rw [hd]
      simp [DataW.weights,Tryz.underlying22])
     have hb1:1≤Tryz.prog.bytesOf 36:=of_decide_eq_true (by kernel_rfl)
     have hm1:(len0+(m - len0))*1≤(len0+(m - len0))*Tryz.prog.bytesOf 36:=Nat.mul_le_mul_left _ hb1
     omega
theorem open_fls {v:Value}{d:DataW H}{ps:List MemPlace} (h:DataW.Trod enc Tryz.prog w 0 (fun _=>true) true 39 v d ps) (hv:∃ a len cap,v=.slice a len cap) (hz:∀ k∈d.weights Tryz.prog 39,k≤reachBytes) :
 ∃ (fp:Option Addr) (cap:Nat) (fl:List ByteArray),v=.slice fp fl.length cap∧Fls w fp fl∧fl.length≤140737488355328:=by
 obtain ⟨a0,len0,cap0,rfl⟩:=hv
 obtain ⟨fuel,hf⟩:=h
 have hr:=reachBytes_lt
 rcases open_strings Tryz.underlying39 Tryz.underlying9 cells_str hf with ⟨hcs,hx⟩ | ⟨a,len,cap,ss,hcs,hb,hl,hm,hmm,hxx,hc,_⟩
 · simp [Value.cells] at hcs
   obtain ⟨rfl,rfl,rfl⟩:=hcs
   exact ⟨none,0,[],rfl,⟨fun e=>absurd rfl e,fun o ho=>(List.not_mem_nil ho).elim⟩,by simp⟩
 · simp [Value.cells] at hcs
   obtain ⟨rfl,rfl,rfl⟩:=hcs
   simp only [if_true] at hmm
   have hd:d=.slice (strs (ss.take len0)) (strs (ss.drop len0)):=congrArg Prod.fst hxx
   have hlen:(ss.take len0).length=len0:=by rw [List.length_take];omega
   refine ⟨some a,cap0,ss.take len0,by rw [hlen],⟨fun hne=>?_,fun s hs=>?_⟩,?_⟩
   · have h0:0 < len0:=by
      cases len0 with
      | zero=>simp at hne
      | succ k=>omega
     have h1:=hc 0 (by omega)
     have hp:=cell_plain h1
     simp only [Addr.add,if_true] at hp
     refine ⟨a.block,a.off,by rw [← hp],?_,fun i s hs=>?_⟩
     · have:=World.block_lt_of_cell? w _ h1
       rw [Addr.add_block] at this
       exact this
     · have hi:i < len0:=by have:=(List.getElem?_eq_some_iff.1 hs).1;rw [hlen] at this;exact this
       have h2:=hc i (by omega)
       rw [hp,add_plain] at h2
       rw [h2]
       rw [List.getElem?_take,if_pos hi] at hs
       rw [List.getD,hs]
       rfl
   · have:=hz s.size (by
      rw [hd]
      simp only [DataW.weights,Tryz.underlying39,List.mem_cons,List.mem_append]
      refine .inr (.inl (weights_all (List.mem_map.2 ⟨s,hs,rfl⟩) _ ?_))
      simp only [DataW.weights,List.mem_singleton,Array.length_toList]
      rfl)
     omega
   · rw [hlen]
     have:=hz (((strs (H:=H) (ss.take len0)).length+(strs (H:=H) (ss.drop len0)).length)*Tryz.prog.bytesOf 9) (by
      rw [hd]
      simp [DataW.weights,Tryz.underlying39])
     have hb1:1≤Tryz.prog.bytesOf 9:=of_decide_eq_true (by kernel_rfl)
     have hs1:(strs (H:=H) (ss.take len0)).length=len0:=by unfold strs;rw [List.length_map,hlen]
     rw [hs1] at this
     have hm1:(len0+(strs (H:=H) (ss.drop len0)).length)*1≤(len0+(strs (H:=H) (ss.drop len0)).length)*Tryz.prog.bytesOf 9:=Nat.mul_le_mul_left _ hb1
     omega
end
end Go.Proofs.YtkghmgoefiepeaaGreatDoor.reads
