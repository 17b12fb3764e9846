import Derived.Deep.RegionLaw
import Derived.KernelRfl
import Derived.Test.YtkghmgoefiepeaaGreatDoorH
set_option linter.unusedSimpArgs false
set_option linter.unusedVariables false
set_option maxHeartbeats 4000000
set_option maxRecDepth 100000
namespace Go.Proofs.Rz
open ChangeShapes WideShapes ChangeAt RowKit Kn Iz Tryz
variable {m : Im}
variable {K : Kd}
theorem aey {w W w1:World}(h:Ud w m K){c n:Nat}(hc:c<m.kl.length)(hn:n=m.obs.length){g cap':Nat}{sl:List Vl}(hm':U3 {m with obs:=m.obs++[⟨c,sl⟩]})
 (FR:Below w.heap.size w W) (lA:W.heap.size=w.heap.size+3) (hsl:W.heap[w.heap.size+1]?=some (.cells (vcs sl).toArray 33))
 (hown:w1.ownsRow 0 105 2 (.slice (some (VJ g 0)) (n+1) cap') (n+1) (ER K.cb K.ob 0 m.obs++[VG (K.cb c),.slice (some (VJ (w.heap.size+1) 0)) sl.length sl.length]))
 (hg:W.grownBy w1 K.ov.ownBlock) (hat:K.ov.ownBlock=some g\/g=w.heap.size+3) (hgl:g<w1.heap.size) (v0 v1:Value):
 ∃K',Step w (((w1.setCell (VJ K.b 1) (.slice (some (VJ g 0)) (n+1) cap')).setCell (VJ w.heap.size 0) v0).setCell (VJ w.heap.size 1) v1) m K {m with obs:=m.obs++[⟨c,sl⟩]} K':=by
 subst hn;have hbl:=h.Uc.tab.Vb.lt
 have R9:∀k,KF K.ob K.ov m.obs.length k->k<w.heap.size/\k≠K.b:=λk e=>⟨h.obs.lt e,λe'=>by
  obtain⟨cur,V_⟩:=h.Uc.img;obtain⟨cs,hcs⟩:=h.obs.kind e;rw[e',V_]at hcs
  rcases hcs with hcs|hcs<;>(injection hcs with hcs;injection hcs with _ hcs _;revert hcs;decide)⟩
 have Q0:some K.b≠K.ov.ownBlock:=λe=>(R9 K.b tN).2 rfl
 have hgb:g≠K.b:=λe=>by
  rcases hat with e1|e1
  . exact(R9 g (.inl e1)).2 e
  . omega
 have pe:g≠w.heap.size:=λe=>by
  rcases hat with e1|e1
  . have:=(R9 g (.inl e1)).1;omega
  . omega
 have Ra:∀i o,m.obs[i]?=some o->some (K.ob i)≠K.ov.ownBlock:=λi o ho e=>by
  have h1:=h.obs.at_ i o ho;rcases h.obs.own.2 with⟨e1,_⟩|⟨g',cap,cur,e1,h2,h3,h4⟩
  . rw[e1]at e;cases e
  . rw[e1]at e;simp[Value.ownBlock]at e;rw[e,h3]at h1;exact acw
 obtain⟨X,hX⟩:∃X,X=((w1.setCell (VJ K.b 1) (.slice (some (VJ g 0)) (m.obs.length+1) cap')).setCell (VJ w.heap.size 0) v0).setCell (VJ w.heap.size 1) v1:=Vx;rw[<- hX]
 have gx:∀k,k≠K.b->k≠w.heap.size->X.heap[k]?=w1.heap[k]?:=λk e1 e2=>by
  rw[hX,ZW _ _ _ _ e2,ZW _ _ _ _ e2,ZW _ _ _ _ e1]
 have hX1:∀k,k<w.heap.size->k≠K.b->some k≠K.ov.ownBlock->X.heap[k]?=w.heap[k]?:=λk e1 e2 e3=>(gx k e2 VH).trans ((hg.block k VH e3).trans (FR.block k e1));have hsz:X.heap.size=w1.heap.size:=by rw[hX];simp[World.setCell]
 have hs1:=hg.size
 have hoc:ER K.cb (λi=>if i=m.obs.length then w.heap.size+1 else K.ob i) 0 (m.obs++[⟨c,sl⟩])=ER K.cb K.ob 0 m.obs++[VG (K.cb c),.slice (some (VJ (w.heap.size+1) 0)) sl.length sl.length]:=by
  rw[qE,Kv (cb:=K.cb) (ob:=K.ob) m.obs m.obs 0 rfl (λi o o' ho ho'=>by
   rw[ho]at ho';injection ho' with ho';subst ho';have:=(Z7.1 ho).1
   exact⟨rfl,ZX VH,rfl⟩)]
  simp
 have lR:OQ X K.cb (λi=>if i=m.obs.length then w.heap.size+1 else K.ob i) (.slice (some (VJ g 0)) (m.obs.length+1) cap') (m.obs++[⟨c,sl⟩]):=by
  refine⟨?_,λi o ho=>?_,λi j hi hj e=>?_,λe=>sH⟩
  . rw[hoc,Zw];refine⟨hown.1,?_⟩;rcases hown.2 with⟨e1,_⟩|⟨g',cap2,cur,e1,h2,h3,h4⟩
    . cases e1
    . refine .inr ⟨g',cap2,cur,e1,h2,?_,h4⟩;have:g'=g:=by injection e1 with e1 _ _;injection e1 with e1;injection e1 with e1 _ _;exact e1.symm
      rw[this,gx g hgb pe,<- this];exact h3
  . by_cases hi:i<m.obs.length
    . rw[ZH hi]at ho;simp only[ZX (by omega:¬i=m.obs.length)];have hk:=R9 (K.ob i) (.inr ⟨i,hi,rfl⟩);exact(hX1 _ hk.1 hk.2 (Ra i o ho)).trans (h.obs.at_ i o ho)
    . have hi2:i=m.obs.length:=by have:=(Z7.1 ho).1;simp at this;omega
      subst hi2;simp at ho;subst ho;simp only[Y6];refine(gx _ VH VH).trans ((hg.block _ VH ?_).trans hsl);intro e;have:=(R9 _ tN).1;omega
  . simp at hi hj;by_cases e1:i=m.obs.length
    . by_cases e2:j=m.obs.length
      . omega
      . rw[ZU e1,ZX e2]at e;have:=(R9 (K.ob j) (.inr ⟨j,VH,rfl⟩)).1;omega
    . by_cases e2:j=m.obs.length
      . rw[ZX e1,ZU e2]at e;have:=(R9 (K.ob i) (.inr ⟨i,VH,rfl⟩)).1;omega
      . rw[ZX e1,ZX e2]at e;exact h.obs.inj i j VH VH e
 refine⟨_,h.aa3 hm' lR (λk e=>?_) ⟨?_,?_,?_,VH,λk hk e=>?_⟩ ?_ (λo ho=>?_) ?_⟩
 . rcases e with e|⟨i,hi,e⟩
   . simp[Value.ownBlock]at e;rcases hat with e1|e1
     . exact .inl (.inl (by rw[<- e];exact e1))
     . exact .inr VH
   . simp at hi;by_cases e1:i=m.obs.length
     . simp only[e1,Y6]at e;exact .inr VH
     . simp only[ZX e1]at e;exact .inl (.inr ⟨i,VH,e⟩)
 . rw[hX];exact hg.os.trans FR.os
 . rw[hX];exact hg.tape.trans FR.tape
 . rw[hX];exact hg.output.trans FR.output
 . exact hX1 k hk (λe1=>e (.inl e1)) (λe1=>e (.inr (.inl e1.symm)))
 . obtain⟨cur,V_⟩:=h.Uc.img;have hb1:=(hg.block K.b VH Q0).trans ((FR.block K.b hbl).trans V_);rw[hX,ZW _ _ _ _ (by show K.b≠w.heap.size;omega),ZW _ _ _ _ (by show K.b≠w.heap.size;omega)];exact⟨_,by simp only[World.setCell,Zz,ZU,hb1];rfl⟩
 . rw[hX,VD PO,VD PO,VD PO];exact(Z9 (a:=(VJ K.b o)) (hg.block K.b VH Q0)).trans (Z9 (a:=(VJ K.b o)) (FR.block K.b hbl))
 . rw[hX,VD PO,VD PO];exact Vr ((Z9 (a:=(VJ K.b 1)) (hg.block K.b VH Q0)).trans ((Z9 (a:=(VJ K.b 1)) (FR.block K.b hbl)).trans h.hd.c1))
variable {w : World}
theorem um (h:Ud w m K)(cn:ByteArray):
 Calls prog 16 #[VG K.b,.string cn] w λe w'=>e=.returned (.tuple #[(m.make cn).1.val,VI (m.make cn).2.1])/\∃K',Step w w' m K (m.make cn).2.2 K':=by
 have B5:Hid (Below w.heap.size w (w.alloc (.cells #[.bool false,VI 0] 33))):=(ZR _ w).alloc UM _;have h0:=h.below B5.o;obtain⟨p,cap,hv,hf⟩:=h0.obs.form;have c1:=h0.hd.c1;rw[hv]at c1;have hn:=h.ok.objs;have O_:=Dp h0 cn;have hok:=(xX h.ok cn).1;obtain⟨r,hr⟩:∃r,m.make cn=r:=Vx;rw[hr]at hok ⊢;unfold Im.make at hr;refine aja ?_;intro hz z0 z1;have W_:=UQ (Step.below h B5.o)
 cases Wm:m.made cn with
 | none=>
  rw[Wm]at hr O_;simp only at hr;subst hr;simp only[Zm,Vq]at O_;exact anZ
 | some c=>
  rw[Wm]at hr O_;simp only at hr;simp only[ZG,Vq]at O_;by_cases Uq:40<=m.obs.length
  . rw[ZU Uq]at hr;subst hr;have A2:m.obs.length=40:=VH;rw[A2]at c1;exact anZ
  . rw[ZX Uq]at hr;subst hr;have A2:((m.obs.length:Int)==40)=false:=ZF.2 VH;have hc:=OO (O7 Wm).2;have t3:=h0.cls.tot hc;have htl:=mP h.ok c;have hmk:=λW=>agn (m.tot c) htl W;obtain⟨i0,hi0,hi1,hi2,hi3⟩:=YQ adM;have hown0:=h0.obs.own;rw[hv]at hown0;have hown1:=((hown0.alloc (.cells (vcs (List.replicate (m.tot c) Vl.zero)).toArray 33)).alloc (.cells #[VG (K.cb c),.slice (some (VJ (w.heap.size+1) 0)) (m.tot c) (m.tot c)] 105)).drew
    have hnews:∀j u,([VG (K.cb c),.slice (some (VJ (w.heap.size+1) 0)) (m.tot c) (m.tot c)]:List Value)[j]?=some u->(((w.alloc (.cells #[.bool false,VI 0] 33)).alloc (.cells (vcs (List.replicate (m.tot c) Vl.zero)).toArray 33)).alloc (.cells #[VG (K.cb c),.slice (some (VJ (w.heap.size+1) 0)) (m.tot c) (m.tot c)] 105)).drew.cell? ((VJ (w.heap.size+1+1) 0).add j)=some u:=by
     have:=Us ((w.alloc (.cells #[.bool false,VI 0] 33)).alloc (.cells (vcs (List.replicate (m.tot c) Vl.zero)).toArray 33)) [VG (K.cb c),.slice (some (VJ (w.heap.size+1) 0)) (m.tot c) (m.tot c)] 105;exact ady
    have mN:Hid _:=hnews;have HOW:Hid _:=hown1;have px:=h.hd.c1;rw[hv]at px;have hbl:=h.Uc.tab.Vb.lt;have HH:Hid _:=h;have ti:∀u∈([VG (K.cb c),.slice (some (VJ (w.heap.size+1) 0)) (m.tot c) (m.tot c)]:List Value),u.oneCell'=true:=by intro u hu;simp at hu;rcases hu with rfl|rfl<;>rfl
    obtain⟨W,xl⟩:∃W,W=(((w.alloc (.cells #[.bool false,VI 0] 33)).alloc (.cells (vcs (List.replicate (m.tot c) Vl.zero)).toArray 33)).alloc (.cells #[VG (K.cb c),.slice (some (VJ (w.heap.size+1) 0)) (m.tot c) (m.tot c)] 105)).drew:=Vx;have FR:Below w.heap.size w W:=by rw[xl];exact(below3 _ _ _ _).drew
    have lA:W.heap.size=w.heap.size+3:=by rw[xl];simp
    have Ki:W.heap[w.heap.size]?=some (.cells #[.bool false,VI 0] 33):=by
     rw[xl];show (((w.alloc _).alloc _).alloc _).heap[w.heap.size]?=_;rw[ZV _ _ _ Vo,ZV _ _ _ Vy];exact(Z4 w _).1
    have s5:W.heap[w.heap.size+1]?=some (.cells (vcs (List.replicate (m.tot c) Vl.zero)).toArray 33):=by
     rw[xl];show (((w.alloc _).alloc _).alloc _).heap[w.heap.size+1]?=_;rw[ZV _ _ _ Vy];have:=(Z4 (w.alloc (.cells #[.bool false,VI 0] 33)) (.cells (vcs (List.replicate (m.tot c) Vl.zero)).toArray 33)).1;rw[ZJ]at this;exact this
    have Q0:some K.b≠(Value.slice p m.obs.length cap).ownBlock:=λe=>by
     rw[<- hv]at e;obtain⟨cur,V_⟩:=h.Uc.img;obtain⟨cs,hcs⟩:=h.obs.kind (k:=K.b) tN;rw[V_]at hcs
     rcases hcs with hcs|hcs<;>(injection hcs with hcs;injection hcs with _ hcs _;revert hcs;decide)
    have hbz:some w.heap.size≠(Value.slice p m.obs.length cap).ownBlock:=λe=>by
     rw[<- hv]at e;have:=h.obs.lt (k:=w.heap.size) tN;omega
    have HW:Hid (Below w.heap.size w W/\W.heap.size=w.heap.size+3/\W.heap[w.heap.size]?=some (.cells #[.bool false,VI 0] 33)/\W.heap[w.heap.size+1]?=some (.cells (vcs (List.replicate (m.tot c) Vl.zero)).toArray 33)/\some K.b≠(Value.slice p m.obs.length cap).ownBlock/\some w.heap.size≠(Value.slice p m.obs.length cap).ownBlock):=⟨FR,lA,Ki,s5,Q0,hbz⟩
    have HWW:Hid _:=xl;have N6:Hid _:=hok;have HV:Hid _:=hv;have c1x:((w.alloc (.cells #[.bool false,VI 0] 33)).alloc (.cells (vcs (List.replicate (m.tot c) Vl.zero)).toArray 33)).cell? (VJ K.b 1)=some (.slice p m.obs.length cap):=((below2 w _ _).cell (p:=(VJ K.b 1)) hbl).trans px;have c1y:(((w.alloc (.cells #[.bool false,VI 0] 33)).alloc (.cells (vcs (List.replicate (m.tot c) Vl.zero)).toArray 33)).alloc (.cells #[VG (K.cb c),.slice (some (VJ (w.heap.size+1) 0)) (m.tot c) (m.tot c)] 105)).cell? (VJ K.b 1)=some (.slice p m.obs.length cap):=((below3 w _ _ _).cell (p:=(VJ K.b 1)) hbl).trans px;clear hf h h0 hnews hown1 hown0 hok Wm xl FR lA Ki s5 Q0 hbz hv;go_enter func16,ntmps16;go_wp2_with fail;refine O_.mono ?_;rintro e w' ⟨rfl,rfl⟩;go_wp2_with fail
    go_region_law (
     (refine step_append_lies _ rfl _ _ _ rfl 0 105 i0 (.agg #[.pointer none, .slice none 0 0]) 2 32 underlying68 hi0 hi1 hi2 hi3 rfl Vz (.slice p m.obs.length cap) m.obs.length (ER K.cb K.ob 0 m.obs) rfl HOW.o ⟨w.heap.size + 1 + 1, 0, none⟩ 1 1 [.pointer (some ⟨K.cb c, 0, none⟩), .slice (some ⟨w.heap.size + 1, 0, none⟩) (m.tot c) (m.tot c)] rfl rfl mN.o ti VH (by unfold maxLen; omega) VH nO _ rfl ?_
      intro g cap' w1 hown0 F1 Mg AJ;rw[<- HWW.o]at F1 Mg;have c1:=(Z9 (a:=(VJ K.b 1)) (F1.block K.b (by rw[HW.o.2.1];omega) HW.o.2.2.2.2.1)).trans ((Z9 (a:=(VJ K.b 1)) (HW.o.1.block K.b hbl)).trans px);have f17:∀o,w1.frozen? (VJ K.b o)=false:=λo=>((HH.o.Uc.tab.Vb.same (HW.o.1.block K.b hbl)).same (F1.block K.b (by rw[HW.o.2.1];omega) HW.o.2.2.2.2.1)).free o;have pS:=(F1.block w.heap.size (by rw[HW.o.2.1];omega) HW.o.2.2.2.2.2).trans HW.o.2.2.1;have y0:w1.cell? (VJ w.heap.size 0)=some (.bool false):=by simp only[World.cell?,pS];rfl
      have y1:w1.cell? (VJ w.heap.size 1)=some (VI 0):=by simp only[World.cell?,pS];rfl
      have yf:∀o,w1.frozen? (VJ w.heap.size o)=false:=λo=>UL.free ⟨_,_,pS⟩ o;have s6:=F1.size;rw[HW.o.2.1]at s6 Mg
      have H7:Hid (w1.ownsRow 0 105 2 (.slice (some (VJ g 0)) (m.obs.length+1) cap') (m.obs.length+1) (ER K.cb K.ob 0 m.obs++[VG (K.cb c),.slice (some (VJ (w.heap.size+1) 0)) (m.tot c) (m.tot c)])/\W.grownBy w1 (Value.slice p m.obs.length cap).ownBlock/\((Value.slice p m.obs.length cap).ownBlock=some g\/g=w.heap.size+3)/\g<w1.heap.size):=⟨hown0,F1,Mg,AJ⟩
      clear hown0 F1 Mg pS))
    all_goals
     go_wp2;obtain⟨hown0,F1,Mg,AJ⟩:=H7.o;rw[<- HV.o]at F1 Mg;have hlen:(List.replicate (m.tot c) Vl.zero).length=m.tot c:=List.length_replicate;have hput:=aey (n:=m.obs.length) (sl:=List.replicate (m.tot c) Vl.zero) HH.o hc rfl N6.o HW.o.1 HW.o.2.1 HW.o.2.2.2.1 (by rw[hlen];exact hown0) F1 Mg AJ (.bool true) (VI (m.obs.length:Nat));refine ZQ (Lc (z:=w.heap.size) rfl (.bool true) (VI (m.obs.length:Nat)) (VI 0) rfl rfl ?_ ?_) rfl ⟨rfl,hput⟩
     . exact(VD PO).trans (Vr ((VD PO).trans y0))
     . exact Vr ((VD PO).trans ((VD PO).trans y1))
theorem IW (w:World):Calls prog 149 #[VI 0] w λe w'=>e=.returned (.tuple #[])/\w'=w:=by
 go_enter func149,ntmps149;go_wp2
 go_end0
 exact KP
theorem Ee (n:Int)(hn:n≠0)(w:World):Calls prog 149 #[VI n] w λe w'=>e=.panicked (Jc 3)/\w'=w:=by
 go_enter func149,ntmps149;go_wp2;exact vg
theorem afq (h:U3 m):m.cls NH=some 1:=by
 obtain⟨ms,e⟩:=h.int
 cases hc:m.cls NH with
 | none=>
  unfold Im.cls at hc;rw[YI]at hc;have:=hc _ (ZK e);exact absurd rfl ((Vf _ _).1 this)
 | some c=>
  obtain⟨k,hk,hn⟩:=RJ hc;exact YV some (h.once c 1 k _ hk e hn)
theorem E5 (h:Ud w m K)(v:Vl)(hv:TF m v):
 Calls prog 91 #[VG K.b,v.val] w λe w'=>e=.returned (.pointer (Vq ((m.of v).map K.cb)))/\Below w.heap.size w w':=by
 obtain⟨W1,hW1⟩:∃W1,W1=w.alloc (.cells #[.bool v.obj,VI v.n] 33):=Vx;have hB1:Below w.heap.size w W1:=by rw[hW1];exact(ZR _ w).alloc UM _
 have hb1:W1.heap[w.heap.size]?=some (.cells #[.bool v.obj,VI v.n] 33):=by rw[hW1];exact(Z4 w _).1
 have hbl:=h.Uc.tab.Vb.lt;unfold Vl.val;obtain⟨vo,vn⟩:=v
 cases vo with
 | false=>
  have hlk:=(h.below hB1).look NH;rw[afq h.ok,show NH=(⟨#[73,110,116]⟩:ByteArray) from rfl,hW1]at hlk;simp only[ZG,Vq]at hlk;have c0:=h.hd.c0;have HB:Hid _:=hB1;have hof:m.of ⟨false,vn⟩=some 1:=rfl;rw[hof];simp only[ZG,Vq];clear h hof hb1 hB1;go_enter func91,ntmps91;go_wp2
  go_ret
  refine⟨rfl,?_⟩;have:=HB.o;rw[hW1]at this;exact this
 | true=>
  have ht:=hv.2 rfl;simp only at ht;obtain⟨i,x,rfl,hx,hi,hil⟩:=Rj ht;have h1:=h.below hB1;obtain⟨p,cap,hov,hf⟩:=h1.obs.form;obtain⟨g,hg,hF⟩:=hf i x hx;have c0:=h1.hd.c1;rw[hov]at c0;obtain⟨rfl⟩:=hF.p;have o0:=hF.c0;have hof:m.of ⟨true,(i:Int)⟩=some x.cls:=by unfold Im.of;simp[hx]
  rw[hof];simp only[ZG,Vq];have y1:W1.cell? (VJ w.heap.size 1)=some (VI (i:Nat)):=by simp only[World.cell?,hb1];rfl
  refine Jz ?_;intro R6;have HB:Hid _:=hB1;clear h h1 hv ht hof hf hF hg hB1 hb1 hx hov hi;go_enter func91,ntmps91;go_wp2_with fail;rw[<- hW1];clear hW1;refine Uy ?_;refine ZT (S:=(λw'=>w'.cell? (VJ w.heap.size 1)=some (VI (i:Nat))/\w'.cell? (VJ K.b 1)=some (.slice (some (VJ g 0)) m.obs.length cap)/\w'.cell? (VJ g (i*2))=some ((VG (K.cb x.cls))))) VE UG (λhHeld=>?_);refine IC ?_;refine Bf ?_;intro hHeld;refine abM ?_;refine Ur 9 ?_;refine Nr ?_;go_wp2
  go_ret
  exact⟨rfl,HB.o.drew⟩
variable {w0 : World}
variable {m0 : Im}
variable {K0 : Kd}
variable {Dd : Nat -> Prop}
variable {bs : List (Nat × Nat)}
variable {fs : List Fr}
variable {f : Fr}
theorem agq {rb:Nat}{fuel fb mk:Nat}(h:Sg Dd w0 m0 K0 rb w m K fuel ((fb,mk)::bs) (f::fs))(h0:Qv w0)(x:Kn.W)(pl:Option Addr)(hk:x.k=103)(hr:f.st.length<16)
 {i j:Nat}{o:Ob}{v:Vl} (hi:f.self.n=i) (ho:m.obs[i]?=some o) (hj:x.n=j) (hv:o.slots[j]?=some v):
 Calls prog 117 #[VG rb,Uo x pl] w (TV Dd w0 m0 K0 rb (VA m fuel x f fs)):=by
 have hw:VA m fuel x f fs=.on m fuel ({f with st:=v::f.st}::fs):=by unfold VA;simp[hk,hi,hj,ho,hv]
 rw[hw];obtain⟨W1,hW1⟩:∃W1,W1=w.alloc (.cells (TQ x pl) 146):=Vx;refine Ju ?_;intro B ct;have c0:=B.c0;have x1:=B.x1;rw[hj]at x1;have l1:=B.l1;have l3:=B.l3;have h1:=B.sg.Qj.Ub;obtain⟨p,cap,hov,hf⟩:=h1.obs.form;obtain⟨g,hg,hF⟩:=hf i o ho;have c1:=h1.hd.c1;rw[hov]at c1;obtain⟨rfl⟩:=hF.p;have o1:=hF.c1;obtain⟨u0,u1⟩:=h1.obs.val ho hv;have s3:=B.sg.LY.1.raw.c3;rw[hi]at s3;have hil:(i:Int)<(m.obs.length:Int):=by have:=(Z7.1 ho).1;omega
 have hjl:(j:Int)<(o.slots.length:Int):=by have:=(Z7.1 hv).1;omega
 have p_:=RX (w:=W1.drew) yG hr v;unfold Vl.val at p_;have hbl:=h1.Uc.tab.Vb.lt;have hnF:=(B.sg.lo fb Vy).2.2;refine aiw ?_;intro DS B4;have Z1:K.b≠fb:=λe=>hnF (by rw[<- e];exact .inl rfl);have W7:g≠fb:=λe=>hnF (by rw[<- e];exact DS);have Te:K.ob i≠fb:=λe=>hnF iq;have lg:=h1.lt DS;have lo:=h1.lt B4;have HI:Hid _:=hi;have HB:Hid _:=B;unfold TQ at hW1;unfold Uo TQ;clear B h hw hk hi hj h1 hf hF hg hov ho hv DS B4 hnF;go_enter func117,ntmps117;go_wp2_with fail;rw[<- hW1];clear hW1;refine Uy ?_;refine ZT (S:=(λw'=>w'.cell? (VJ rb 24)=some (VG fb)/\w'.cell? (VJ rb 0)=some (VG K.b)/\w'.cell? (VJ w.heap.size 1)=some (VI (j:Nat))/\w'.cell? (VJ K.b 1)=some (.slice (some (VJ g 0)) m.obs.length cap)/\w'.cell? (VJ fb 3)=some (VI (i:Nat))/\w'.cell? (VJ g (i*2+1))=some (.slice (some (VJ (K.ob i) 0)) o.slots.length o.slots.length)/\w'.cell? (VJ (K.ob i) (j*2))=some (.bool v.obj)/\w'.cell? (VJ (K.ob i) (j*2+1))=some (VI v.n))) VE UG (λhHeld=>?_);refine KG ?_;refine iO ?_;refine Uh 15 ?_;refine Uh 16 ?_;refine Uh 17 ?_;refine Uh 18 ?_;refine Uh 22 ?_;refine Ur 23 ?_;refine Ul 19 λY_ Z_=>?_;refine Vg ?_;intro hHeld;clear Z_ Y_
 try refine UE ?_
 refine Uh 20 ?_;refine Ur 21 ?_;refine Ul 24 λY_ Z_=>?_;refine Vg ?_;intro hHeld;clear Z_ Y_
 try refine UE ?_
 refine Ur 25 ?_;refine Ul 26 λY_ Z_=>?_;refine CV ?_;rintro e w3 ⟨rfl,hf3,hc3⟩;have d1:=(Z9 (a:=(VJ rb 24)) qZ).trans ct;have d1:=(Z9 (a:=(VJ rb 0)) qZ).trans c0;have d1:=(Z9 (a:=(VJ w.heap.size 1)) iw).trans x1;have d1:=(Z9 (a:=(VJ K.b 1)) (hc3.block _ hbl Z1)).trans c1;have d1:w3.cell? (VJ fb 3)=some (VI (i:Nat)):=by {have:=hf3.c3;rw[HI.o]at this;exact this};have d1:=(Z9 (a:=(VJ g (i*2+1))) (hc3.block _ lg W7)).trans o1;have d1:=(Z9 (a:=(VJ (K.ob i) (j*2))) uY).trans u0;have d1:=(Z9 (a:=(VJ (K.ob i) (j*2+1))) uY).trans u1
 try go_wp2_with fail
 refine Z_.go λhHeld=>?_;clear Z_ Y_;refine Um ?_
 go_end0
 exact⟨rfl,K,_,HB.o.sg.top (f':={f with st:=v::f.st}) h0 qX hf3 rfl rfl⟩
variable {m' : Im}
variable {K' : Kd}
theorem Bx.calm {rb:Nat}{w W1 w2:World}{fuel fb mk:Nat}{x:Kn.W}{pl:Option Addr}(h:Bx Dd w0 m0 K0 rb w W1 m K fuel fb mk bs f fs x pl)(hs:Step W1.drew w2 m K m' K'):Sg Dd w0 m0 K0 rb w2 m' K' fuel ((fb,mk)::bs) (f::fs)/\w2.heap[w.heap.size]?=W1.heap[w.heap.size]?/\w2.cell? (VJ rb 0)=some (VG K.b)/\w2.cell? (VJ rb 24)=some (VG fb):=by
 have h1:=h.sg.below (ZR _ _).drew;have h1:=h1.img hs;refine⟨h1,hs.Ut.block _ h.l3 h.nf,?_,h1.run.ct⟩;have:=h1.run.c0;rw[hs.b]at this;exact this
theorem aeU (h:U3 m){c:Nat}{sel:ByteArray}{ws:List (Kn.W×Nat)}(e:m.own c sel=some ws):selector (bl sel)=true:=by
 unfold Im.own at e;obtain⟨k,hk,e⟩:=X0.1 e;unfold Kl.own at e;obtain⟨x,hx,_⟩:=Yl.1 e;have h1:=Xr hx;have h2:=(h.meth c k x hk (Xw hx)).1
 have hs:=Zt λhne=>by
  rw[(Vf _ _).2 hne]at h1;cases h1
 rw[<- hs];exact h2
theorem Kq {s:ByteArray}(h:selector (bl s)=true):s.size<=8:=by
 unfold selector at h;simp only[ZB,Zq]at h;exact h.1.1.1.1.2
theorem aax (h:U3 m){c:Nat}{sel:ByteArray}{ws:List (Kn.W×Nat)}(e:m.own c sel=some ws):sel.size<=8:=Kq (aeU h e)
theorem uj (h:Ud w m K)(cn sel to:ByteArray):
 Calls prog 32 #[VG K.b,.string cn,.string sel,.string to] w λe w'=>e=.returned (VI (m.copy cn sel to).1)/\∃K',Step w w' m K (m.copy cn sel to).2 K':=by
 refine ajc ?_;intro lk RB c0 HS
 cases hcl:m.cls cn with
 | none=>
  have hdr:m.copy cn sel to=(2,m):=by unfold Im.copy;rw[hcl]
  rw[hdr];obtain⟨v,hv⟩:∃v,Vq ((m.cls to).map K.cb)=v:=Vx;rw[hcl]at lk;simp only[Zm,Vq]at lk;rw[hv]at RB;clear h hdr hcl hv;go_enter func32,ntmps32;go_wp2_with fail
  go_region
  go_wp2
  go_ret
  exact Ou
 | some c=>
  have hc:=OO hcl;rw[hcl]at lk;simp only[ZG,Vq]at lk
  cases y':m.cls to with
  | none=>
   have hdr:m.copy cn sel to=(2,m):=by unfold Im.copy;rw[hcl,y']
   rw[hdr];rw[y']at RB;simp only[Zm,Vq]at RB;clear h hdr hcl y';go_enter func32,ntmps32;go_wp2_with fail
   go_region
   go_wp2
   go_ret
   exact Ou
  | some t=>
   rw[y']at RB;simp only[ZG,Vq]at RB;have c0:=h.cls.meth hc;have Tl:=h.drew.iK hc sel
   cases Vn:K.mid c sel with
   | none=>
    have hdr:m.copy cn sel to=(4,m):=aot;rw[hdr];rw[Vn]at Tl;simp only[Zm,Vq]at Tl;clear h hdr hcl;go_enter func32,ntmps32;go_wp2_with fail
    go_region
    go_wp2
    go_ret
    exact Ou
   | some k=>exact acQ h cn sel to (by have:=aax h.ok (h.Oz Vn);omega)
theorem ae2 {rb:Nat}{fuel fb mk:Nat}(h:Sg Dd w0 m0 K0 rb w m K fuel ((fb,mk)::bs) (f::fs))(h0:Qv w0)(x:Kn.W)(pl:Option Addr)(hk:x.k=120)  :
 Calls prog 132 #[VG rb,Uo x pl] w (TV Dd w0 m0 K0 rb (VA m fuel x f fs)):=by
 have hw:VA m fuel x f fs=if (m.drop (VF x.a) (VF x.sel)).1=0 then .on (m.drop (VF x.a) (VF x.sel)).2 fuel (f::fs) else .stop (m.drop (VF x.a) (VF x.sel)).2 3:=pX
 rw[hw];obtain⟨W1,hW1⟩:∃W1,W1=w.alloc (.cells (TQ x pl) 146):=Vx;have B:=h.box x pl hW1;have c0:=B.c0;have x2:=B.x2;have x3:=B.x3;have hcall:=pY (B.sg.Qj.Ub.drew) (VF x.a) (VF x.sel);obtain⟨⟨e0,m'⟩,hd⟩:∃r,m.drop (VF x.a) (VF x.sel)=r:=Vx;rw[hd]at hcall ⊢;have HB:Hid _:=B;unfold TQ at hW1;unfold Uo TQ;clear B h hw hk hd;by_cases he:e0=0
 . subst he;rw[ZU rfl];go_enter func132,ntmps132;go_wp2_with fail;rw[<- hW1];clear hW1;refine ahx ?_;intro hHeld;refine Il ?_;intro Y_ Z_;refine aac ?_;intro w2 K' hst hcm d2;refine jq ?_;intro d3;have d0:=hcm.2.2.1
   try go_wp2_with fail
   refine Z_.go λhHeld=>?_;clear Z_ Y_
   try refine UE ?_
   have Rb:=IW w2;refine Ul 9 λY_ Z_=>?_;go_simp;refine Rb.mono ?_;rintro e w3 ⟨rfl,rfl⟩
   try go_wp2_with fail
   refine Z_.go λhHeld=>?_;clear Z_ Y_;refine DT ?_
   go_end0
   exact⟨rfl,K',_,hcm.1⟩
 . rw[ZX he];go_enter func132,ntmps132;go_wp2_with fail;rw[<- hW1];clear hW1;refine ahx ?_;intro hHeld;refine Il ?_;intro Y_ Z_;refine aac ?_;intro w2 K' hst hcm d2;refine jq ?_;intro d3;exact ao3
theorem afh {rb:Nat}{fuel fb mk:Nat}(h:Sg Dd w0 m0 K0 rb w m K fuel ((fb,mk)::bs) (f::fs))(h0:Qv w0)(x:Kn.W)(pl:Option Addr)(hk:x.k=118)  :
 Calls prog 133 #[VG rb,Uo x pl] w (TV Dd w0 m0 K0 rb (VA m fuel x f fs)):=by
 have hw:VA m fuel x f fs=if (m.move (VF x.a) (VF x.b)).1=0 then .on (m.move (VF x.a) (VF x.b)).2 fuel (f::fs) else .stop (m.move (VF x.a) (VF x.b)).2 3:=pX
 rw[hw];obtain⟨W1,hW1⟩:∃W1,W1=w.alloc (.cells (TQ x pl) 146):=Vx;have B:=h.box x pl hW1;have c0:=B.c0;have x2:=B.x2;have x4:=B.x4;have hcall:=move_any (B.sg.Qj.Ub.drew) (VF x.a) (VF x.b);obtain⟨⟨e0,m'⟩,hd⟩:∃r,m.move (VF x.a) (VF x.b)=r:=Vx;rw[hd]at hcall ⊢;have HB:Hid _:=B;unfold TQ at hW1;unfold Uo TQ;clear B h hw hk hd;by_cases he:e0=0
 . subst he;rw[ZU rfl];go_enter func133,ntmps133;go_wp2_with fail;rw[<- hW1];clear hW1;refine aio ?_;intro hHeld;refine Il ?_;intro Y_ Z_;refine aac ?_;intro w2 K' hst hcm d2;refine ji ?_;intro d4;have d0:=hcm.2.2.1
   try go_wp2_with fail
   refine Z_.go λhHeld=>?_;clear Z_ Y_
   try refine UE ?_
   have Rb:=IW w2;refine Ul 9 λY_ Z_=>?_;go_simp;refine Rb.mono ?_;rintro e w3 ⟨rfl,rfl⟩
   try go_wp2_with fail
   refine Z_.go λhHeld=>?_;clear Z_ Y_;refine DT ?_
   go_end0
   exact⟨rfl,K',_,hcm.1⟩
 . rw[ZX he];go_enter func133,ntmps133;go_wp2_with fail;rw[<- hW1];clear hW1;refine aio ?_;intro hHeld;refine Il ?_;intro Y_ Z_;refine aac ?_;intro w2 K' hst hcm d2;refine ji ?_;intro d4;exact ao3
theorem af7 {rb:Nat}{fuel fb mk:Nat}(h:Sg Dd w0 m0 K0 rb w m K fuel ((fb,mk)::bs) (f::fs))(h0:Qv w0)(x:Kn.W)(pl:Option Addr)(hk:x.k=99)  :
 Calls prog 134 #[VG rb,Uo x pl] w (TV Dd w0 m0 K0 rb (VA m fuel x f fs)):=by
 have hw:VA m fuel x f fs=if (m.copy (VF x.a) (VF x.sel) (VF x.b)).1=0 then .on (m.copy (VF x.a) (VF x.sel) (VF x.b)).2 fuel (f::fs) else .stop (m.copy (VF x.a) (VF x.sel) (VF x.b)).2 3:=pX
 rw[hw];obtain⟨W1,hW1⟩:∃W1,W1=w.alloc (.cells (TQ x pl) 146):=Vx;have B:=h.box x pl hW1;have c0:=B.c0;have x2:=B.x2;have x3:=B.x3;have x4:=B.x4;have hcall:=uj (B.sg.Qj.Ub.drew) (VF x.a) (VF x.sel) (VF x.b);obtain⟨⟨e0,m'⟩,hd⟩:∃r,m.copy (VF x.a) (VF x.sel) (VF x.b)=r:=Vx;rw[hd]at hcall ⊢;have HB:Hid _:=B;unfold TQ at hW1;unfold Uo TQ;clear B h hw hk hd;by_cases he:e0=0
 . subst he;rw[ZU rfl];go_enter func134,ntmps134;go_wp2_with fail;rw[<- hW1];clear hW1;refine aic ?_;intro hHeld;refine FU ?_;refine Ul 10 λY_ Z_=>?_;refine aac ?_;intro w2 K' hst hcm d2;refine jq ?_;intro d3;refine ji ?_;intro d4;have d0:=hcm.2.2.1
   try go_wp2_with fail
   refine Z_.go λhHeld=>?_;clear Z_ Y_
   try refine UE ?_
   have Rb:=IW w2;refine Ul 11 λY_ Z_=>?_;go_simp;refine Rb.mono ?_;rintro e w3 ⟨rfl,rfl⟩
   try go_wp2_with fail
   refine Z_.go λhHeld=>?_;clear Z_ Y_;refine DT ?_
   go_end0
   exact⟨rfl,K',_,hcm.1⟩
 . rw[ZX he];go_enter func134,ntmps134;go_wp2_with fail;rw[<- hW1];clear hW1;refine aic ?_;intro hHeld;refine FU ?_;refine Ul 10 λY_ Z_=>?_;refine aac ?_;intro w2 K' hst hcm d2;refine jq ?_;intro d3;refine ji ?_;intro d4;have d0:=hcm.2.2.1
   try go_wp2_with fail
   refine Z_.go λhHeld=>?_;clear Z_ Y_
   try refine UE ?_
   have Rb:=Ee e0 he w2;refine Ul 11 λY_ Z_=>?_;go_simp;refine Rb.mono ?_;rintro e w3 ⟨rfl,rfl⟩;exact⟨rfl,rfl,K',hcm.1.Qj⟩
theorem dJ {rb:Nat}{fuel fb mk:Nat}(h:Sg Dd w0 m0 K0 rb w m K fuel ((fb,mk)::bs) (f::fs))(h0:Qv w0)(x:Kn.W)(pl:Option Addr)(hk:x.k=98){n:Int}{r:List Vl}(hst:f.st=⟨false,n⟩::r):
 Calls prog 131 #[VG rb,Uo x pl] w (TV Dd w0 m0 K0 rb (VA m fuel x f fs)):=by
 have hw:VA m fuel x f fs=.stop m 3:=JD;rw[hw];obtain⟨W1,hW1⟩:∃W1,W1=w.alloc (.cells (TQ x pl) 146):=Vx;refine rW ?_;intro B Wd lw Q_;have hcall:=take_any Q_;unfold Vl.val at hcall;have HB:Hid _:=B;unfold TQ at hW1;unfold Uo TQ;clear B h hw hk hst Q_;go_enter func131,ntmps131;go_wp2_with fail;rw[<- hW1];clear hW1;refine hcall.mono ?_;rintro e w2 ⟨rfl,hf2,hc2⟩;have MD:Hid _:=hc2;clear hcall hf2 hc2 Wd lw;go_wp2;exact⟨rfl,rfl,K,HB.o.gave h0 (MD.o.alloc _)⟩
theorem adx {rb:Nat}{fuel fb mk:Nat}(h:Sg Dd w0 m0 K0 rb w m K fuel ((fb,mk)::bs) (f::fs))(h0:Qv w0)(x:Kn.W)(pl:Option Addr)(hk:x.k=98){n:Int}{r:List Vl}(hst:f.st=⟨true,n⟩::r)(he:(m.be n (VF x.a)).1=0):
 Calls prog 131 #[VG rb,Uo x pl] w (TV Dd w0 m0 K0 rb (VA m fuel x f fs)):=by
 have hw:VA m fuel x f fs=.on (m.be n (VF x.a)).2 fuel (f::fs):=by unfold VA;simp[hk,hst,he]
 rw[hw];obtain⟨W1,hW1⟩:∃W1,W1=w.alloc (.cells (TQ x pl) 146):=Vx;refine aje ?_;intro B Wd lw Q_ h_ hcall x2 l3 HB;have HST:Hid _:=hst;obtain⟨⟨e0,m'⟩,hd⟩:∃q,m.be n (VF x.a)=q:=Vx;rw[hd]at he ⊢;simp only at he ⊢;have HD:Hid _:=hd;refine yK ?_;intro Wg;unfold TQ at hW1;unfold Uo TQ;clear B h hw hk hst Q_ hd;go_enter func131,ntmps131;go_wp2_with fail;rw[<- hW1];clear hW1;refine ai4 ?_;intro w2 hf2 hc2 h_ H2;clear hcall hf2 hc2 h_ Wd lw;go_wp2_with fail;obtain⟨W1,hW1⟩:∃W1,W1=w2.alloc (.cells #[.bool true,VI n] 33):=Vx;refine ah9 ?_;intro hb3 hz3 h_ hs2 y2 y0;have v0:W1.cell? (VJ w2.heap.size 0)=some (.bool true):=by simp only[World.cell?,hz3];rfl
 refine agS ?_;intro v1 Ss l3 A6
 have H3:Hid (Sg Dd w0 m0 K0 rb W1 m K fuel ((fb,mk)::bs) ({f with st:=r}::fs)/\W1.heap[w2.heap.size]?=some (.cells #[.bool true,VI n] 33)):=⟨h_,hz3⟩
 clear hW1 h_ hz3 hb3;refine ahA ?_;intro hHeld;refine Il ?_;intro Y_ Z_;go_simp;refine Ss.mono ?_;rintro e w4 ⟨rfl,K',r_⟩;have h_:=(H3.o.1.below (ZR _ _).drew).img r_;refine ahh ?_;intro hk4 y0 y2 v14
 try go_wp2_with fail
 refine Z_.go λhHeld=>?_;clear Z_ Y_
 try refine UE ?_
 subst he;have Rb:=IW w4;have v1:=(Z9 (a:=(VJ w2.heap.size 0)) ail).trans v0;have hs2:W1.heap.size<=w4.heap.size:=r_.Ut.size;have S4:=h_.run.ct;simp only[XP,ZG,Vq]at S4;have l3:=h_.run.Vb.lt;have A6:w2.heap.size<w4.heap.size:=VH;have p_:=RX (w:=w4.drew) (h_.LY.1.raw.same rfl) (by show r.length<16;omega) ⟨true,n⟩;unfold Vl.val at p_;have Mw:w2.heap.size≠fb:=λe=>by have:=(H2.o.1.lo fb Vy).2.1;omega
 have H2:Hid _:=h_;clear Ss r_ hk4 h_;refine Ul 9 λY_ Z_=>?_;go_simp;refine Rb.mono ?_;rintro e w4 ⟨rfl,rfl⟩
 try go_wp2_with fail
 refine Z_.go λhHeld=>?_;clear Z_ Y_;refine DT ?_;clear Rb;go_wp2_with fail;refine Uy ?_;refine ZT (S:=(λw'=>w'.cell? (VJ rb 24)=some (VG fb)/\w'.cell? (VJ w2.heap.size 0)=some (.bool true)/\w'.cell? (VJ w2.heap.size 1)=some (VI n))) VE UG (λhHeld=>?_);refine pJ ?_;refine FC ?_;intro Y_ Z_;refine CV ?_;rintro e w4 ⟨rfl,hf2,hc2⟩;have S4:=(Z9 (a:=(VJ rb 24)) (hc2.block _ l3 HB.o.n1)).trans S4;have v0:=(Z9 (a:=(VJ w2.heap.size 0)) (hc2.block _ A6 Mw)).trans v1;have v0:=(Z9 (a:=(VJ w2.heap.size 1)) (hc2.block _ A6 Mw)).trans v14
 try go_wp2_with fail
 refine Z_.go λhHeld=>?_;clear Z_ Y_;refine Um ?_
 go_end0
 have h_:=H2.o.top (f':={f with st:=⟨true,n⟩::r}) h0 ((Vt.refl _ (λk=>k=fb)).drew.then hc2 Qi) hf2 rfl rfl;rw[show ({f with st:=⟨true,n⟩::r}:Fr)=f from by rw[<- HST.o]]at h_;exact⟨rfl,K',_,h_⟩
theorem abC {rb:Nat}{fuel fb mk:Nat}(h:Sg Dd w0 m0 K0 rb w m K fuel ((fb,mk)::bs) (f::fs))(h0:Qv w0)(x:Kn.W)(pl:Option Addr)(hk:x.k=98){n:Int}{r:List Vl}(hst:f.st=⟨true,n⟩::r)(he:(m.be n (VF x.a)).1≠0):
 Calls prog 131 #[VG rb,Uo x pl] w (TV Dd w0 m0 K0 rb (VA m fuel x f fs)):=by
 have hw:VA m fuel x f fs=.stop (m.be n (VF x.a)).2 3:=by unfold VA;simp[hk,hst,he]
 rw[hw];obtain⟨W1,hW1⟩:∃W1,W1=w.alloc (.cells (TQ x pl) 146):=Vx;refine aje ?_;intro B Wd lw Q_ h_ hcall x2 l3 HB;obtain⟨⟨e0,m'⟩,hd⟩:∃q,m.be n (VF x.a)=q:=Vx;rw[hd]at he ⊢;simp only at he ⊢;have HD:Hid _:=hd;refine yK ?_;intro Wg;unfold TQ at hW1;unfold Uo TQ;clear B h hw hk hst Q_ hd;go_enter func131,ntmps131;go_wp2_with fail;rw[<- hW1];clear hW1;refine ai4 ?_;intro w2 hf2 hc2 h_ H2;clear hcall hf2 hc2 h_ Wd lw;go_wp2_with fail;obtain⟨W1,hW1⟩:∃W1,W1=w2.alloc (.cells #[.bool true,VI n] 33):=Vx;refine ah9 ?_;intro hb3 hz3 h_ hs2 y2 y0;refine agS ?_;intro v1 Ss l3 A6
 have H2:Hid (Sg Dd w0 m0 K0 rb W1 m K fuel ((fb,mk)::bs) ({f with st:=r}::fs)/\W1.heap[w2.heap.size]?=some (.cells #[.bool true,VI n] 33)):=⟨h_,hz3⟩
 clear hW1 h_ hz3 hb3;refine ahA ?_;intro hHeld;refine Il ?_;intro Y_ Z_;go_simp;refine Ss.mono ?_;rintro e w4 ⟨rfl,K',r_⟩;have h_:=(H2.o.1.below (ZR _ _).drew).img r_;refine ahh ?_;intro hk4 y0 y2 v14
 try go_wp2_with fail
 refine Z_.go λhHeld=>?_;clear Z_ Y_
 try refine UE ?_
 have Rb:=Ee e0 he w4;refine Ul 9 λY_ Z_=>?_;go_simp;refine Rb.mono ?_;rintro e w2 ⟨rfl,rfl⟩;exact⟨rfl,rfl,K',h_.Qj⟩
theorem dP {rb:Nat}{fuel fb mk:Nat}(h:Sg Dd w0 m0 K0 rb w m K fuel ((fb,mk)::bs) (f::fs))(h0:Qv w0)(x:Kn.W)(pl:Option Addr)(hk:x.k=119)(hr:f.st.length<16)(he:(m.make (VF x.a)).2.1=0):
 Calls prog 130 #[VG rb,Uo x pl] w (TV Dd w0 m0 K0 rb (VA m fuel x f fs)):=by
 have hw:VA m fuel x f fs=.on (m.make (VF x.a)).2.2 fuel ({f with st:=(m.make (VF x.a)).1::f.st}::fs):=by unfold VA;simp[hk,he]
 rw[hw];obtain⟨W1,hW1⟩:∃W1,W1=w.alloc (.cells (TQ x pl) 146):=Vx;refine aiv ?_;intro B c0 x2 _ l1 HB hmk;obtain⟨⟨v,e0,m'⟩,hd⟩:∃q,m.make (VF x.a)=q:=Vx;rw[hd]at he hmk ⊢;simp only at he hmk ⊢;refine yK ?_;intro Wg;unfold Vl.val at hmk;unfold TQ at hW1;refine aip ?_;intro hBa hBb;clear B h hw hk hd;go_enter func130,ntmps130;go_wp2_with fail;rw[<- hW1];clear hW1;refine Uy ?_;refine ai3 ?_;intro hHeld;refine IC ?_;refine Zv (rs:=[6,10]) VE Vy ?_;refine(ZO (o:=_) rfl (λY_ Z_=>?_) (ZO (o:=_) rfl (λY_ Z_=>?_) ZA))
 case' refine_1=>
  refine ahb ?_;intro w2 K' hst h2 y0 y2
  try go_wp2_with fail
  refine Z_.go λhHeld=>?_;clear Z_ Y_;refine ahQ ?_;intro _ hHeld;obtain⟨W3,hW1⟩:∃W3,W3=w2.alloc (.cells #[.bool v.obj,VI v.n] 33):=Vx;obtain⟨z,hzz⟩:∃z,z=w2.heap.size:=Vx;rw[<- hW1,<- hzz];have hzb:W3.heap[z]?=some (.cells #[.bool v.obj,VI v.n] 33):=jv;have LO:W1.heap.size<=z:=by rw[hzz];exact hst.Ut.size
  have H3:Hid (Sg Dd w0 m0 K0 rb W3 m' K' fuel ((fb,mk)::bs) (f::fs)):=by
   exact anr
  clear hW1 hzz h2 hst y0 y2 hmk hBa hBb
 case' refine_2=>
  refine Vg ?_;intro hHeld;clear Z_ Y_;refine ajV ?_;intro Y_ Z_ w2 K' hst h2 y0 y2
  try go_wp2_with fail
  refine Z_.go λhHeld=>?_;clear Z_ Y_;refine aoG ?_;intro Rp hz2 u0 u1 uf q1 q3;refine abM ?_;refine Ur 9 ?_;refine yF ?_;intro hHeld;refine BD ?_;refine Nr ?_;obtain⟨W3,hW1⟩:∃W3,W3=(w2.setCell (VJ W1.heap.size 0) (.bool v.obj)).setCell (VJ W1.heap.size 1) (VI v.n):=Vx;obtain⟨z,hzz⟩:∃z,z=W1.heap.size:=Vx;rw[<- hW1,<- hzz];have hzb:W3.heap[z]?=some (.cells #[.bool v.obj,VI v.n] 33):=by rw[hW1,hzz];exact set2 hz2
  have LO:W1.heap.size<=z:=VH
  have H3:Hid (Sg Dd w0 m0 K0 rb W3 m' K' fuel ((fb,mk)::bs) (f::fs)):=by
   have hx:Sg Dd w0 m0 K0 rb W3 m' K' fuel ((fb,mk)::bs) (f::fs):=by
    refine ajl ?_;intro k e e';rcases hst.foot _ e' with e0|e0
    . exact Rp e0
    . simp at e0;omega
   exact hx
  clear hW1 hzz h2 hst y0 y2 hmk hBa hBb hz2 u0 u1 uf q1 q3 Rp
 all_goals
  subst he;have Rb:=IW W3;have YY:=H3.o.run.ct;simp only[XP,ZG,Vq]at YY;have l1:=H3.o.run.Vb.lt;have v0:W3.cell? (VJ z 0)=some (.bool v.obj):=by simp only[World.cell?,hzb];rfl
  have v1:W3.cell? (VJ z 1)=some (VI v.n):=by simp only[World.cell?,hzb];rfl
  have cV:=(Z5.1 hzb).1;have Rp:z≠fb:=λe=>by have:=HB.o.l2;omega
  have p_:=RX (w:=W3.drew) (H3.o.LY.1.raw.same rfl) hr v;unfold Vl.val at p_;clear hzb;go_wp2_with fail;refine Rb.mono ?_;rintro e w2 ⟨rfl,rfl⟩;clear Rb;go_wp2_with fail;refine Uy ?_;refine ZT (S:=(λw'=>w'.cell? (VJ rb 24)=some (VG fb)/\w'.cell? (VJ z 0)=some (.bool v.obj)/\w'.cell? (VJ z 1)=some (VI v.n))) VE UG (λhHeld=>?_);refine pJ ?_;refine FC ?_;intro Y_ Z_;refine CV ?_;rintro e w2 ⟨rfl,v7,pw⟩;have YY:=(Z9 (a:=(VJ rb 24)) (pw.block _ l1 HB.o.n1)).trans YY;have v0:=(Z9 (a:=(VJ z 0)) (pw.block _ cV Rp)).trans v0;have v0:=(Z9 (a:=(VJ z 1)) (pw.block _ cV Rp)).trans v1
  try go_wp2_with fail
  refine Z_.go λhHeld=>?_;clear Z_ Y_;refine Um ?_
  go_end0
  exact⟨rfl,K',_,H3.o.top (f':={f with st:=v::f.st}) h0 ((Vt.refl _ (λk=>k=fb)).drew.then pw Qi) v7 rfl rfl⟩
theorem aaI {rb:Nat}{fuel fb mk:Nat}(h:Sg Dd w0 m0 K0 rb w m K fuel ((fb,mk)::bs) (f::fs))(h0:Qv w0)(x:Kn.W)(pl:Option Addr)(hk:x.k=119)(hr:f.st.length<16)(he:(m.make (VF x.a)).2.1≠0):
 Calls prog 130 #[VG rb,Uo x pl] w (TV Dd w0 m0 K0 rb (VA m fuel x f fs)):=by
 have hw:VA m fuel x f fs=.stop (m.make (VF x.a)).2.2 3:=by unfold VA;simp[hk,he]
 rw[hw];obtain⟨W1,hW1⟩:∃W1,W1=w.alloc (.cells (TQ x pl) 146):=Vx;refine aiv ?_;intro B c0 x2 _ l1 HB hmk;obtain⟨⟨v,e0,m'⟩,hd⟩:∃q,m.make (VF x.a)=q:=Vx;rw[hd]at he hmk ⊢;simp only at he hmk ⊢;refine yK ?_;intro Wg;unfold Vl.val at hmk;unfold TQ at hW1;refine aip ?_;intro hBa hBb;clear B h hw hk hd;go_enter func130,ntmps130;go_wp2_with fail;rw[<- hW1];clear hW1;refine Uy ?_;refine ai3 ?_;intro hHeld;refine IC ?_;refine Zv (rs:=[6,10]) VE Vy ?_;refine(ZO (o:=_) rfl (λY_ Z_=>?_) (ZO (o:=_) rfl (λY_ Z_=>?_) ZA))
 case' refine_1=>
  refine ahb ?_;intro w2 K' hst h2 y0 y2
  try go_wp2_with fail
  refine Z_.go λhHeld=>?_;clear Z_ Y_;refine ahQ ?_;intro _ hHeld;obtain⟨W3,hW1⟩:∃W3,W3=w2.alloc (.cells #[.bool v.obj,VI v.n] 33):=Vx;obtain⟨z,hzz⟩:∃z,z=w2.heap.size:=Vx;rw[<- hW1,<- hzz]
  have H3:Hid (Sg Dd w0 m0 K0 rb W3 m' K' fuel ((fb,mk)::bs) (f::fs)):=by
   exact anr
  clear hW1 hzz h2 hst y0 y2 hmk hBa hBb
 case' refine_2=>
  refine Vg ?_;intro hHeld;clear Z_ Y_;refine ajV ?_;intro Y_ Z_ w2 K' hst h2 y0 y2
  try go_wp2_with fail
  refine Z_.go λhHeld=>?_;clear Z_ Y_;refine aoG ?_;intro Rp hz2 u0 u1 uf q1 q3;refine abM ?_;refine Ur 9 ?_;refine yF ?_;intro hHeld;refine BD ?_;refine Nr ?_;obtain⟨W3,hW1⟩:∃W3,W3=(w2.setCell (VJ W1.heap.size 0) (.bool v.obj)).setCell (VJ W1.heap.size 1) (VI v.n):=Vx;obtain⟨z,hzz⟩:∃z,z=W1.heap.size:=Vx;rw[<- hW1,<- hzz]
  have H3:Hid (Sg Dd w0 m0 K0 rb W3 m' K' fuel ((fb,mk)::bs) (f::fs)):=by
   have hx:Sg Dd w0 m0 K0 rb W3 m' K' fuel ((fb,mk)::bs) (f::fs):=by
    refine ajl ?_;intro k e e';rcases hst.foot _ e' with e1|e1
    . exact Rp e1
    . simp at e1;omega
   exact hx
  clear hW1 hzz h2 hst y0 y2 hmk hBa hBb hz2 u0 u1 uf q1 q3 Rp
 all_goals
  have Rb:=Ee e0 he W3;go_wp2_with fail;refine Rb.mono ?_;rintro e w2 ⟨rfl,rfl⟩;clear Rb;go_wp2;exact⟨rfl,rfl,K',H3.o.Qj⟩
theorem acB {rb:Nat}{fuel fb mk:Nat}(h:Sg Dd w0 m0 K0 rb w m K fuel ((fb,mk)::bs) (f::fs))(h0:Qv w0)(x:Kn.W)(pl:Option Addr)(hk:x.k=112){v:Vl}{r:List Vl}(hst:f.st=v::r){i j:Nat}{o:Ob}(hi:f.self.n=i)(ho:m.obs[i]?=some o)(hj:x.n=j)(hjl:j<o.slots.length)(hm':U3 {m with obs:=m.obs.modify i (λo=>{o with slots:=o.slots.set j v})}):
 Calls prog 118 #[VG rb,Uo x pl] w (TV Dd w0 m0 K0 rb (VA m fuel x f fs)):=by
 have hw:VA m fuel x f fs=.on {m with obs:=m.obs.modify i (λo=>{o with slots:=o.slots.set j v})} fuel ({f with st:=r}::fs):=by unfold VA;simp[hk,hst,hi,hj]
 rw[hw];obtain⟨W1,hW1⟩:∃W1,W1=w.alloc (.cells (TQ x pl) 146):=Vx;refine Ju ?_;intro B ct;have c0:=B.c0;have x1:=B.x1;rw[hj]at x1;have l1:=B.l1;have l3:=B.l3;have h1:=B.sg.Qj.Ub;obtain⟨p,cap,hov,hf⟩:=h1.obs.form;obtain⟨g,hg,hF⟩:=hf i o ho;have c1:=h1.hd.c1;rw[hov]at c1;obtain⟨rfl⟩:=hF.p;have o1:=hF.c1;have Q_:=B.sg.LY.1.raw;have s3:=Q_.c3;rw[hi]at s3;rw[hst]at Q_;have htk:=take_any (w:=W1.drew) (Q_.same rfl);unfold Vl.val at htk;have hil:(i:Int)<(m.obs.length:Int):=by have:=(Z7.1 ho).1;omega
 have tT:(j:Int)<(o.slots.length:Int):=VH;have hbl:=h1.Uc.tab.Vb.lt;have hnF:∀k,k∈rb::((fb,mk)::bs).map (·.1)->¬U2 m K k:=λk e=>(B.sg.lo k e).2.2;refine aiw ?_;intro DS B4;have Z1:K.b≠fb:=λe=>hnF fb Vy (by rw[<- e];exact .inl rfl);have W7:g≠fb:=λe=>hnF fb Vy (by rw[<- e];exact DS);have Te:K.ob i≠fb:=λe=>hnF fb Vy iq;have pQ:¬K.ob i=rb:=λe=>hnF rb Vy iq;have pQ:¬K.ob i=w.heap.size:=λe=>B.nf iq;have hat:=h1.obs.at_ i o ho
 have pQ:¬K.ob i=K.b:=λe=>by
  obtain⟨cur,V_⟩:=h1.Uc.img;rw[e,V_]at hat;injection hat with hat;injection hat with _ hat _;revert hat;decide
 have hnb:¬K.ob i=g:=λe=>by
  obtain⟨cs,hcs⟩:=hF.typ;rw[e,hcs]at hat;injection hat with hat;injection hat with _ hat _;revert hat;decide
 have lg:=h1.lt DS;have lo:=h1.lt B4
 obtain⟨u,hu⟩:∃u,o.slots[j]?=some u:=⟨_,Z8 hjl⟩
 obtain⟨u0,u1⟩:=h1.obs.val ho hu;have uf:∀k,W1.frozen? (VJ (K.ob i) k)=false:=λk=>UL.free ⟨_,_,hat⟩ k
 have HO:Hid (m.obs[i]?=some o/\j<o.slots.length/\U3 {m with obs:=m.obs.modify i (λo=>{o with slots:=o.slots.set j v})}/\f.self.n=i):=⟨ho,hjl,hm',hi⟩
 have HB:Hid _:=B;unfold TQ at hW1;unfold Uo TQ;clear B h hw hk hi hj h1 hf hF hg hov ho DS B4 hnF Q_ hst hu hat hm';go_enter func118,ntmps118;go_wp2_with fail;rw[<- hW1];clear hW1;refine Uy ?_;refine ZT (S:=(λw'=>w'.cell? (VJ rb 24)=some (VG fb)/\w'.cell? (VJ rb 0)=some (VG K.b)/\w'.cell? (VJ w.heap.size 1)=some (VI (j:Nat))/\w'.cell? (VJ K.b 1)=some (.slice (some (VJ g 0)) m.obs.length cap)/\w'.cell? (VJ fb 3)=some (VI (i:Nat))/\w'.cell? (VJ g (i*2+1))=some (.slice (some (VJ (K.ob i) 0)) o.slots.length o.slots.length))) VE UG (λhHeld=>?_);refine KG ?_;refine iO ?_;refine Uh 18 ?_;refine Uh 19 ?_;refine Uh 20 ?_;refine Uh 21 ?_;refine Uh 22 ?_;refine Ur 23 ?_;refine Zv (rs:=[15,24]) VE Vy ?_;refine(ZO (o:=_) rfl (λY_ Z_=>?_) (ZO (o:=_) rfl (λY_ Z_=>?_) ZA))
 case' refine_1=>
  refine Vg ?_;intro hHeld;clear Z_ Y_
  try refine UE ?_
  refine CG ?_;refine Ul 24 λY_ Z_=>?_;refine aoW ?_;intro w3 hf3 hc3 d1 d2 d3 d4 d5 d6
  try go_wp2_with fail
  refine Z_.go λhHeld=>?_;clear Z_ Y_
  try refine UE ?_
 case' refine_2=>
  refine aoW ?_;intro w3 hf3 hc3 d1 d2 d3 d4 d5 d6
  try go_wp2_with fail
  refine Z_.go λhHeld=>?_;clear Z_ Y_
  try refine UE ?_
  refine Ul 15 λY_ Z_=>?_;refine Vg ?_;intro hHeld;clear Z_ Y_
  try refine UE ?_
  refine Uh 16 ?_;refine Ur 17 ?_
 all_goals
  have u0:=(Z9 (a:=(VJ (K.ob i) (j*2))) uY).trans u0;have u0:=(Z9 (a:=(VJ (K.ob i) (j*2+1))) uY).trans u1;have uf3:∀k,w3.frozen? (VJ (K.ob i) k)=false:=λk=>(Zr (a:=(VJ (K.ob i) k)) uY).trans (uf k);have h1:=HB.o.sg.top (f':={f with st:=r}) h0 ((Vt.refl W1 (λk=>k=fb)).drew.then hc3 Qi) hf3 rfl rfl;have H3:Hid _:=h1;clear htk h1 hf3 hc3 uf;refine Ul 25 λY_ Z_=>?_;refine Vg ?_;intro hHeld;clear Z_ Y_
  try refine UE ?_
  refine Ul 26 λY_ Z_=>?_;refine Vg ?_;intro hHeld;clear Z_ Y_;refine Um ?_
  go_end0
  exact⟨rfl,K,_,H3.o.img (H3.o.Qj.Ub.restore HO.o.1 HO.o.2.1 HO.o.2.2.1)⟩
theorem afO {α:Type}(a b:Vl)(t:Bool->α):(if b.obj=a.obj then if b.n=a.n then t true else t false else t false)=t (decide (a=b)):=by
 obtain⟨ao,an⟩:=a;obtain⟨bo,bn⟩:=b;by_cases e1:bo=ao
 . by_cases e2:bn=an
   . subst e1 e2;simp
   . have e3:¬an=bn:=λe=>e2 e.symm;subst e1;simp[e2,e3]
 . have e3:¬ao=bo:=λe=>e1 e.symm;simp[e1,e3]
theorem afP {rb:Nat}{fuel fb mk:Nat}(h:Sg Dd w0 m0 K0 rb w m K fuel ((fb,mk)::bs) (f::fs))(h0:Qv w0)(x:Kn.W)(pl:Option Addr)(hk:x.k=61){a b:Vl}{r:List Vl}(hst:f.st=b::a::r):
 Calls prog 123 #[VG rb,Uo x pl] w (TV Dd w0 m0 K0 rb (VA m fuel x f fs)):=by
 have hw:VA m fuel x f fs=.on m fuel ({f with st:=vG (decide (a=b))::r}::fs):=JD;rw[hw];obtain⟨W1,hW1⟩:∃W1,W1=w.alloc (.cells (TQ x pl) 146):=Vx;refine Ju ?_;intro B ct;have l1:=B.l1;have l2:=B.l2;have Q_:=B.sg.LY.1.raw;have h_:=Q_.s16;rw[hst]at Q_ h_;simp only[ZI]at h_;have HB:Hid _:=B;unfold TQ at hW1;unfold Uo TQ;clear B h hw hk hst;go_enter func123,ntmps123;go_wp2_with fail;rw[<- hW1];clear hW1;refine Uy ?_;refine ZT (S:=(λw'=>w'.cell? (VJ rb 24)=some (VG fb))) VE UG (λhHeld=>?_);refine pJ ?_;refine agh ?_;refine Ur 8 ?_;obtain⟨V0,hV0⟩:∃V,V=W1.drew:=Vx;rw[<- hV0];have hc0:Vt W1 V0 (λk=>k=fb):=by rw[hV0];exact(Vt.refl _ _).drew
 have vE:Un V0 fb (some (VJ mk 0)) (some (VJ (K.cb f.home) 0)) f.self f.args f.pc (b::a::r) (bs.head?.map (·.1)):=Q_.same (by rw[hV0];rfl);have ye:V0.cell? (VJ rb 24)=some (VG fb):=by rw[hV0];exact ct
 have l0:rb<V0.heap.size:=by rw[hV0];exact l1
 clear hV0 Q_ ct;refine Zv (rs:=[4,10,11]) VE Vy ?_;refine(ZO (o:=_) rfl (λY_ Z_=>?cy) (ZO (o:=_) rfl (λY_ Z_=>?bj) (ZO (o:=_) rfl (λY_ Z_=>?Fx3) ZA)))
 case' cy=>
  go_simp;have htk:=take_any vE;unfold Vl.val at htk;refine htk.mono ?_;clear htk;rintro e V1 ⟨rfl,LL,hcc⟩;have Lt:=(Z9 (a:=(VJ rb 24)) (hcc.block _ l0 HB.o.n1)).trans ye
  try go_wp2_with fail
  refine Z_.go λhHeld=>?_;clear Z_ Y_
  try refine UE ?_
  have hc1:=hc0.then hcc Qi;have l1:=ZY l0 hcc.size;clear hcc;refine Zv (rs:=[9,10,11]) VE Vy ?_;refine(ZO (o:=_) rfl (λY_ Z_=>?l4) (ZO (o:=_) rfl (λY_ Z_=>?oe) (ZO (o:=_) rfl (λY_ Z_=>?g9) ZA)))
  case' l4=>
   refine abH ?_;intro V2 SF hcc XS
   try go_wp2_with fail
   refine Z_.go λhHeld=>?_;clear Z_ Y_;refine ac8 ?_;intro hc2 l2;clear hcc Lt l1 LL hc1;refine Zv (rs:=[10,11]) VE Vy ?_;refine(ZO (o:=_) rfl (λY_ Z_=>?rA) (ZO (o:=_) rfl (λY_ Z_=>?sC) ZA))
   case' rA=>
    refine Vg ?_;intro hHeld;clear Z_ Y_
    try refine UE ?_
    obtain⟨V3,hV0⟩:∃V,V=V2.alloc (.cells #[.bool false,VI 0] 33):=Vx;obtain⟨z10,t_⟩:∃z,z=V2.heap.size:=Vx;refine aaQ ?_;intro j_ N_ Ta;refine eF ?_;intro hc3 T5 YY l3;clear hV0 j_ XS l2 SF hc2;clear t_;refine abG ?_;intro hlt hHeld;obtain⟨V4,SW⟩:∃V,V=V3.alloc (.cells #[.bool false,VI 0] 33):=Vx;obtain⟨z11,u_⟩:∃z,z=V3.heap.size:=Vx;refine akc ?_;intro hB4 K_ S7 hc4 Ps S4 N_;clear SW hB4 YY l3 T5 hc3;rw[<- u_]at hlt;clear u_;refine ?lf
   case' sC=>
    refine Vg ?_;intro hHeld;clear Z_ Y_
    try refine UE ?_
    obtain⟨V3,hV0⟩:∃V,V=V2.alloc (.cells #[.bool false,VI 0] 33):=Vx;obtain⟨z11,u_⟩:∃z,z=V2.heap.size:=Vx;refine adU ?_;intro j_ K_ S7;refine eF ?_;intro hc3 T5 YY l3;clear hV0 j_ XS l2 SF hc2;clear u_;refine abr ?_;intro hlt hHeld;obtain⟨V4,SW⟩:∃V,V=V3.alloc (.cells #[.bool false,VI 0] 33):=Vx;obtain⟨z10,t_⟩:∃z,z=V3.heap.size:=Vx;refine aki ?_;intro hB4 N_ Ta hc4 Ps S4 K_;clear SW hB4 YY l3 T5 hc3;rw[<- t_]at hlt;clear t_;refine ?lf
  case' oe=>
   refine Vg ?_;intro hHeld;clear Z_ Y_
   try refine UE ?_
   obtain⟨V2,hV2⟩:∃V,V=V1.alloc (.cells #[.bool false,VI 0] 33):=Vx;obtain⟨z10,t_⟩:∃z,z=V1.heap.size:=Vx;refine agO ?_;intro hB2 N_ Ta;refine gY ?_;intro hc2 SF XS l2;clear hV2 hB2 Lt l1 LL hc1;clear t_;refine Zv (rs:=[9,11]) VE Vy ?_;refine(ZO (o:=_) rfl (λY_ Z_=>?rj) (ZO (o:=_) rfl (λY_ Z_=>?tR) ZA))
   case' rj=>
    refine dL ?_;intro V3 T5 hcc YY
    try go_wp2_with fail
    refine Z_.go λhHeld=>?_;clear Z_ Y_;refine amV ?_;intro hc3 l3 N_;clear hcc XS l2 SF hc2;refine abG ?_;intro hlt hHeld;obtain⟨V4,SW⟩:∃V,V=V3.alloc (.cells #[.bool false,VI 0] 33):=Vx;obtain⟨z11,u_⟩:∃z,z=V3.heap.size:=Vx;refine akc ?_;intro hB4 K_ S7 hc4 Ps S4 N_;clear SW hB4 YY l3 T5 hc3;rw[<- u_]at hlt;clear u_;refine ?lf
   case' tR=>
    have hlt:=(Z5.1 N_).1;refine Vg ?_;intro hHeld;clear Z_ Y_
    try refine UE ?_
    obtain⟨V3,hV0⟩:∃V,V=V2.alloc (.cells #[.bool false,VI 0] 33):=Vx;obtain⟨z11,u_⟩:∃z,z=V2.heap.size:=Vx;refine adU ?_;intro j_ K_ S7;refine eF ?_;intro hc3 T5 YY l3;have N_:=(j_.block z10 (Z5.1 N_).1).trans N_;clear hV0 j_ XS l2 SF hc2;rw[<- u_]at hlt;clear u_;refine dU ?_;intro Y_ Z_ V4 Ps hcc S4
    try go_wp2_with fail
    refine Z_.go λhHeld=>?_;clear Z_ Y_;refine zV ?_;intro hc4 N_ K_;clear hcc YY l3 T5 hc3;refine ?lf
  case' g9=>
   refine Vg ?_;intro hHeld;clear Z_ Y_
   try refine UE ?_
   obtain⟨V2,hV2⟩:∃V,V=V1.alloc (.cells #[.bool false,VI 0] 33):=Vx;obtain⟨z11,u_⟩:∃z,z=V1.heap.size:=Vx;refine aiZ ?_;intro hB2 K_ S7;refine gY ?_;intro hc2 SF XS l2;clear hV2 hB2 Lt l1 LL hc1;clear u_;refine Zv (rs:=[9,10]) VE Vy ?_;refine(ZO (o:=_) rfl (λY_ Z_=>?u7) (ZO (o:=_) rfl (λY_ Z_=>?rg) ZA))
   case' u7=>
    refine dL ?_;intro V3 T5 hcc YY
    try go_wp2_with fail
    refine Z_.go λhHeld=>?_;clear Z_ Y_;refine fP ?_;intro hc3 l3;refine gI ?_;intro K_;clear hcc XS l2 SF hc2;refine abr ?_;intro hlt hHeld;obtain⟨V4,SW⟩:∃V,V=V3.alloc (.cells #[.bool false,VI 0] 33):=Vx;obtain⟨z10,t_⟩:∃z,z=V3.heap.size:=Vx;refine aki ?_;intro hB4 N_ Ta hc4 Ps S4 K_;clear SW hB4 YY l3 T5 hc3;rw[<- t_]at hlt;clear t_;refine ?lf
   case' rg=>
    have hlt:=(Z5.1 K_).1;refine Vg ?_;intro hHeld;clear Z_ Y_
    try refine UE ?_
    obtain⟨V3,hV0⟩:∃V,V=V2.alloc (.cells #[.bool false,VI 0] 33):=Vx;obtain⟨z10,t_⟩:∃z,z=V2.heap.size:=Vx;refine aaQ ?_;intro j_ N_ Ta;refine eF ?_;intro hc3 T5 YY l3;have K_:=(j_.block z11 (Z5.1 K_).1).trans K_;clear hV0 j_ XS l2 SF hc2;rw[<- t_]at hlt;clear t_;refine dU ?_;intro Y_ Z_ V4 Ps hcc S4
    try go_wp2_with fail
    refine Z_.go λhHeld=>?_;clear Z_ Y_;refine zV ?_;intro hc4 N_ K_;clear hcc YY l3 T5 hc3;refine ?lf
 case' bj=>
  refine Vg ?_;intro hHeld;clear Z_ Y_
  try refine UE ?_
  obtain⟨V1,hV1⟩:∃V,V=V0.alloc (.cells #[.bool false,VI 0] 33):=Vx;obtain⟨z10,t_⟩:∃z,z=V0.heap.size:=Vx;rw[<- hV1,<- t_];have hB1:Below V0.heap.size V0 V1:=by rw[hV1];exact(ZR _ _).alloc UM _
  have N_:V1.heap[z10]?=some (.cells #[.bool false,VI 0] 33):=by rw[hV1,t_];exact(Z4 _ _).1
  have Ta:W1.heap.size<=z10:=by rw[t_];exact hc0.size
  refine aiY ?_;intro hc1 LL Lt l1;clear hV1 hB1;clear t_;refine Zv (rs:=[4,11]) VE Vy ?_;refine(ZO (o:=_) rfl (λY_ Z_=>?oo) (ZO (o:=_) rfl (λY_ Z_=>?ja) ZA))
  case' oo=>
   refine abH ?_;intro V2 SF hcc XS
   try go_wp2_with fail
   refine Z_.go λhHeld=>?_;clear Z_ Y_;refine ac8 ?_;intro hc2 l2;have N_:=(hcc.block z10 (Z5.1 N_).1 VH).trans N_;clear hcc Lt l1 LL hc1;refine Zv (rs:=[9,11]) VE Vy ?_;refine(ZO (o:=_) rfl (λY_ Z_=>?sm) (ZO (o:=_) rfl (λY_ Z_=>?t6) ZA))
   case' sm=>
    refine dL ?_;intro V3 T5 hcc YY
    try go_wp2_with fail
    refine Z_.go λhHeld=>?_;clear Z_ Y_;refine amV ?_;intro hc3 l3 N_;clear hcc XS l2 SF hc2;refine abG ?_;intro hlt hHeld;obtain⟨V4,SW⟩:∃V,V=V3.alloc (.cells #[.bool false,VI 0] 33):=Vx;obtain⟨z11,u_⟩:∃z,z=V3.heap.size:=Vx;refine akc ?_;intro hB4 K_ S7 hc4 Ps S4 N_;clear SW hB4 YY l3 T5 hc3;rw[<- u_]at hlt;clear u_;refine ?lf
   case' t6=>
    have hlt:=(Z5.1 N_).1;refine Vg ?_;intro hHeld;clear Z_ Y_
    try refine UE ?_
    obtain⟨V3,hV0⟩:∃V,V=V2.alloc (.cells #[.bool false,VI 0] 33):=Vx;obtain⟨z11,u_⟩:∃z,z=V2.heap.size:=Vx;refine adU ?_;intro j_ K_ S7;refine eF ?_;intro hc3 T5 YY l3;have N_:=(j_.block z10 (Z5.1 N_).1).trans N_;clear hV0 j_ XS l2 SF hc2;rw[<- u_]at hlt;clear u_;refine dU ?_;intro Y_ Z_ V4 Ps hcc S4
    try go_wp2_with fail
    refine Z_.go λhHeld=>?_;clear Z_ Y_;refine zV ?_;intro hc4 N_ K_;clear hcc YY l3 T5 hc3;refine ?lf
  case' ja=>
   have hlt:=(Z5.1 N_).1;refine Vg ?_;intro hHeld;clear Z_ Y_
   try refine UE ?_
   obtain⟨V2,hV2⟩:∃V,V=V1.alloc (.cells #[.bool false,VI 0] 33):=Vx;obtain⟨z11,u_⟩:∃z,z=V1.heap.size:=Vx;refine aiZ ?_;intro hB2 K_ S7;refine gY ?_;intro hc2 SF XS l2;have N_:=(hB2.block z10 (Z5.1 N_).1).trans N_;clear hV2 hB2 Lt l1 LL hc1;rw[<- u_]at hlt;clear u_;refine Ul 4 λY_ Z_=>?_;refine dL ?_;intro V3 T5 hcc YY
   try go_wp2_with fail
   refine Z_.go λhHeld=>?_;clear Z_ Y_;refine fP ?_;intro hc3 l3;refine akY ?_;intro N_ K_;clear hcc XS l2 SF hc2;refine dU ?_;intro Y_ Z_ V4 Ps hcc S4
   try go_wp2_with fail
   refine Z_.go λhHeld=>?_;clear Z_ Y_;refine zV ?_;intro hc4 N_ K_;clear hcc YY l3 T5 hc3;refine ?lf
 case' Fx3=>
  refine Vg ?_;intro hHeld;clear Z_ Y_
  try refine UE ?_
  obtain⟨V1,hV1⟩:∃V,V=V0.alloc (.cells #[.bool false,VI 0] 33):=Vx;obtain⟨z11,u_⟩:∃z,z=V0.heap.size:=Vx;rw[<- hV1,<- u_];have hB1:Below V0.heap.size V0 V1:=by rw[hV1];exact(ZR _ _).alloc UM _
  have K_:V1.heap[z11]?=some (.cells #[.bool false,VI 0] 33):=by rw[hV1,u_];exact(Z4 _ _).1
  have S7:W1.heap.size<=z11:=by rw[u_];exact hc0.size
  refine aiY ?_;intro hc1 LL Lt l1;clear hV1 hB1;clear u_;refine Zv (rs:=[4,10]) VE Vy ?_;refine(ZO (o:=_) rfl (λY_ Z_=>?gi) (ZO (o:=_) rfl (λY_ Z_=>?mE) ZA))
  case' gi=>
   refine abH ?_;intro V2 SF hcc XS
   try go_wp2_with fail
   refine Z_.go λhHeld=>?_;clear Z_ Y_;refine ac8 ?_;intro hc2 l2;refine gI ?_;intro K_;clear hcc Lt l1 LL hc1;refine Zv (rs:=[9,10]) VE Vy ?_;refine(ZO (o:=_) rfl (λY_ Z_=>?si) (ZO (o:=_) rfl (λY_ Z_=>?rv) ZA))
   case' si=>
    refine dL ?_;intro V3 T5 hcc YY
    try go_wp2_with fail
    refine Z_.go λhHeld=>?_;clear Z_ Y_;refine fP ?_;intro hc3 l3;refine gI ?_;intro K_;clear hcc XS l2 SF hc2;refine abr ?_;intro hlt hHeld;obtain⟨V4,SW⟩:∃V,V=V3.alloc (.cells #[.bool false,VI 0] 33):=Vx;obtain⟨z10,t_⟩:∃z,z=V3.heap.size:=Vx;refine aki ?_;intro hB4 N_ Ta hc4 Ps S4 K_;clear SW hB4 YY l3 T5 hc3;rw[<- t_]at hlt;clear t_;refine ?lf
   case' rv=>
    have hlt:=(Z5.1 K_).1;refine Vg ?_;intro hHeld;clear Z_ Y_
    try refine UE ?_
    obtain⟨V3,hV0⟩:∃V,V=V2.alloc (.cells #[.bool false,VI 0] 33):=Vx;obtain⟨z10,t_⟩:∃z,z=V2.heap.size:=Vx;refine aaQ ?_;intro j_ N_ Ta;refine eF ?_;intro hc3 T5 YY l3;have K_:=(j_.block z11 (Z5.1 K_).1).trans K_;clear hV0 j_ XS l2 SF hc2;rw[<- t_]at hlt;clear t_;refine dU ?_;intro Y_ Z_ V4 Ps hcc S4
    try go_wp2_with fail
    refine Z_.go λhHeld=>?_;clear Z_ Y_;refine zV ?_;intro hc4 N_ K_;clear hcc YY l3 T5 hc3;refine ?lf
  case' mE=>
   have hlt:=(Z5.1 K_).1;refine Vg ?_;intro hHeld;clear Z_ Y_
   try refine UE ?_
   obtain⟨V2,hV2⟩:∃V,V=V1.alloc (.cells #[.bool false,VI 0] 33):=Vx;obtain⟨z10,t_⟩:∃z,z=V1.heap.size:=Vx;refine agO ?_;intro hB2 N_ Ta;refine gY ?_;intro hc2 SF XS l2;have K_:=(hB2.block z11 (Z5.1 K_).1).trans K_;clear hV2 hB2 Lt l1 LL hc1;rw[<- t_]at hlt;clear t_;refine Ul 4 λY_ Z_=>?_;refine dL ?_;intro V3 T5 hcc YY
   try go_wp2_with fail
   refine Z_.go λhHeld=>?_;clear Z_ Y_;refine fP ?_;intro hc3 l3;refine akY ?_;intro N_ K_;clear hcc XS l2 SF hc2;refine dU ?_;intro Y_ Z_ V4 Ps hcc S4
   try go_wp2_with fail
   refine Z_.go λhHeld=>?_;clear Z_ Y_;refine zV ?_;intro hc4 N_ K_;clear hcc YY l3 T5 hc3;refine ?lf
 all_goals
  have u0:V4.cell? (VJ z10 0)=some (.bool false):=by simp only[World.cell?,N_];rfl
  have u1:V4.cell? (VJ z10 1)=some (VI 0):=by simp only[World.cell?,N_];rfl
  have uf:∀o,V4.frozen? (VJ z10 o)=false:=λo=>UL.free ⟨_,_,N_⟩ o;have v0:V4.cell? (VJ z11 0)=some (.bool false):=by simp only[World.cell?,K_];rfl
  have v1:V4.cell? (VJ z11 1)=some (VI 0):=by simp only[World.cell?,K_];rfl
  have vf:∀o,V4.frozen? (VJ z11 o)=false:=λo=>UL.free ⟨_,_,K_⟩ o;have q0:¬z10=z11:=λe=>VH;have q1:¬z11=z10:=λe=>q0 e.symm;have q2:¬z10=rb:=VH;have q2:¬z11=rb:=VH;have q2:¬fb=z10:=VH;have q7:¬fb=z11:=VH;refine jf ?_;intro hHeld;refine Ul 13 λY_ Z_=>?_;refine Vg ?_;intro hHeld;clear Z_ Y_;refine Um ?_;obtain⟨W5,hW1⟩:∃W5,W5=(((V4.setCell (VJ z10 0) (.bool b.obj)).setCell (VJ z10 1) (VI b.n)).setCell (VJ z11 0) (.bool a.obj)).setCell (VJ z11 1) (VI a.n):=Vx;rw[<- hW1];have De:W5.heap[z10]?=some (.cells #[.bool b.obj,VI b.n] 33):=by rw[hW1,ZW _ _ _ _ q0,ZW _ _ _ _ q0];exact set2 N_
  have DQ:W5.heap[z11]?=some (.cells #[.bool a.obj,VI a.n] 33):=by rw[hW1];exact set2 ((ZW _ _ _ _ q1).trans ((ZW _ _ _ _ q1).trans K_))
  have hc0:Vt W1 W5 (λk=>k=fb):=by rw[hW1];exact(((hc4.setCell _ _ fV).setCell _ _ fV).setCell _ _ fV).setCell _ _ fV
  have vE:Un W5 fb (some (VJ mk 0)) (some (VJ (K.cb f.home) 0)) f.self f.args f.pc r (bs.head?.map (·.1)):=by rw[hW1];exact Ps.same ((ZW _ _ _ _ q7).trans ((ZW _ _ _ _ q7).trans ((ZW _ _ _ _ q2).trans (ZW _ _ _ _ q2))))
  clear hW1 u0 u1 uf v0 v1 vf N_ K_ S4 Ps hc4;have u0:W5.cell? (VJ z10 0)=some (.bool b.obj):=by simp only[World.cell?,De];rfl
  have u1:W5.cell? (VJ z10 1)=some (VI b.n):=by simp only[World.cell?,De];rfl
  have v0:W5.cell? (VJ z11 0)=some (.bool a.obj):=by simp only[World.cell?,DQ];rfl
  have v1:W5.cell? (VJ z11 1)=some (VI a.n):=by simp only[World.cell?,DQ];rfl
  have Fc:=(Z5.1 De).1;have CF:=(Z5.1 DQ).1;have ye:=(Z9 (a:=(VJ rb 24)) (hc0.block _ l1 HB.o.n1)).trans HB.o.ct;have l1:=ZY l1 hc0.size;have t5:Hid _:=vE;have vm:Hid _:=hc0;clear De DQ vE hc0;go_wp2_with fail;refine Uy ?_;refine ZT (S:=(λw'=>w'.cell? (VJ rb 24)=some (VG fb)/\w'.cell? (VJ z10 0)=some (.bool b.obj)/\w'.cell? (VJ z10 1)=some (VI b.n)/\w'.cell? (VJ z11 0)=some (.bool a.obj)/\w'.cell? (VJ z11 1)=some (VI a.n))) VE UG (λhHeld=>?_);refine IC ?_;refine Ul 6 λY_ Z_=>?_;go_simp;have hif:=afO a b (λq=>(Result.ok (Next.value (Value.bool q)) W5.drew:Result Next));rw[hif,Oper.upon_value];refine Z_.go λhHeld=>?_;clear Z_ Y_
  try refine UE ?_
  have htr:=zh (decide (a=b)) W5.drew;refine Ul 7 λY_ Z_=>?_;go_simp;refine htr.mono ?_;rintro e w6 ⟨rfl,Pw⟩;have T0:=RH Pw;have ye:=(T0.cell (p:=(VJ rb 24)) l1).trans ye;have u0:=(T0.cell (p:=(VJ z10 0)) Fc).trans u0;have u1:=(T0.cell (p:=(VJ z10 1)) Fc).trans u1;have v0:=(T0.cell (p:=(VJ z11 0)) CF).trans v0;have v1:=(T0.cell (p:=(VJ z11 1)) CF).trans v1
  try go_wp2_with fail
  refine Z_.go λhHeld=>?_;clear Z_ Y_
  try refine UE ?_
  have v7:=t5.o.same (T0.block fb t5.o.Vb.lt);have p_:=RX v7 VH (vG (decide (a=b)));have sP:=T0.size;have vm:Hid _:=vm.o.then (Vt.of_below T0 (λ_=>False)) Js;clear htr Pw v7 hif;refine Ul 8 λY_ Z_=>?_;refine CV ?_;rintro e w6 ⟨rfl,v7,hc0⟩;have ye:=(Z9 (a:=(VJ rb 24)) (hc0.block _ (ZY l1 sP) HB.o.n1)).trans ye;have u0:=(Z9 (a:=(VJ z10 0)) (hc0.block _ (ZY Fc sP) (λe=>q2 e.symm))).trans u0;have u0:=(Z9 (a:=(VJ z10 1)) (hc0.block _ (ZY Fc sP) (λe=>q2 e.symm))).trans u1;have v0:=(Z9 (a:=(VJ z11 0)) (hc0.block _ (ZY CF sP) (λe=>q7 e.symm))).trans v0;have v0:=(Z9 (a:=(VJ z11 1)) (hc0.block _ (ZY CF sP) (λe=>q7 e.symm))).trans v1
  try go_wp2_with fail
  refine Z_.go λhHeld=>?_;clear Z_ Y_;refine Um ?_
  go_end0
  exact⟨rfl,K,_,HB.o.sg.top (f':={f with st:=vG (decide (a=b))::r}) h0 (vm.o.then hc0 Qi) v7 rfl rfl⟩
theorem Gp {rb:Nat}{fuel:Nat}(h:Sg Dd w0 m0 K0 rb w m K fuel bs fs)(h0:Qv w0){p:Nat}{s:ByteArray}(hp:(p,s)∈K.k.L)(C_:Option Nat)(Wr:∀x,C_=some x->x<m.kl.length)(hs:s.size<=1000)
 (to:Vl) {av:Value}{args:List Vl}{ab:Nat} (W8:UH w av args ab) (hab:args≠[]->ab<w.heap.size/\ab≠rb/\¬U2 m K ab) (h3:args.length<=3) (C':fs.length<=32):
 Calls prog 89 #[VG rb,VG p,.agg #[.pointer (Vq (C_.map K.cb)),.string s],to.val,av] w (aa1 Dd w0 m0 K0 rb (m.send fuel C_ to s args fs) w m K):=by
 cases n_:K.says m s C_ with
 | none=>exact bI h h0 hp C_ Wr hs to W8 hab h3 C' n_
 | some x=>exact kK h h0 hp C_ Wr hs to W8 hab h3 C' n_
theorem uo (fb a k:Nat)(h:a+k<=16)(w:World):∃ap,(Instr.sliceAt 210 (.pointer (some (VJ fb 11))) (some (VI (a:Nat))) (some (VI ((a:Int)+(k:Int)))) none).run prog w=.ok (.slice ap k (16-a)) w/\(1<=k->ap=some (VJ fb (11+a*2))):=by
 obtain⟨i0,hi,_,hs,_⟩:=YQ Ho;have h1:¬((a:Int)+(k:Int)<0):=VH;have h2:¬((16:Int)<(a:Int)+(k:Int)):=VH;have h3:¬((a:Int)+(k:Int)<(a:Int)):=VH;have h4:((a:Int)+(k:Int)).toNat=a+k:=VH;simp[Instr.sliceAt,Instr.sureAddr,Instr.sliceBounds,Instr.sliceBound,Zu underlying210,Go.sizeOf,typeInfo,hi,hs,h1,h2,h3,h4,Addr.add,asIntOf];rw[ZU mF];refine⟨_,rfl,λhk=>?_⟩;rw[ZX VH];by_cases e:a*2=0
 . rw[ZU e,e]
 . rw[ZX e]
theorem afl (st:List Vl)(k:Nat)(hk:k<=st.length){fb:Nat}(hc:∀i v,st.reverse[i]?=some v->w.cell? (VJ fb (11+i*2))=some (.bool v.obj)/\w.cell? (VJ fb (11+i*2+1))=some (VI v.n)):
 ∀j u,(vcs (st.take k).reverse)[j]?=some u->w.cell? ((VJ fb (11+(st.length-k)*2)).add j)=some u:=λj u hu=>by
 have hadd:(VJ fb (11+(st.length-k)*2)).add j=(VJ fb (11+(st.length-k)*2+j)):=qP;rw[hadd];have hl:=(Z7.1 hu).1;rw[Kr,X9,Za,XT hk]at hl;have hi:j / 2<k:=VH
 obtain⟨v,hv⟩:∃v,(st.take k).reverse[j / 2]?=some v:=⟨_,Z8 Vo⟩
 have hv':st.reverse[st.length-k+j / 2]?=some v:=by
  rw[<- hv,List.reverse_take,Zn]
 obtain⟨e1,e2⟩:=hc _ v hv';obtain⟨g1,g2⟩:=PV _ _ v hv;rcases WE j with h2|h2
 . have ej:j=j / 2*2:=by omega
   rw[ej,g1]at hu;rw[<- hu,show 11+(st.length-k)*2+j=11+(st.length-k+j / 2)*2 from VH];exact e1
 . have ej:j=j / 2*2+1:=by omega
   rw[ej,g2]at hu;rw[<- hu,show 11+(st.length-k)*2+j=11+(st.length-k+j / 2)*2+1 from VH];exact e2
structure Qs (w:World)(av:Value)(st:List Vl)(k fb:Nat):Prop where
 val:∃ap,av=.slice ap k (16-(st.length-k))/\(1<=k->ap=some (VJ fb (11+(st.length-k)*2)))
 cell:∀j u,(vcs (st.take k).reverse)[j]?=some u->w.cell? (VJ fb (11+(st.length-k)*2+j))=some u
theorem Qs.args {av:Value}{st:List Vl}{k fb:Nat}(h:Qs w av st k fb)(hk:k<=st.length):UH w av (st.take k).reverse fb:=by
 obtain⟨ap,e1,e2⟩:=h.val;have hlen:(st.take k).reverse.length=k:=Vo;refine⟨ap,_,by rw[hlen];exact e1,λhne=>⟨_,e2 ?_,rfl,λj u hu=>?_⟩⟩
 . cases k with
   | zero=>simp at hne
   | succ n=>omega
 . rw[XJ];exact h.cell j u hu
variable {w' : World}
theorem Qs.keep {av:Value}{st:List Vl}{k fb:Nat}(h:Qs w av st k fb)(hk:k<=st.length)(h_:st.length<=16)(e:∀o,o≠43->w'.cell? (VJ fb o)=w.cell? (VJ fb o)):Qs w' av st k fb:=
 ⟨h.val,λj u hu=>(e _ (by
  have hl:=(Z7.1 hu).1;rw[Kr,X9,Za,XT hk]at hl
  omega)).trans (h.cell j u hu)⟩
theorem Ht {fb:Nat}{mp kp:Option Addr}{sf:Vl}{args:List Vl}{pc:Nat}{st:List Vl}{snd:Option Nat}(h:Un w fb mp kp sf args pc st snd){k:Nat}(hk:k<=st.length):
 Calls prog 148 #[VG fb,VI (k:Nat)] w λe w'=>(∃av,e=.returned av/\Qs w' av st k fb)/\Un w' fb mp kp sf args pc (st.drop k) snd/\Vt w w' (λk=>k=fb):=by
 have h_:=h.s16;have ch:=h.ch;have fz:=λo=>h.Vb.free o
 obtain⟨a,ha⟩:∃a,st.length=a+k:=⟨st.length-k,VH⟩
 have I0:st.length-k=a:=VH;have hfr:=h.take hk;rw[I0]at hfr;obtain⟨ap,hsl,hap⟩:=uo fb a k VH ((w.setCell (VJ fb 43) (VI (a:Nat))).drew);rw[ha]at ch;simp only[XK]at ch;have cz:(a:Int)<=16:=VH;have HF:Hid _:=hfr
 have HA:Hid (∀j u,(vcs (st.take k).reverse)[j]?=some u->(w.setCell (VJ fb 43) (VI (a:Nat))).cell? ((VJ fb (11+a*2)).add j)=some u):=by
  have hx:=afl st k hk (w:=w.setCell (VJ fb 43) (VI (a:Nat))) (fb:=fb) (λi v hv=>by
   have hi:=(Z7.1 hv).1;simp at hi
   exact⟨(fo _ _ _ _ VH).trans (h.cs i v hv).1,(fo _ _ _ _ VH).trans (h.cs i v hv).2⟩)
  rw[I0]at hx;exact hx
 have HP:Hid _:=hap;clear h hfr hap I0;go_enter func148,ntmps148;go_wp2_with fail;obtain⟨W2,hW2⟩:∃W2,W2=w.setCell (VJ fb 43) (VI (a:Nat)):=Vx;rw[<- hW2]at hsl HF HA ⊢
 have HC:Hid (Vt w W2 (λk=>k=fb)):=by
  have hx:Vt w W2 (λk=>k=fb):=by rw[hW2];exact(Vt.refl w (λk=>k=fb)).setCell _ _ (λ_=>rfl)
  exact hx
 have ch2:W2.cell? (VJ fb 43)=some (VI (a:Nat)):=by rw[hW2];exact Vr ch
 have hwr:IntKind.i64.wrap ((a:Int)+(k:Int))=(a:Int)+(k:Int):=Ar;clear hW2 ch fz;refine Uy ?_;refine ZT (S:=(λw'=>w'.cell? (VJ fb 43)=some (VI (a:Nat)))) VE UG (λhHeld=>?_);refine KG ?_;refine uZ ?_;refine Ul 13 λY_ Z_=>?_;refine Vg ?_;intro hHeld;clear Z_ Y_
 try refine UE ?_
 refine Ur 14 ?_;refine Nr ?_;clear hsl;go_wp2
 go_ret
 have I0:st.length-k=a:=VH;refine⟨⟨_,rfl,⟨ap,by rw[I0];rfl,by rw[I0];exact HP.o⟩,λj u hu=>?_⟩,HF.o.same rfl,HC.o.drew⟩;have:=HA.o j u hu;rw[XJ]at this;rw[I0];exact this
theorem of_lt (h:U3 m){v:Vl}(hv:TF m v):∀c,m.of v=some c->c<m.kl.length:=λc e=>by
 unfold Im.of at e;by_cases ho:v.obj=true
 . rw[ZU ho]at e;obtain⟨o,e1,e2⟩:=Yl.1 e;subst e2;exact(h.obj o (ZK e1)).1
 . rw[ZX ho]at e;injection e with e;subst e;have:=h.two;omega
theorem yu (m:Im)(fuel:Nat)(C_:Option Nat)(to:Vl)(sel:ByteArray)(args:List Vl)(fs:List Fr)(m':Im)(v:Vl):m.send fuel C_ to sel args fs≠.told m' v:=by
 unfold Im.send
 repeat' split
 all_goals (intro e;cases e)
theorem ahe {rb:Nat}{fuel fuel':Nat}{bs bs':List (Nat×Nat)}{fs Sf:List Fr}(h:Sg Dd w0 m0 K0 rb w m K fuel bs fs)(h':Sg Dd w0 m0 K0 rb w' m' K' fuel' bs' Sf):w'.cell? (VJ rb 0)=some (VG K.b):=by
 have:=h'.run.c0;rw[h'.Qj.b,<- h.Qj.b]at this;exact this
theorem ae8 {rb:Nat}{fuel fb mk:Nat}(h:Sg Dd w0 m0 K0 rb w m K fuel ((fb,mk)::bs) (f::fs))(h0:Qv w0)(x:Kn.W)(hk:x.k=115){n p:Nat}(hn:x.n=n)(Te:n<=3){to:Vl}{r:List Vl}(hst:f.st.drop n=to::r)(X_:TF m to)(hp:(p,VF x.sel)∈K.k.L)(hs:(VF x.sel).size<=1000)(C':fs.length+1<=32):
 Calls prog 128 #[VG rb,Uo x (some (VJ p 0))] w (TV Dd w0 m0 K0 rb (VA m fuel x f fs)):=by
 have hw:VA m fuel x f fs=m.send fuel (m.of to) to (VF x.sel) (f.st.take n).reverse ({f with st:=r}::fs):=by unfold VA;simp[hk,hn,hst]
 rw[hw]
 have hnl:n<=f.st.length:=by
  have:=YV List.length hst;simp at this;omega
 have Kp:(f.st.take n).reverse.length<=3:=Vo;obtain⟨W1,hW1⟩:∃W1,W1=w.alloc (.cells (TQ x (some (VJ p 0))) 146):=Vx;have B:=h.box x (some (VJ p 0)) hW1;have ct:=B.ct;have x1:=B.x1;have x3:=B.x3;have x5:=B.x5;rw[hn]at x1;have l1:=B.l1;have l2:=B.l2;have l2:=B.l3;have Mr:=Ht (w:=W1.drew) yG hnl;have HB:Hid _:=B
 have HH:Hid (f.st.drop n=to::r/\TF m to/\(p,VF x.sel)∈K.k.L):=⟨hst,X_,hp⟩
 refine yK ?_;intro Wg;unfold TQ at hW1;unfold Uo TQ;clear B h hw hk hn hst X_ hp;go_enter func128,ntmps128;go_wp2_with fail;rw[<- hW1];clear hW1;refine Uy ?_;refine ahI ?_;intro hHeld;refine IC ?_;refine Ul 6 λY_ Z_=>?_;go_simp;refine Mr.mono ?_;rintro e w2 ⟨⟨av,rfl,hsa⟩,hf2,hc2⟩;have XS:=(Z9 (a:=(VJ rb 24)) iY).trans ct;have x12:=(Z9 (a:=(VJ w.heap.size 1)) (hc2.block _ l2 HB.o.n2)).trans x1
 try go_wp2_with fail
 refine Z_.go λhHeld=>?_;clear Z_ Y_
 try refine UE ?_
 refine Ur 7 ?_;refine Nr ?_;have Av:=hf2;rw[HH.o.1]at Av;have htk:=qU Av;unfold Vl.val at htk
 have MD:Hid (Vt W1 w2 (λk=>k=fb)/\Qs w2 av f.st n fb):=⟨(Vt.refl W1 _).drew.then hc2 Qi,hsa⟩
 clear Mr hsa hf2 Av hc2;go_wp2_with fail;refine htk.mono ?_;rintro e w2 ⟨rfl,hf2,hc2,hce⟩
 have B7:Hid (Vt W1 w2 (λk=>k=fb)/\Qs w2 av f.st n fb):=by
  have hx:Vt W1 w2 (λk=>k=fb)/\Qs w2 av f.st n fb:=⟨MD.o.1.then hc2 Qi,MD.o.2.keep hnl HB.o.sg.LY.1.raw.s16 hce⟩
  exact hx
 have za:Hid _:=hf2;clear htk hf2 hce hc2;go_wp2_with fail;obtain⟨W4,hW1⟩:∃W4,W4=w2.alloc (.cells #[.bool to.obj,VI to.n] 33):=Vx;rw[<- hW1];have hb4:Below w2.heap.size w2 W4:=fQ;have So:W4.heap[w2.heap.size]?=some (.cells #[.bool to.obj,VI to.n] 33):=abf;have h3:=HB.o.sg.top (f':={f with st:=r}) h0 B7.o.1 za.o rfl rfl;have h4:=h3.below hb4;have hs3:=B7.o.1.size;have Bi:∀o,W4.cell? (VJ w.heap.size o)=W1.cell? (VJ w.heap.size o):=λo=>(hb4.cell (p:=(VJ w.heap.size o)) ahZ).trans (Z9 (a:=(VJ w.heap.size o)) (B7.o.1.block _ l2 HB.o.n2));have y3:=(Bi 3).trans x3;have y5:=(Bi 5).trans x5;have y0:=h4.run.c0;have v0:W4.cell? (VJ w2.heap.size 0)=some (.bool to.obj):=by simp only[World.cell?,So];rfl
 have v1:W4.cell? (VJ w2.heap.size 1)=some (VI to.n):=by simp only[World.cell?,So];rfl
 have Bu:=E5 (h4.Qj.Ub.drew) to HH.o.2.1;unfold Vl.val at Bu;have l1:=h4.run.Vb.lt;have l2:w.heap.size<W4.heap.size:=by have:=hb4.size;omega
 have ew:=(Z5.1 So).1
 have H4:Hid (Sg Dd w0 m0 K0 rb W4 m K fuel ((fb,mk)::bs) ({f with st:=r}::fs)/\Qs W4 av f.st n fb):=by
  have hx:Sg Dd w0 m0 K0 rb W4 m K fuel ((fb,mk)::bs) ({f with st:=r}::fs)/\Qs W4 av f.st n fb:=⟨h4,B7.o.2.keep hnl HB.o.sg.LY.1.raw.s16 (λo _=>hb4.cell (p:=(VJ fb o)) (by show fb<w2.heap.size;omega))⟩
  exact hx
 clear hW1 h3 h4 Bi So hb4 ct x1 x3 x5 XS x12;refine ZT (S:=(λw'=>w'.cell? (VJ rb 0)=some (VG K.b)/\w'.cell? (VJ w.heap.size 3)=some (.string (VF x.sel))/\w'.cell? (VJ w.heap.size 5)=some (VG p)/\w'.cell? (VJ w2.heap.size 0)=some (.bool to.obj)/\w'.cell? (VJ w2.heap.size 1)=some (VI to.n))) VE UG (λhHeld=>?_);refine zr1 ?_;refine Uh 7 ?_;refine dX ?_;refine Uh 12 ?_;refine Ur 13 ?_;refine Ul 8 λY_ Z_=>?_;go_simp;refine Bu.mono ?_;rintro e w5 ⟨rfl,hb4⟩;have Nn:=RH hb4;have y0:=(Nn.cell (p:=(VJ rb 0)) l1).trans y0;have y3:=(Nn.cell (p:=(VJ w.heap.size 3)) l2).trans y3;have y5:=(Nn.cell (p:=(VJ w.heap.size 5)) l2).trans y5;have v0:=(Nn.cell (p:=(VJ w2.heap.size 0)) ew).trans v0;have v1:=(Nn.cell (p:=(VJ w2.heap.size 1)) ew).trans v1
 try go_wp2_with fail
 refine Z_.go λhHeld=>?_;clear Z_ Y_
 try refine UE ?_
 have h3:=H4.o.1.below Nn;have eW:=(H4.o.2.keep hnl HB.o.sg.LY.1.raw.s16 (λo _=>Nn.cell (p:=(VJ fb o)) ((H4.o.1.lo fb Vy).2.1))).args hnl;have hlo:=h3.lo fb Vy;have w_:=Gp h3 h0 HH.o.2.2 (m.of to) (of_lt h3.ok HH.o.2.1) hs to eW (λ_=>⟨hlo.2.1,λe=>HB.o.n1 e.symm,hlo.2.2⟩) Kp C';unfold Vl.val at w_;have hs3:=Nn.size;clear Bu hb4 h3 eW;refine Ur 11 ?_;refine Ul 14 λY_ Z_=>?_;refine FT ?_;rintro e w5 ⟨T9,Z2⟩;have hq1:rb≠w.heap.size:=λe=>HB.o.n3 e.symm
 cases hg:m.send fuel (m.of to) to (VF x.sel) (f.st.take n).reverse ({f with st:=r}::fs) with
 | told m' v=>exact absurd hg (yu _ _ _ _ _ _ _ _ _)
 | stop m' n'=>
  rw[hg]at T9;obtain⟨rfl,K',hst⟩:=T9;exact⟨rfl,rfl,K',hst⟩
 | on m' fuel' Sf=>
  rw[hg]at T9;obtain⟨rfl,K',bs',h3⟩:=T9;have Z2:=Z2 rfl;have hxb:=Z2 w.heap.size VH aaY (λe=>hq1 e.symm);have hvb:=Z2 w2.heap.size VH aaY (λe=>VH);have y0:=ahe H4.o.1 h3;refine aiU ?_;intro _ y3;have v0:=(Z9 (a:=(VJ w2.heap.size 0)) hvb).trans v0;have v0:=(Z9 (a:=(VJ w2.heap.size 1)) hvb).trans v1;have H4:Hid _:=h3;clear h3 Z2 w_;refine Z_.go λhHeld=>?_;clear Z_ Y_;refine DT ?_
  go_end0
  rw[hg];exact⟨rfl,K',bs',H4.o⟩
theorem aa4 {rb:Nat}{fuel fb mk:Nat}(h:Sg Dd w0 m0 K0 rb w m K fuel ((fb,mk)::bs) (f::fs))(h0:Qv w0)(x:Kn.W)(hk:x.k=94){n p:Nat}(hn:x.n=n)(Te:n<=3)(hnl:n<=f.st.length)(hp:(p,VF x.sel)∈K.k.L)(hs:(VF x.sel).size<=1000)(C':fs.length+1<=32):
 Calls prog 129 #[VG rb,Uo x (some (VJ p 0))] w (TV Dd w0 m0 K0 rb (VA m fuel x f fs)):=by
 have hw:VA m fuel x f fs=m.send fuel (m.ab f.home) f.self (VF x.sel) (f.st.take n).reverse ({f with st:=f.st.drop n}::fs):=by unfold VA Im.ab;simp[hk,hn]
 rw[hw];have Kp:(f.st.take n).reverse.length<=3:=Vo;obtain⟨W1,hW1⟩:∃W1,W1=w.alloc (.cells (TQ x (some (VJ p 0))) 146):=Vx;have B:=h.box x (some (VJ p 0)) hW1;have ct:=B.ct;have x1:=B.x1;have x3:=B.x3;have x5:=B.x5;rw[hn]at x1;have l1:=B.l1;have l3:=B.l3;have Mr:=Ht (w:=W1.drew) yG hnl;have HB:Hid _:=B
 have HH:Hid ((p,VF x.sel)∈K.k.L/\f.home<m.kl.length):=⟨hp,h.homes f Po⟩
 refine yK ?_;intro Wg;unfold TQ at hW1;unfold Uo TQ;clear B h hw hk hn hp;go_enter func129,ntmps129;go_wp2_with fail;rw[<- hW1];clear hW1;refine Uy ?_;refine ahI ?_;intro hHeld;refine IC ?_;refine Ul 6 λY_ Z_=>?_;go_simp;refine Mr.mono ?_;rintro e w2 ⟨⟨av,rfl,hsa⟩,hf2,hc2⟩;have XS:=(Z9 (a:=(VJ rb 24)) iY).trans ct;have x12:=(Z9 (a:=(VJ w.heap.size 1)) (hc2.block _ l3 HB.o.n2)).trans x1
 try go_wp2_with fail
 refine Z_.go λhHeld=>?_;clear Z_ Y_
 try refine UE ?_
 refine Ur 7 ?_;refine Nr ?_;have Hj:=(Vt.refl W1 _).drew.then hc2 Qi;have h2:=HB.o.sg.top (f':={f with st:=f.st.drop n}) h0 Hj hf2 rfl rfl;have s1:=hf2.c1;have s2:=hf2.c2;have s3:=hf2.c3;have hab:=h2.Qj.Ub.cls.above HH.o.2;have l1:=hf2.Vb.lt;have l32:=ZY l3 Hj.size;have y3:=(Z9 (a:=(VJ w.heap.size 3)) (Hj.block _ l3 HB.o.n2)).trans x3;have y5:=(Z9 (a:=(VJ w.heap.size 5)) (Hj.block _ l3 HB.o.n2)).trans x5;have H2:Hid _:=h2;have ha2:=hsa.args hnl;have hlo:=h2.lo fb Vy;have w_:=Gp (h2.below (ZR _ _).drew) h0 HH.o.1 (m.ab f.home) (λc e=>CS h2.ok e) hs f.self (ha2.same (w':=w2.drew) (λ_=>rfl)) (λ_=>⟨hlo.2.1,λe=>HB.o.n1 e.symm,hlo.2.2⟩) Kp C';unfold Vl.val at w_;clear Mr hsa ha2 h2 hf2 hc2 Hj ct x1 x3 x5 x12 hlo;go_wp2_with fail;refine ZT (S:=(λw'=>w'.cell? (VJ w.heap.size 3)=some (.string (VF x.sel))/\w'.cell? (VJ w.heap.size 5)=some (VG p)/\w'.cell? (VJ fb 1)=some ((VG (K.cb f.home)))/\w'.cell? (VJ fb 2)=some (.bool f.self.obj)/\w'.cell? (VJ fb 3)=some (VI f.self.n))) VE UG (λhHeld=>?_);refine zr3 ?_;refine Uh 13 ?_;refine Uh 14 ?_;refine Uh 16 ?_;refine Uh 17 ?_;refine Uh 18 ?_;refine Ur 23 ?_;refine Zv (rs:=[6,19]) VE Vy ?_;refine(ZO (o:=_) rfl (λY_ Z_=>?_) (ZO (o:=_) rfl (λY_ Z_=>?_) ZA))
 case' refine_2=>
  refine Vg ?_;intro hHeld;clear Z_ Y_
  try refine UE ?_
  refine Uh 20 ?_;refine Uh 21 ?_;refine Ur 22 ?_;refine Bf ?_;intro hHeld;refine aku ?_;refine Ur 11 ?_;refine jf ?_;intro hHeld;refine Ur 15 ?_
 case' refine_1=>
  refine Vg ?_;intro hHeld;clear Z_ Y_
  try refine UE ?_
  refine aku ?_;refine Ur 11 ?_;refine Zv (rs:=[12,19]) VE Vy ?_;refine(ZO (o:=_) rfl (λY_ Z_=>?_) (ZO (o:=_) rfl (λY_ Z_=>?_) ZA))
  case' refine_1=>
   refine Vg ?_;intro hHeld;clear Z_ Y_
   try refine UE ?_
   refine Ur 15 ?_;refine Ul 19 λY_ Z_=>?_;refine Vg ?_;intro hHeld;clear Z_ Y_
   try refine UE ?_
   refine Uh 20 ?_;refine Uh 21 ?_;refine Ur 22 ?_
  case' refine_2=>
   refine Vg ?_;intro hHeld;clear Z_ Y_
   try refine UE ?_
   refine Uh 20 ?_;refine Uh 21 ?_;refine Ur 22 ?_;refine jf ?_;intro hHeld;refine Ur 15 ?_
 all_goals
  refine Ul 24 λY_ Z_=>?_;refine FT ?_;rintro e w2 ⟨T9,Z2⟩;have hq1:rb≠w.heap.size:=λe=>HB.o.n3 e.symm
  cases hg:m.send fuel (m.ab f.home) f.self (VF x.sel) (f.st.take n).reverse ({f with st:=f.st.drop n}::fs) with
  | told m' v=>exact absurd hg (yu _ _ _ _ _ _ _ _ _)
  | stop m' n'=>
   rw[hg]at T9;obtain⟨rfl,K',hst⟩:=T9;exact⟨rfl,rfl,K',hst⟩
  | on m' fuel' Sf=>
   rw[hg]at T9;obtain⟨rfl,K',bs',h2⟩:=T9;have Z2:=Z2 rfl;have hxb:=Z2 w.heap.size l32 aaY (λe=>hq1 e.symm);have hfb:=Z2 fb l1 ((H2.o.lo fb Vy).2.2) (λe=>HB.o.n1 e.symm);refine aiU ?_;intro _ y3;have s1:=(Z9 (a:=(VJ fb 1)) hfb).trans s1;have s1:=(Z9 (a:=(VJ fb 2)) hfb).trans s2;have s1:=(Z9 (a:=(VJ fb 3)) hfb).trans s3;have H2:Hid _:=h2;clear h2 Z2 w_;refine Z_.go λhHeld=>?_;clear Z_ Y_;refine DT ?_
   go_end0
   rw[hg];exact⟨rfl,K',bs',H2.o⟩
theorem ak5 {rb:Nat}{fuel fb mk:Nat}(h:Sg Dd w0 m0 K0 rb w m K fuel ((fb,mk)::bs) ({f with pc:=f.pc+1}::fs)) (h0:Qv w0) (x:Kn.W×Nat) (pl:Option Addr)
 (hf:Rk m 0 f) (I':∀g∈fs,Rk m 1 g) (C':fs.length+1<=32) (hx:f.ws[f.pc]?=some x) (hpl:UO x.1=true->∃p,pl=some (VJ p 0)/\(p,VF x.1.sel)∈K.k.L):
 Calls prog (doF (kindOf x.1.k)) #[VG rb,Uo x.1 pl] w (TV Dd w0 m0 K0 rb (VA m fuel x.1 {f with pc:=f.pc+1} fs)):=by
 have hm:=h.ok;have ZZ:=hf.good.fine f.pc x hx;have N2:=hf.good.shp f.pc x hx;have hst:=xg hf hx;have hro:=rC hf hx;have hag:=y7 hf hx;have hsl:=BU hm hf hx;have o_:=ZZ.kind
 have hroom:∀g gs,fs=g::gs->g.st.length<16:=λg gs e=>by
  have:=Nq (I' g (by rw[e];simp)).at_;omega
 obtain⟨⟨k,n,sl,xa,xb⟩,xi⟩:=x;simp only at o_ hst hro hag hsl hpl ZZ N2 ⊢;simp only[kinds,ZM,Zx,YE]at o_;rcases o_ with rfl|rfl|rfl|rfl|rfl|rfl|rfl|rfl|rfl|rfl|rfl|rfl|rfl|rfl|rfl|rfl|rfl|rfl|rfl|rfl|rfl|rfl
 . exact eG h h0 _ pl rfl zH
 . exact agE h h0 _ pl rfl zH
 . have h1:=hag rfl;have h1:=N2.low NP;simp only at h1;obtain⟨i,hi⟩:∃i:Nat,n=i:=Dv;have h3:=hf.few
   obtain⟨v,hv⟩:∃v,f.args[i]?=some v:=⟨_,Z8 VH⟩
   exact alG h h0 _ pl rfl zH i hi (by omega) v hv
 . obtain⟨i,j,o,e1,e2,e3,e4⟩:=hsl NP
   obtain⟨v,hv⟩:∃v,o.slots[j]?=some v:=⟨_,Z8 e4⟩
   exact agq h h0 _ pl rfl zH e1 e3 e2 hv
 . by_cases he:(m.make (VF xa)).2.1=0
   . exact dP h h0 _ pl rfl zH he
   . exact aaI h h0 _ pl rfl zH he
 . obtain⟨i,j,o,e1,e2,e3,e4⟩:=hsl JQ;obtain⟨v,r,hs⟩:=SV (l:=f.st) QW;have BW:=AX hm i j v (hf.st v zb6);exact acB h h0 _ pl rfl hs e1 e3 e2 e4 BW.1
 . obtain⟨v,r,hs⟩:=SV (l:=f.st) QW;exact ajZ h h0 _ pl rfl hs
 . obtain⟨⟨vo,vn⟩,r,hs⟩:=SV (l:=f.st) QW;have h1:=ZZ.goto JQ;simp only at h1;obtain⟨i,hi⟩:∃i:Nat,n=i:=Dv
   cases vo with
   | true=>exact aeC h h0 _ pl rfl hs
   | false=>
    by_cases hz:vn=0
    . subst hz;exact jU h h0 _ pl rfl i hi hs
    . exact mX h h0 _ pl rfl i hi hz hs
 . obtain⟨v,r,hs⟩:=SV (l:=f.st) QW;exact afg h h0 _ pl rfl hs VH hroom
 . obtain⟨⟨bo,bn⟩,⟨ao,an⟩,r,hs⟩:=PW (l:=f.st) QW;by_cases ho:(ao||bo)=true
   . exact aF h h0 _ pl rfl hs ho
   . simp at ho;obtain⟨rfl,rfl⟩:=ho;exact bK h h0 _ pl rfl hs
 . obtain⟨⟨bo,bn⟩,⟨ao,an⟩,r,hs⟩:=PW (l:=f.st) QW;by_cases ho:(ao||bo)=true
   . exact aU h h0 _ pl rfl hs ho
   . simp at ho;obtain⟨rfl,rfl⟩:=ho;exact aN h h0 _ pl rfl hs
 . obtain⟨⟨bo,bn⟩,⟨ao,an⟩,r,hs⟩:=PW (l:=f.st) QW;by_cases ho:(ao||bo)=true
   . exact aC h h0 _ pl rfl hs ho
   . simp at ho;obtain⟨rfl,rfl⟩:=ho;exact bD h h0 _ pl rfl hs
 . obtain⟨⟨bo,bn⟩,⟨ao,an⟩,r,hs⟩:=PW (l:=f.st) QW;by_cases ho:(ao||bo)=true
   . exact mD h h0 _ pl rfl hs ho
   . simp at ho;obtain⟨rfl,rfl⟩:=ho;exact oK h h0 _ pl rfl hs
 . obtain⟨b,a,r,hs⟩:=PW (l:=f.st) QW;exact afP h h0 _ pl rfl hs
 . obtain⟨v,r,hs⟩:=SV (l:=f.st) QW;exact ak3 h h0 _ pl rfl hs (by rw[hs]at hro;simp[U9]at hro;omega)
 . refine aef ?_;intro hn0 Te d_ hna;obtain⟨i,hi⟩:∃i:Nat,n=i:=Dv;obtain⟨p,rfl,hp⟩:=hpl rfl;have htk:(U9 115 n).1.toNat=i+1:=by simp[U9];omega
   rw[htk]at hst;obtain⟨to,r,hs⟩:=SV (l:=f.st.drop i) Vo;have hsz:=Kq (s:=VF sl) d_;exact ae8 h h0 _ rfl hi VH hs alJ hp (by show (VF sl).size<=1000;omega) C'
 . refine abX ?_;intro hn0 Te d_ hna;obtain⟨i,hi⟩:∃i:Nat,n=i:=Dv;obtain⟨p,rfl,hp⟩:=hpl rfl;have htk:(U9 94 n).1.toNat=i:=by simp[U9];omega
   rw[htk]at hst;have hsz:=Kq (s:=VF sl) d_;exact aa4 h h0 _ rfl hi VH hst hp (by show (VF sl).size<=1000;omega) C'
 . obtain⟨⟨vo,vn⟩,r,hs⟩:=SV (l:=f.st) QW
   cases vo with
   | false=>exact dJ h h0 _ pl rfl hs
   | true=>
    by_cases he:(m.be vn (VF xa)).1=0
    . exact adx h h0 _ pl rfl hs he
    . exact abC h h0 _ pl rfl hs he
 . have h1:=ZZ.goto NP;simp only at h1;obtain⟨i,hi⟩:∃i:Nat,n=i:=Dv;exact anX h h0 _ pl rfl i hi
 . exact ae2 h h0 _ pl rfl
 . exact afh h h0 _ pl rfl
 . exact af7 h h0 _ pl rfl
def noGoto (Q:Exit->Act->World->Prop):Exit->Act->World->Prop
 | .goto _,_,_=>False
 | e,a,w=>Q e a w
theorem CZ {P:Program}{a:Act}{Q:Exit->Act->World->Prop}{c:Code}(h:c.wp P (noGoto Q) a w):(Code.scope c).wp P Q a w:=
 KT 0 (Code.wp_mono (λe a w he=>by cases e<;>first|exact he|exact(he:False).elim) h)
theorem acC:(prog.info? 212).map (·.size)=some 45:=VE
theorem ajW {p q:Nat}(hp:UL w p)(hq:UL w q):(binOp .neq 172 (VG p) (VG q)).run prog w=.ok (.bool (!decide (p=q))) w:=by
 have hs:=acC
 cases hi:prog.info? 212 with
 | none=>rw[hi]at hs;cases hs
 | some i=>
  rw[hi]at hs;simp at hs;have h:=N7 (P:=prog) (w:=w) underlying172 hi VH hp hq;simp only[binOp];simp[h]
theorem rQ (a:Addr):(binOp .neq 172 (.pointer none) (.pointer (some a))).run prog w=.ok (.bool true) w:=by
 have h:∀d:Nat,(Op.equalIn (d+1) 172 (.pointer none) (.pointer (some a))).run prog w=.ok false w:=λd=>by
  simp[Op.equalIn,Zu underlying172]
 have h2:(Op.equal 172 (.pointer none) (.pointer (some a))).run prog w=.ok false w:=h 9999;simp only[binOp];simp[h2]
theorem akB (k:Nat)(h1:1<=k)(h2:k<23)(args:Array Value)(W:World):(callFunc (doF k) args).run prog W=.ok (.enter (doF k) args) W:=by
 obtain rfl|rfl|rfl|rfl|rfl|rfl|rfl|rfl|rfl|rfl|rfl|rfl|rfl|rfl|rfl|rfl|rfl|rfl|rfl|rfl|rfl|rfl:k=1\/k=2\/k=3\/k=4\/k=5\/k=6\/k=7\/k=8\/k=9\/k=10\/k=11\/k=12\/k=13\/k=14\/k=15\/k=16\/k=17\/k=18\/k=19\/k=20\/k=21\/k=22:=VH
 all_goals simp[doF,go_sem]
def NoD:Nat->Prop:=λ_=>False
theorem rF (k:Nat)(m:Im)(v:Vl):runM k (.told m v)=.told m v:=by cases k<;>rfl
theorem run_stop (k:Nat)(m:Im)(e:Int):runM k (.stop m e)=.stop m e:=by cases k<;>rfl
theorem ab9 {k:Nat}(h:k∈kinds):1<=kindOf k/\kindOf k<23:=by
 simp only[kinds,ZM,Zx,YE]at h;rcases h with rfl|rfl|rfl|rfl|rfl|rfl|rfl|rfl|rfl|rfl|rfl|rfl|rfl|rfl|rfl|rfl|rfl|rfl|rfl|rfl|rfl|rfl<;>decide
def FOn (w0:World)(m0:Im)(K0:Kd)(rb:Nat)(R:SN)(gk:Nat)(wr:World):Prop:=∃m K fuel bs fs,Sg NoD w0 m0 K0 rb wr m K fuel bs fs/\(SN.on m fuel fs).Ok/\fuel<=3000/\2*fuel+fs.length<gk/\runM gk (.on m fuel fs)=R
def aoH (w0:World)(m0:Im)(K0:Kd)(rb:Nat)(R:SN)(wr:World):Prop:=∃m v,R=.told m v/\TV NoD w0 m0 K0 rb (.told m v) (.returned (.tuple #[])) wr
def apm (w0:World)(m0:Im)(K0:Kd)(rb:Nat)(R:SN)(gk:Nat)(wr:World):Prop:=FOn w0 m0 K0 rb R gk wr\/aoH w0 m0 K0 rb R wr
def alB (w0:World)(m0:Im)(K0:Kd)(rb:Nat)(R:SN)(fb gk:Nat)(wr:World):Prop:=∃m K fuel mk bs f fs,Sg NoD w0 m0 K0 rb wr m K fuel ((fb,mk)::bs) (f::fs)/\(SN.on m fuel (f::fs)).Ok/\fuel<=3000/\2*fuel+(f::fs).length<gk/\runM gk (.on m fuel (f::fs))=R
theorem FOn.top {rb:Nat}{R:SN}{gk:Nat}{wr:World}(h:FOn w0 m0 K0 rb R gk wr):∃fb,alB w0 m0 K0 rb R fb gk wr/\wr.cell? (VJ rb 24)=some (VG fb)/\rb<wr.heap.size:=by
 obtain⟨m,K,fuel,bs,fs,h1,h2,h3,h4,h5⟩:=h
 cases fs with
 | nil=>exact h2.2.1.elim
 | cons f fs=>
  cases bs with
  | nil=>exact absurd h1.len Vy
  | cons p bs=>exact⟨p.1,⟨m,K,fuel,p.2,bs,f,fs,h1,h2,h3,h4,h5⟩,h1.run.ct,h1.run.Vb.lt⟩
theorem nV {rb:Nat}(h0:Qv w0)(R:SN)(w:World)(N:Nat)(hst:FOn w0 m0 K0 rb R N w):
 Calls prog 92 #[VG rb] w (TV NoD w0 m0 K0 rb R):=by
 go_enter func92,ntmps92;go_wp2;refine CZ ?_;go_wp2;refine wp_label ?_;go_wp2
 go_loopg [] N (λgk wr=>apm w0 m0 K0 rb R gk wr)
 case atStart=>exact .inl hst
 case round=>
  rcases hrel with hrel|⟨m,v,hR,hp⟩
  . obtain⟨fb,htop,ct,hrl⟩:=hrel.top;obtain⟨go,hgo⟩:∃go,go=gk:=Vx;subst hgo;clear hrel;have HT:=UQ htop;clear htop;go_wp2
    go_loopg [] go (λgj wi=>alB w0 m0 K0 rb R fb gj wi/\gj<=go)
    case atStart=>exact⟨HT.o,ZN _⟩
    case round=>
     obtain⟨⟨m,K,fuel,mk,bs,f,fs,hs,hok,Rm,hme,hrun⟩,hle⟩:=hrel
     obtain⟨gj,rfl⟩:∃gj,gk=gj+1:=⟨gk-1,VH⟩
     have Q_:=hs.LY.1.raw;have c0:=Q_.c0;have cp:=Q_.cp;have s2:=Q_.c2;have s3:=Q_.c3;have sA:=hs.Qj.Ub.Uc.mt mk hs.LY.1.yZ;obtain⟨hh,hmb⟩:=sA.blk;have kI:=sA.len;rw[hs.LY.1.ws]at hmb kI;have mc:wr.cell? (VJ mk 0)=some (.slice (K.k.md mk).p f.ws.length (K.k.md mk).cap):=by simp only[World.cell?,hmb];rfl
     have i_:=step_ok hok;have WD:runM gj (stepM m fuel (f::fs))=R:=hrun;have C':fs.length+1<=32:=hok.2.2;have I':=hok.2.1.2
     have hroom:∀g gs,fs=g::gs->g.st.length<16:=λg gs e=>by
      have:=Nq (I' g (by rw[e];simp)).at_;omega
     cases hx:f.ws[f.pc]? with
     | none=>
      have hge:¬f.pc<f.ws.length:=λe=>by rw[Z8 e]at hx;cases hx
      have N5:stepM m fuel (f::fs)=QJ m fuel f.self fs:=by simp[stepM,hx]
      rw[N5]at i_ WD;have SP:=sS (hs.below (ZR _ _).drew) h0 f.self VH hroom;unfold Vl.val at SP
      have HX:Hid ((QJ m fuel f.self fs).Ok/\runM gj (QJ m fuel f.self fs)=R/\2*fuel+fs.length+1<gj+1):=⟨i_,WD,hme⟩
      clear Q_ hs sA hmb hok hrun i_ WD N5 hx I' hroom hme HT;go_wp2_with fail;refine adG ?_;intro hHeld;go_wp2_with fail;refine SP.mono ?_;intro e w3 hp
      cases fs with
      | nil=>
       obtain⟨rfl,hr⟩:=hp;have HP:Hid _:=hr;clear hr SP;go_wp2
       go_roundg gj
       case measure=>omega
       case rel=>
        have h1:=HX.o.2.1;rw[show QJ m fuel f.self []=.told m f.self from rfl,rF]at h1;exact .inr ⟨m,f.self,h1.symm,rfl,HP.o⟩
      | cons g gs=>
       obtain⟨rfl,hr⟩:=hp;have HP:Hid _:=hr;clear hr SP;go_wp2
       go_roundg gj
       case measure=>omega
       case rel=>
        obtain⟨K',bs',h3⟩:=HP.o;exact .inl ⟨m,K',fuel,bs',_,h3,HX.o.1,Rm,by have:=HX.o.2.2;simp only[ZI]at this ⊢;omega,HX.o.2.1⟩
     | some x=>
      have hpc:=(Z7.1 hx).1;have hlt:(f.pc:Int)<(f.ws.length:Int):=VH;have hkr:=ab9 (hok.2.1.1.good.fine f.pc x hx).kind
      cases fuel with
      | zero=>
       have N5:stepM m 0 (f::fs)=.stop m 2:=by simp[stepM,hx]
       rw[N5,run_stop]at WD;have hb:=afR (hs.run.same (w':=wr.drew) rfl);have HX:=UQ hs.Qj;subst WD;clear Q_ hs sA hmb hok hrun i_ N5 hx I' hroom hme HT;go_wp2_with fail;refine adG ?_;intro hHeld;go_wp2_with fail;refine hb.mono ?_;rintro e w3 ⟨rfl,rfl⟩;clear hb;go_wp2;exact⟨rfl,rfl,K,HX.o.trans (Step.below HX.o.Ub (ZR _ _).drew)⟩
      | succ fu=>
       have N5:stepM m (fu+1) (f::fs)=VA m fu x.1 {f with pc:=f.pc+1} fs:=by simp[stepM,hx]
       have tU:=fO m fu x.1 {f with pc:=f.pc+1} fs;rw[N5]at i_ WD;have hb:=agA (hs.run.same (w':=wr.drew) rfl) VH;obtain⟨W3,hW3⟩:∃W3,W3=wr.drew.setCell (VJ rb 26) (VI (fu:Nat)):=Vx;rw[<- hW3]at hb
       have hs3:Sg NoD w0 m0 K0 rb W3 m K fu ((fb,mk)::bs) (f::fs):=by
        refine(hs.below (ZR _ _).drew).runs h0 (fuel':=fu) ?_ ?_
        . rw[hW3];exact(Vt.refl _ (λk=>k=rb)).setCell _ _ (λ_=>rfl)
        . rw[hW3];exact(hs.run.same (w':=wr.drew) rfl).afs fu
       have M9:=hs3.LY.1.raw;have d0:=M9.c0;have dp:=M9.cp;have SD:=hs3.Qj.Ub.Uc.mt mk hs3.LY.1.yZ;obtain⟨hh3,xy⟩:=SD.blk;rw[hs3.LY.1.ws]at xy;have eD:=SD.LV.head (by rw[hs3.LY.1.ws];omega);have dm:W3.cell? (VJ mk 0)=some (.slice (some (VJ ((K.k.md mk).g) 0)) f.ws.length (K.k.md mk).cap):=by rw[<- eD];simp only[World.cell?,xy];rfl
       have J0:(K.k.md mk).ws[f.pc]?=some x:=by rw[hs3.LY.1.ws];exact hx
       have g0:=SD.LV.c0 f.pc x J0;have g1:=SD.LV.c1 f.pc x J0;have g2:=SD.LV.c2 f.pc x J0;have g3:=SD.LV.c3 f.pc x J0;have g4:=SD.LV.c4 f.pc x J0;have g5:=SD.LV.c5 f.pc x J0;obtain⟨pl,hpl⟩:∃pl,pl=(if f.pc<(K.k.md mk).ws.length/\UO x.1=true then some (VJ ((K.k.md mk).pl f.pc) 0) else none):=Vx;rw[<- hpl]at g5
       have m_:UO x.1=true->∃p,pl=some (VJ p 0)/\(p,VF x.1.sel)∈K.k.L:=λe=>⟨(K.k.md mk).pl f.pc,by rw[hpl,ZU ⟨by rw[hs3.LY.1.ws];exact hpc,e⟩],SD.Ru f.pc x J0 e⟩
       have uf:∀o,W3.frozen? (VJ fb o)=false:=λo=>M9.Vb.free o;have hgl:=(SD.LV.Vb (by rw[hs3.LY.1.ws];omega)).lt;have eN:=hs3.run.Vb.lt;have eO:=M9.Vb.lt;have eE:=SD.Vb.lt;have H3:Hid _:=hs3
       have HX:Hid ((SN.on m (fu+1) (f::fs)).Ok/\(VA m fu x.1 {f with pc:=f.pc+1} fs).Ok/\runM gj (VA m fu x.1 {f with pc:=f.pc+1} fs)=R/\2*(fu+1)+(fs.length+1)<gj+1/\f.ws[f.pc]?=some x/\(VA m fu x.1 {f with pc:=f.pc+1} fs).Sz fu (fs.length+2)):=⟨hok,i_,WD,hme,hx,tU⟩
       have kA:Hid _:=m_;clear Q_ hs sA hmb hok hrun WD i_ N5 hx hroom hme HT hs3 M9 SD xy J0 hpl m_ tU eD hW3;go_wp2_with fail;refine adG ?_;intro hHeld;go_wp2_with fail;refine hb.mono ?_;rintro e w3 ⟨rfl,rfl⟩;clear hb c0 cp s2 s3 mc;go_wp2_with fail;refine Uy ?_;refine ZT (S:=(λw'=>w'.cell? (VJ fb 0)=some (VG mk)/\w'.cell? (VJ fb 10)=some (VI (f.pc:Nat))/\w'.cell? (VJ mk 0)=some (.slice (some (VJ ((K.k.md mk).g) 0)) f.ws.length (K.k.md mk).cap)/\w'.cell? (VJ ((K.k.md mk).g) (f.pc*6))=some (VI (kindOf x.1.k:Nat))/\w'.cell? (VJ ((K.k.md mk).g) (f.pc*6+1))=some (VI x.1.n)/\w'.cell? (VJ ((K.k.md mk).g) (f.pc*6+2))=some (.string (VF x.1.a))/\w'.cell? (VJ ((K.k.md mk).g) (f.pc*6+3))=some (.string (VF x.1.sel))/\w'.cell? (VJ ((K.k.md mk).g) (f.pc*6+4))=some (.string (VF x.1.b))/\w'.cell? (VJ ((K.k.md mk).g) (f.pc*6+5))=some (.pointer pl))) VE UG (λhHeld=>?_);refine zC ?_;refine Uh 9 ?_;refine Ur 10 ?_;refine Zv (rs:=[11,13]) VE Vy ?_;refine(ZO (o:=_) rfl (λY_ Z_=>?Wd1) (ZO (o:=_) rfl (λY_ Z_=>?Wd2) ZA))
       case Wd1=>
        refine Vg ?_;intro hHeld;clear Z_ Y_;refine BD ?_;refine Ul 13 λY_ Z_=>?_;refine Vg ?_;intro hHeld;clear Z_ Y_
        try refine UE ?_
        refine Ul 14 λY_ Z_=>?_;refine Vg ?_;intro hHeld;clear Z_ Y_;refine Um ?_;go_wp2_with fail;obtain⟨W3,hW3⟩:∃W3,W3=w3.setCell (VJ fb 10) (VI ((f.pc:Int)+1)):=Vx;refine ahz ?_;intro h3 So;obtain⟨W5,MU⟩:∃W5,W5=W3.alloc (.cells (TQ x.1 pl) 146):=Vx;have B:=(h3.look (Df:=λk=>k=fb) (λk e=>aik)).box x.1 pl MU;unfold TQ at MU;rw[<- MU,So];obtain⟨zb,hzb⟩:∃zb,zb=W3.heap.size:=Vx;have hat:=B.blk;rw[<- hzb]at hat;rw[<- hzb];obtain⟨kd,o_⟩:∃kd,kd=kindOf x.1.k:=Vx;refine amd ?_;intro b0 b1 b2 b3 b4 b5 bd JP hent;rw[<- o_]at hkr;obtain⟨hk1,hk2⟩:=hkr;unfold Uo TQ at JP hent;rw[<- o_]at JP hent ⊢;have hk3:(kd:Int)<23:=VH;clear B h3 hW3 MU So hat hzb o_ d0 dp dm g0 g1 g2 g3 g4 g5 hgl eN eO eE H3 uf;refine ajJ ?_;intro hHeld;refine(ZO (o:=_) rfl (λY_ Z_=>?Wf1) (ZO (o:=_) rfl (λY_ Z_=>?Wf2) ZA))
        case' Wf1=>
         refine Vg ?_;intro hHeld;clear Z_ Y_
         try refine UE ?_
         refine Ur 5 ?_;refine Zv (rs:=[6,8]) VE Vy ?_;refine(ZO (o:=_) rfl (λY_ Z_=>?am) (ZO (o:=_) rfl (λY_ Z_=>?ae) ZA))
         case' am=>
          refine Vg ?_;intro hHeld;clear Z_ Y_
          try refine UE ?_
          refine BJ ?_;intro hHeld
          try refine UE ?_
          refine ?lg
         case' ae=>
          refine Vg ?_;intro hHeld;clear Z_ Y_
          try refine UE ?_
          refine Bf ?_;intro hHeld;refine ?lg
        case' Wf2=>
         refine Vg ?_;intro hHeld;clear Z_ Y_
         try refine UE ?_
         refine Ul 2 λY_ Z_=>?_;refine Vg ?_;intro hHeld;clear Z_ Y_
         try refine UE ?_
         refine Ur 5 ?_;refine Bf ?_;intro hHeld;refine ?lh
        all_goals
         refine Ul 9 λY_ Z_=>?_;go_simp;refine JP.mono ?_;intro e w6 T9;clear JP hent b0 b1 b2 b3 b4 b5 bd hk1 hk2 hk3 kA
         cases hg:VA m fu x.1 {f with pc:=f.pc+1} fs with
         | stop m' n'=>
          exact anW
         | told m' v=>
          rw[hg]at T9;obtain⟨rfl,hq⟩:=T9;have HP:Hid _:=hq;obtain⟨K',GO,hce,hnt,-,-⟩:=hq;have HG:Hid _:=hg;clear GO hce hg;refine Z_.go λhHeld=>?_;clear Z_ Y_;refine DT ?_;have hnn:=rQ (w:=w6) (VJ fb 0);go_wp2
          go_roundg gj
          case measure=>omega
          case rel=>
           exact ag2
         | on m' fuel' Sf=>
          rw[hg]at T9;obtain⟨rfl,K',bs',h6⟩:=T9;have hc:=(h6.dead fb rfl).2.2.2;have hY:=HX.o;rw[hg]at hY;obtain⟨-,i_,WD,mL,-,xr⟩:=hY;obtain⟨D4,rS⟩:=xr
          cases Sf with
          | nil=>exact i_.2.1.elim
          | cons g gs=>
           cases bs' with
           | nil=>exact absurd h6.len Vy
           | cons q bs'=>
            exact am2
       case Wd2=>
        refine Vg ?_;intro hHeld;clear Z_ Y_
        try refine UE ?_
        refine yF ?_;intro hHeld;refine BD ?_;refine Ul 14 λY_ Z_=>?_;refine Vg ?_;intro hHeld;clear Z_ Y_;refine Um ?_;go_wp2_with fail;obtain⟨W3,hW3⟩:∃W3,W3=w3.setCell (VJ fb 10) (VI ((f.pc:Int)+1)):=Vx;refine ahz ?_;intro h3 So;obtain⟨W5,MU⟩:∃W5,W5=W3.alloc (.cells (TQ x.1 pl) 146):=Vx;have B:=(h3.look (Df:=λk=>k=fb) (λk e=>aik)).box x.1 pl MU;unfold TQ at MU;rw[<- MU,So];obtain⟨zb,hzb⟩:∃zb,zb=W3.heap.size:=Vx;have hat:=B.blk;rw[<- hzb]at hat;rw[<- hzb];obtain⟨kd,o_⟩:∃kd,kd=kindOf x.1.k:=Vx;refine amd ?_;intro b0 b1 b2 b3 b4 b5 bd JP hent;rw[<- o_]at hkr;obtain⟨hk1,hk2⟩:=hkr;unfold Uo TQ at JP hent;rw[<- o_]at JP hent ⊢;have hk3:(kd:Int)<23:=VH;clear B h3 hW3 MU So hat hzb o_ d0 dp dm g0 g1 g2 g3 g4 g5 hgl eN eO eE H3 uf;refine ajJ ?_;intro hHeld;refine(ZO (o:=_) rfl (λY_ Z_=>?Wx1) (ZO (o:=_) rfl (λY_ Z_=>?cB) ZA))
        case' Wx1=>
         refine Vg ?_;intro hHeld;clear Z_ Y_
         try refine UE ?_
         refine Ur 5 ?_;refine Zv (rs:=[6,8]) VE Vy ?_;refine(ZO (o:=_) rfl (λY_ Z_=>?Wy1) (ZO (o:=_) rfl (λY_ Z_=>?bu) ZA))
         case' Wy1=>
          refine Vg ?_;intro hHeld;clear Z_ Y_
          try refine UE ?_
          refine BJ ?_;intro hHeld
          try refine UE ?_
          refine ?ly
         case' bu=>
          refine Vg ?_;intro hHeld;clear Z_ Y_
          try refine UE ?_
          refine Bf ?_;intro hHeld;refine ?ly
        case' cB=>
         refine Vg ?_;intro hHeld;clear Z_ Y_
         try refine UE ?_
         refine Ul 2 λY_ Z_=>?_;refine Vg ?_;intro hHeld;clear Z_ Y_
         try refine UE ?_
         refine Ur 5 ?_;refine Bf ?_;intro hHeld;refine ?lx
        all_goals
         refine Ul 9 λY_ Z_=>?_;go_simp;refine JP.mono ?_;intro e w6 T9;clear JP hent b0 b1 b2 b3 b4 b5 bd hk1 hk2 hk3 kA
         cases hg:VA m fu x.1 {f with pc:=f.pc+1} fs with
         | stop m' n'=>
          exact anW
         | told m' v=>
          rw[hg]at T9;obtain⟨rfl,hq⟩:=T9;have HP:Hid _:=hq;obtain⟨K',GO,hce,hnt,-,-⟩:=hq;have HG:Hid _:=hg;clear GO hce hg;refine Z_.go λhHeld=>?_;clear Z_ Y_;refine DT ?_;have hnn:=rQ (w:=w6) (VJ fb 0);go_wp2
          go_roundg gj
          case measure=>omega
          case rel=>
           exact ag2
         | on m' fuel' Sf=>
          rw[hg]at T9;obtain⟨rfl,K',bs',h6⟩:=T9;have hc:=(h6.dead fb rfl).2.2.2;have hY:=HX.o;rw[hg]at hY;obtain⟨-,i_,WD,mL,-,xr⟩:=hY;obtain⟨D4,rS⟩:=xr
          cases Sf with
          | nil=>exact i_.2.1.elim
          | cons g gs=>
           cases bs' with
           | nil=>exact absurd h6.len Vy
           | cons q bs'=>
            exact am2
  . have ct:wr.cell? (VJ rb 24)=some (.pointer none):=by obtain⟨_,_,_,_,h,_⟩:=hp;exact h
    obtain⟨_,hp⟩:=hp;have HP:Hid _:=hp;subst hR;clear hp;go_wp2
    go_end0
    exact⟨rfl,HP.o⟩
theorem run_get (b fuel k:Nat)(h1:1<=k)(h2:k<23):(Fp b fuel)[1+k]?=some (.func (.func (doF k)) #[] #[]):=by
 obtain rfl|rfl|rfl|rfl|rfl|rfl|rfl|rfl|rfl|rfl|rfl|rfl|rfl|rfl|rfl|rfl|rfl|rfl|rfl|rfl|rfl|rfl:k=1\/k=2\/k=3\/k=4\/k=5\/k=6\/k=7\/k=8\/k=9\/k=10\/k=11\/k=12\/k=13\/k=14\/k=15\/k=16\/k=17\/k=18\/k=19\/k=20\/k=21\/k=22:=VH
 all_goals rfl
theorem dA (W:World)(b fuel:Nat):SS (W.alloc (.cells (Fp b fuel) 174)) b W.heap.size none 0 fuel:=by
 have hb:=(Z4 W (.cells (Fp b fuel) 174)).1;have hc:∀o,(W.alloc (.cells (Fp b fuel) 174)).cell? (VJ W.heap.size o)=(Fp b fuel)[o]?:=λo=>by simp only[World.cell?,hb];rfl
 exact⟨⟨_,hb,rfl⟩,(hc 0).trans rfl,λk h1 h2=>(hc _).trans (run_get b fuel k h1 h2),(hc 24).trans rfl,(hc 25).trans rfl,(hc 26).trans rfl⟩
def bT (W:World)(b fuel:Nat):World:=(W.alloc (.cells QA 170)).alloc (.cells (Fp b fuel) 174)
theorem Bz (W:World)(b fuel:Nat):Below W.heap.size W (bT W b fuel):=below2 _ _ _
theorem abd {W:World}(h:Ud W m K)(fuel:Nat):Sg NoD W m K (W.heap.size+1) (bT W K.b fuel) m K fuel [] []:=by
 have hz:(W.alloc (.cells QA 170)).heap.size=W.heap.size+1:=Vy;have hr:=dA (W.alloc (.cells QA 170)) K.b fuel;rw[hz]at hr;refine⟨Step.below h (Bz _ _ _),hr,trivial,rfl,Vy,λk hk=>?_,h.ok,λf hf=>(Zx hf).elim,λk hk=>hk.elim⟩;simp only[Xj,WJ]at hk;subst hk;exact⟨VH,by simp[bT],λe=>by have:=h.lt e;omega⟩
theorem l7 {rb:Nat}{fuel:Nat}(h:Sg Dd w0 m0 K0 rb w m K fuel bs fs)(s:ByteArray):
 Calls prog 90 #[] w λe w'=>∃p,e=.returned (VG p)/\Sg Dd w0 m0 K0 rb w' m (K.nowhere p s) fuel bs fs/\(p,s)∈(K.nowhere p s).k.L/\Below w.heap.size w w':=
 (FD w).mono (by rintro e w' ⟨rfl,rfl⟩;exact⟨_,rfl,h.img (h.Qj.Ub.nowhere s),XZ ..,(ZR _ _).alloc UM _⟩)
def EK:SN->Vl×Int×Im
 | .told m v=>(v,0,m)
 | .stop m e=>(Vl.zero,e,m)
 | .on m _ _=>(Vl.zero,0,m)
def aeB (w:World)(m:Im)(K:Kd)(R:SN)(e:Ending)(w':World):Prop:=∃K',e=.returned (.tuple #[(EK R).1.val,VI (EK R).2.1])/\Step w w' m K (EK R).2.2 K'
structure PQ (s1 s2:Nat)(ds:List Deferred)(a:Act):Prop where
 t10:a.tmps.getD 10 undef=(VG s1)
 t11:a.tmps.getD 11 undef=(VG s2)
 df:a.defers=ds
def pq (Q:Exit->Act->World->Prop)(s1 s2:Nat)(ds:List Deferred)(Y:List PanicEntry->World->Prop):Exit->Act->World->Prop
 | .panic c,a,w=>PQ s1 s2 ds a/\Y c w
 | e,a,w=>Q e a w
theorem akO {Q:Exit->Act->World->Prop}{s1 s2:Nat}{ds:List Deferred}{Y:List PanicEntry->World->Prop}{c:List PanicEntry}{a:Act}{d:Option Tmp}{v:Value}(hd:d≠some 10/\d≠some 11)(h:pq Q s1 s2 ds Y (.panic c) (a.put d v) w):pq Q s1 s2 ds Y (.panic c) a w:=by
 obtain⟨⟨h1,h2,h3⟩,hy⟩:=h
 cases d with
 | none=>exact⟨⟨h1,h2,h3⟩,hy⟩
 | some t=>
  have e1:t≠10:=λe=>hd.1 pI;have e2:t≠11:=λe=>hd.2 pI;refine⟨⟨?_,?_,h3⟩,hy⟩
  . rw[<- h1];simp[Act.put,Yn,e1]
  . rw[<- h2];simp[Act.put,Yn,e2]
theorem cu {Q:Exit->Act->World->Prop}{s1 s2:Nat}{ds:List Deferred}{Y:List PanicEntry->World->Prop}{a:Act}(h:Q .normal a w):pq Q s1 s2 ds Y .normal a w:=h
theorem amT {P:Program}{c:Code}{Q:Exit->Act->World->Prop}{a:Act}(s1 s2:Nat)(ds:List Deferred)(Y:List PanicEntry->World->Prop)(hq:∀a c w,PQ s1 s2 ds a->Y c w->Q (.panic c) a w)(h:c.wp P (pq Q s1 s2 ds Y) a w):c.wp P Q a w:=
 Code.wp_mono (λe a w he=>by cases e<;>first|exact he|exact hq _ _ _ he.1 he.2) h
theorem fE {tmps:Array Value}{s1 s2:Nat}(v0 v1 v:Value)(h10:tmps.getD 10 undef=(VG s1))(h11:tmps.getD 11 undef=(VG s2))(z0:w.cell? (VJ s1 0)=some v0)(z1:w.cell? (VJ s1 1)=some v1)(z2:w.cell? (VJ s2 0)=some v):
 (results f48 tmps).run prog w=.ok (.tuple #[.agg #[v0,v1],v]) w:=by
 have hp2:tmps[10]?.getD undef=(VG s1):=by rw[<- h10];simp
 have hk2:tmps[11]?.getD undef=(VG s2):=by rw[<- h11];simp
 simp[results,results48,hp2,hk2,go_sem,z0,z1,z2]
def apE (W3:World)(m:Im)(K:Kd)(R:SN)(c:List PanicEntry)(w':World):Prop:=∃n m' K',c=Jc n/\R=.stop m' n/\Step W3 w' m K m' K'
def dfs (s2:Nat):List Deferred:=[{target:=Target.fn (Fn.func 87) #[VG s2],args:=#[]}]
theorem FB {w W3 w':World}{tmps:Array Value}{s1 s2:Nat}{n:Int}(hk:Ud w m K)(h3:Step w W3 m K m K)(Rv:w.heap.size<=s1/\s1<W3.heap.size)(hl2:w.heap.size<=s2/\s2<W3.heap.size)(hne:s1≠s2)(b1:W3.heap[s1]?=some (.cells #[.bool false,VI 0] 33))(b2:W3.heap[s2]?=some (.cells #[VI 0] 3))
 (h10:tmps.getD 10 undef=(VG s1)) (h11:tmps.getD 11 undef=(VG s2)) (hst:Step W3 w' m K m' K'):
 Leaves prog f48 tmps (aeB w m K (.stop m' n)) (dfs s2) (.panicking (Jc n)) w':=by
 have sk:¬U2 m K s1:=λe=>by have:=hk.lt e;omega
 have v6:¬U2 m K s2:=λe=>by have:=hk.lt e;omega
 have c1:=(hst.Ut.block s1 Rv.2 sk).trans b1;have c2:=(hst.Ut.block s2 hl2.2 v6).trans b2;have z2:w'.cell? (VJ s2 0)=some (VI 0):=by simp only[World.cell?,c2];rfl
 have z0:w'.cell? (VJ s1 0)=some (.bool false):=by simp only[World.cell?,c1];rfl
 have z1:w'.cell? (VJ s1 1)=some (VI 0):=by simp only[World.cell?,c1];rfl
 have e2:(VJ s2 0)≠(VJ s1 0):=λe=>by injection e with e _ _;exact hne e.symm
 have e3:(VJ s2 0)≠(VJ s1 1):=λe=>by injection e with e _ _;exact hne e.symm
 refine leaves_cons (f:=87) (args:=#[VG s2]) Vy lK ?_;refine(caught (VJ s2 0) 0 n [] w' z2 (UL.free ⟨_,_,c2⟩ 0)).mono ?_;rintro e u' w'' ⟨rfl,rfl,rfl⟩;refine⟨_,fE (.bool false) (VI 0) (VI n) h10 h11 ((VD e2).trans z0) ((VD e3).trans z1) (Vr z2),K',rfl,?_⟩;refine(h3.trans hst).aside (S:=λk=>k=s2) ((Vt.refl _ _).setCell _ _ (λ_=>rfl)) (λk e=>⟨by rw[e];exact hl2.1,λef=>?_⟩) (λk hg=>hk.J7.lt hg);rw[e]at ef;rcases hst.foot _ ef with e|e
 . exact v6 e
 . omega
theorem tJ {tmps:Array Value}{s1 s2:Nat}{v:Vl}(h10:tmps.getD 10 undef=(VG s1))(h11:tmps.getD 11 undef=(VG s2))(hst:Step w w' m K m' K')(z0:w'.cell? (VJ s1 0)=some (.bool v.obj))(z1:w'.cell? (VJ s1 1)=some (VI v.n))(z2:w'.cell? (VJ s2 0)=some (VI 0)):
 Leaves prog f48 tmps (aeB w m K (.told m' v)) (dfs s2) .returning w':=by
 refine leaves_cons (f:=87) (args:=#[VG s2]) Vy lK ?_;refine(idle (VJ s2 0) w').mono ?_;rintro e u' w'' ⟨rfl,rfl,rfl⟩;exact⟨_,fE _ _ _ h10 h11 z0 z1 z2,K',rfl,hst⟩
theorem qA (h:Ud w m K)(to:Vl)(X_:TF m to)(sel:ByteArray)(hs:sel.size<=1000){av:Value}{args:List Vl}{ab:Nat}(W8:UH w av args ab)(hab:args≠[]->ab<w.heap.size/\¬U2 m K ab)(h3:args.length<=3)(hargs:∀v∈args,TF m v)(hsl:selector (bl sel)=true->args.length=U6 (bl sel))(fuel:Nat)(hf:fuel<=3000)(R:SN)(hR:R=runM (2*fuel+64) (m.send fuel (m.of to) to sel args [])):
 Calls prog 48 #[VG K.b,to.val,.string sel,av,VI (fuel:Nat)] w (aeB w m K R):=by
 obtain⟨W3,hW3⟩:∃W3,W3=((w.alloc (.cells #[.bool to.obj,VI to.n] 33)).alloc (.cells #[.bool false,VI 0] 33)).alloc (.cells #[VI 0] 3):=Vx;have j_:Below w.heap.size w W3:=by rw[hW3];exact(below2 _ _ _).alloc Vo _
 have hz3:W3.heap.size=w.heap.size+3:=by rw[hW3];simp
 have b0:W3.heap[w.heap.size]?=some (.cells #[.bool to.obj,VI to.n] 33):=by
  rw[hW3,ZV _ _ _ Vo,ZV _ _ _ Vy];exact(Z4 w _).1
 have b1:W3.heap[w.heap.size+1]?=some (.cells #[.bool false,VI 0] 33):=by
  rw[hW3,ZV _ _ _ Vy];exact amN
 have b2:W3.heap[w.heap.size+2]?=some (.cells #[VI 0] 3):=by
  rw[hW3];have:=(Z4 ((w.alloc (.cells #[.bool to.obj,VI to.n] 33)).alloc (.cells #[.bool false,VI 0] 33)) (.cells #[VI 0] 3)).1;exact gu
 have h1:=h.below j_;have xo:=abd h1 fuel;obtain⟨rb,Bm⟩:∃rb,rb=W3.heap.size+1:=Vx;rw[<- Bm]at xo;obtain⟨W5,MU⟩:∃W5,W5=bT W3 K.b fuel:=Vx;rw[<- MU]at xo;have lO:Below W3.heap.size W3 W5:=by rw[MU];exact Bz _ _ _
 have Ni:W5.heap.size=W3.heap.size+2:=by rw[MU];simp[bT]
 have HR:Hid _:=hR;clear hR;unfold Vl.val
 go_enter_defers func48,ntmps48
 go_wp2_with fail;refine(jA _).mono ?_;rintro e wd ⟨rfl,rfl⟩;rw[<- hW3];rename_i K1 Sp K2 hK2;refine hK2 _ _ (Xm (λK3 hK3=>?_));rw[ZU VE];refine Pn (r':=.ok (.value (VI (fuel:Nat))) (W3.alloc (.cells QA 170))) VE ?_;refine hK3 _ _ (Xm (λK4 hK4=>?_));rw[ZU VE];refine Pn (r':=.ok (.value (.agg (Fp K.b fuel))) (W3.alloc (.cells QA 170))) VE ?_;refine hK4 _ _ (Xm (λK5 ec=>?_));rw[ZU VE];refine Pn (r':=.ok (.value (VG rb)) W5) ?_ ?_
 . rw[Bm,MU];unfold bT;rw[show W3.heap.size+1=(W3.alloc (.cells QA 170)).heap.size by simp];kernel_rfl
 refine ec _ _ (Xm (λK6 wy=>?_));rw[ZU VE];refine Pn (r':=.ok (.value (VG rb)) W5) VE ?_;refine wy _ _ (wpList_nil ?_);refine Sp _ _ ?_;clear Sp hK2 hK3 hK4 ec wy K1 K2 K3 K4 K5 K6;refine MC ?_;generalize Value.agg QA=vda;generalize Value.agg (Fp K.b fuel)=vrc;have y0:=xo.run.c0;have l0:w.heap.size<W5.heap.size:=VH;have l1:=xo.run.Vb.lt;have hkb:∀k,k<W3.heap.size->W5.heap[k]?=W3.heap[k]?:=λk hk=>lO.block k hk;have v0:W5.cell? (VJ w.heap.size 0)=some (.bool to.obj):=by simp only[World.cell?,hkb _ (show w.heap.size<W3.heap.size by omega),b0];rfl
 have v1:W5.cell? (VJ w.heap.size 1)=some (VI to.n):=by simp only[World.cell?,hkb _ (show w.heap.size<W3.heap.size by omega),b0];rfl
 have Wg:Hid (∀k,U2 m K k->k<w.heap.size):=by
  have hx:∀k,U2 m K k->k<w.heap.size:=λk e=>h.lt e;exact hx
 have HZ:Hid (W3.heap.size=w.heap.size+3/\rb=W3.heap.size+1/\W5.heap.size=W3.heap.size+2/\Below w.heap.size w W3/\Below W3.heap.size W3 W5):=⟨hz3,Bm,Ni,j_,lO⟩
 have HB:Hid (W3.heap[w.heap.size+1]?=some (.cells #[.bool false,VI 0] 33)/\W3.heap[w.heap.size+2]?=some (.cells #[VI 0] 3)):=⟨b1,b2⟩
 have HS:Hid _:=xo
 have HA:Hid (UH w av args ab/\(args≠[]->ab<w.heap.size/\¬U2 m K ab)):=⟨W8,hab⟩
 have HO:Hid _:=hsl
 have HV:Hid (TF m to/\(∀v∈args,TF m v)):=⟨X_,hargs⟩
 have HK:Hid (Ud w m K/\Ud W3 m K):=⟨h,h1⟩
 have n0:¬rb=w.heap.size:=VH;clear hW3 hz3 Bm MU Ni j_ lO hkb b0 b1 b2 xo W8 hab hsl X_ hargs h h1;go_wp2_with fail;refine amT (w.heap.size+1) (w.heap.size+1+1) (dfs (w.heap.size+1+1)) (apE W3 m K R) ?_ ?_
 . rintro a c w' ⟨h10,h11,hd⟩ ⟨n,m',K',rfl,rfl,hst⟩;obtain⟨e1,e2,e3,hb3,hb5⟩:=HZ.o;show Leaves _ _ _ _ _ _ _;rw[hd];exact FB HK.o.1 (Step.below HK.o.1 hb3) mF mF VH HB.o.1 HB.o.2 h10 h11 hst
 refine ZT (S:=(λw'=>w'.cell? (VJ rb 0)=some (VG K.b)/\w'.cell? (VJ w.heap.size 0)=some (.bool to.obj)/\w'.cell? (VJ w.heap.size 1)=some (VI to.n))) VE UG (λhHeld=>?_);refine Ze (i:=0) (oi:=_) (v:=?_) rfl VE VE VE Jw (W9 ⟨by rfl,?_⟩) Ox ?_
 rotate_left
 . exact JL
 refine Ze (i:=2) (oi:=_) (v:=?_) rfl VE VE VE Jw (W9 ⟨by rfl,?_⟩) Ox ?_
 rotate_left
 . exact JL
 refine Ze (i:=3) (oi:=_) (v:=?_) rfl VE VE VE Jw (W9 ⟨by rfl,?_⟩) Ox ?_
 rotate_left
 . exact JL
 refine Ze (i:=4) (oi:=_) (v:=?_) rfl VE VE VE Jw (W9 ⟨by rfl,?_⟩) Ox ?_
 rotate_left
 . exact JL
 refine Ze (i:=5) (oi:=_) (v:=?_) rfl VE VE VE Jw (W9 ⟨by rfl,?_⟩) Ox ?_
 rotate_left
 . exact JL
 refine Ze (i:=6) (oi:=_) (v:=?_) rfl VE VE VE Jw (W9 ⟨by rfl,?_⟩) Ox ?_
 rotate_left
 . exact JL
 refine Ze (i:=8) (oi:=_) (v:=?_) rfl VE VE VE Jw (W9 ⟨by rfl,?_⟩) Ox ?_
 rotate_left
 . exact JL
 refine Ze (i:=10) (oi:=_) (v:=?_) rfl VE VE VE Jw (W9 ⟨by rfl,?_⟩) Ox ?_
 rotate_left
 . exact JL
 refine Ze (i:=11) (oi:=_) (v:=?_) rfl VE VE VE Jw (W9 ⟨by rfl,?_⟩) Ox ?_
 rotate_left
 . exact JL
 refine MC ?_;refine Ul 1 λY_ Z_=>?_;go_simp;refine(l7 (HS.o.below (ZR _ _).drew) sel).mono ?_;rintro e w6 ⟨p,rfl,h10,hp,Pw⟩;have T0:=RH Pw;have o4:=(T0.cell (p:=(VJ rb 0)) l1).trans y0;have oX:=(T0.cell (p:=(VJ w.heap.size 0)) l0).trans v0;have v16:=(T0.cell (p:=(VJ w.heap.size 1)) l0).trans v1
 try go_wp2_with fail
 refine Z_.go λhHeld=>?_;clear Z_ Y_
 try refine UE ?_
 have l16:=h10.run.Vb.lt;have ln:=ZY l0 T0.size;have Bu:=E5 h10.Qj.Ub to HV.o.1;rw[show (K.nowhere p sel).b=K.b from rfl,show (K.nowhere p sel).cb=K.cb from rfl]at Bu;unfold Vl.val at Bu
 have H6:Hid (Sg NoD W3 m K rb w6 m (K.nowhere p sel) fuel [] []/\(p,sel)∈(K.nowhere p sel).k.L/\Below W5.heap.size W5 w6):=⟨h10,hp,T0⟩
 clear h10 hp Pw T0 y0 v0 v1 l0 l1;refine Ul 7 λY_ Z_=>?_;go_simp;refine Bu.mono ?_;rintro e w6 ⟨rfl,Pw⟩;have y0:=(Pw.cell (p:=(VJ rb 0)) l16).trans o4;have v0:=(Pw.cell (p:=(VJ w.heap.size 0)) ln).trans oX;have v1:=(Pw.cell (p:=(VJ w.heap.size 1)) ln).trans v16
 try go_wp2_with fail
 refine Z_.go λhHeld=>?_;clear Z_ Y_
 try refine UE ?_
 have h10:=H6.o.1.below Pw
 have HW:Hid (Below w.heap.size w w6):=by
  have hx:=HZ.o.2.2.2.1.trans ((HZ.o.2.2.2.2.trans (H6.o.2.2.mono aa6)).trans (Pw.mono (ZC aa6 H6.o.2.2.size)) |>.mono (by have:=HZ.o.1;omega));exact hx
 have hfn:∀k,U2 m (K.nowhere p sel) k->U2 m K k\/W3.heap.size<=k:=λk e=>h10.Qj.foot k e
 have w_:=Gp h10 HK.o.2.J7 H6.o.2.1 (m.of to) (of_lt h10.ok HV.o.1) hs to (HA.o.1.same (λhn=>HW.o.block ab (HA.o.2 hn).1)) (λhn=>⟨ZY (HA.o.2 hn).1 HW.o.size,λe=>by have:=(HA.o.2 hn).1;have:=HZ.o.1;have:=HZ.o.2.1;omega,λe=>by
  rcases hfn ab e with e|e
  . exact(HA.o.2 hn).2 e
  . have:=(HA.o.2 hn).1;have:=HZ.o.1
    omega⟩) h3 Vy
 rw[show (K.nowhere p sel).cb=K.cb from rfl]at w_;unfold Vl.val at w_;have l0:=ZY ln Pw.size;clear Bu Pw h10 hfn o4 oX v16;refine Ze (i:=9) (oi:=_) (v:=?_) rfl VE VE VE Jw (W9 ⟨by rfl,?_⟩) Ox ?_
 rotate_left
 . exact JL
 refine MC ?_;refine Ul 12 λY_ Z_=>?_;refine FT ?_;rintro e w6 ⟨T9,Z2⟩
 cases hg:m.send fuel (m.of to) to sel args []with
 | told m' v=>exact absurd hg (yu _ _ _ _ _ _ _ _ _)
 | stop m' n'=>
  rw[hg]at T9;obtain⟨rfl,K',hst⟩:=T9;exact⟨vg,n',m',K',rfl,by rw[HR.o,hg,run_stop],hst⟩
 | on m' fuel' Sf=>
  rw[hg]at T9;obtain⟨rfl,K',bs',h10⟩:=T9;have Z2:=Z2 rfl
  have hvb:=Z2 w.heap.size l0 (λe=>by
   rcases H6.o.1.Qj.foot _ e with e|e
   . have:=Wg.o _ e;omega
   . have:=HZ.o.1
     omega) (λe=>n0 e.symm)
  have o4:=ahe HS.o h10;have oX:=(Z9 (a:=(VJ w.heap.size 0)) hvb).trans v0;have v16:=(Z9 (a:=(VJ w.heap.size 1)) hvb).trans v1;have hsz:=vN m fuel (m.of to) to sel args [];have hok:=En HK.o.1.ok fuel (m.of to) to sel args [] HV.o.1 HV.o.2 h3 HO.o (IL HK.o.1.ok HV.o.1) (λg hg=>(Zx hg).elim) Vy;rw[hg]at hsz hok
  have hfo:FOn W3 m K rb R (2*fuel+64) w6:=⟨m',K',fuel',bs',Sf,h10,hok,by rw[hsz.1];exact hf,ahk,by rw[HR.o,hg]⟩
  have hfr:=nV HK.o.2.J7 R w6 _ hfo
  have HE:Hid (∀m' fu fs,R≠.on m' fu fs):=by
   have hx:∀m2 fu fs,R≠.on m2 fu fs:=λm2 fu fs=>by
    rw[HR.o,hg];exact Dl _ _ _ _ ahk _ _ _
   exact hx
  clear h10 Z2 w_ hvb hsz hok hfo hg y0 v0 v1;refine Z_.go λhHeld=>?_;clear Z_ Y_;refine DT ?_;clear o4 oX v16;refine cu ?_;go_wp2_with fail;refine hfr.mono ?_;intro e w6 T9;clear hfr;obtain⟨e1,e2,e3,hb3,hb5⟩:=HZ.o
  cases R with
  | on m2 fu fs=>exact absurd rfl (HE.o m2 fu fs)
  | stop m2 n2=>
   obtain⟨rfl,K2,hst⟩:=T9;exact FB HK.o.1 (Step.below HK.o.1 hb3) mF mF VH HB.o.1 HB.o.2 rfl rfl hst
  | told m2 v=>
   obtain⟨rfl,K2,hst,XX,ct,c27,c27⟩:=T9;have sk:¬U2 m K (w.heap.size+1):=λe=>afu;have v6:¬U2 m K (w.heap.size+1+1):=λe=>afu;have d1:=(hst.Ut.block (w.heap.size+1) VH sk).trans HB.o.1;have d2:=(hst.Ut.block (w.heap.size+1+1) VH v6).trans HB.o.2;have z0:w6.cell? (VJ (w.heap.size+1) 0)=some (.bool false):=by simp only[World.cell?,d1];rfl
   have z1:w6.cell? (VJ (w.heap.size+1) 1)=some (VI 0):=by simp only[World.cell?,d1];rfl
   have z2:w6.cell? (VJ (w.heap.size+1+1) 0)=some (VI 0):=by simp only[World.cell?,d2];rfl
   have f1:∀o,w6.frozen? (VJ (w.heap.size+1) o)=false:=λo=>UL.free ⟨_,_,d1⟩ o;have f1:∀o,w6.frozen? (VJ (w.heap.size+1+1) o)=false:=λo=>UL.free ⟨_,_,d2⟩ o;have HQ:=UQ ((Step.below HK.o.1 hb3).trans hst)
   have HN:Hid (¬U2 m2 K2 (w.heap.size+1)/\¬U2 m2 K2 (w.heap.size+1+1)):=by
    have hx:¬U2 m2 K2 (w.heap.size+1)/\¬U2 m2 K2 (w.heap.size+1+1):=⟨λe=>by
     rcases hst.foot _ e with e|e
     . exact sk e
     . omega,λe=>by
     rcases hst.foot _ e with e|e
     . exact v6 e
     . omega⟩
    exact hx
   clear hst XX d1 d2 sk v6 e1 e2 e3 hb3 hb5 ct;go_wp2;have a1:(VJ (w.heap.size+1) 1)≠(VJ (w.heap.size+1) 0):=λe=>by injection e with _ e _;cases e
   have a2:∀o,(VJ (w.heap.size+1+1) 0)≠(VJ (w.heap.size+1) o):=λo e=>by injection e with e _ _;omega
   have a3:∀o,(VJ (w.heap.size+1) o)≠(VJ (w.heap.size+1+1) 0):=λo e=>by injection e with e _ _;omega
   refine tJ (K':=K2) rfl rfl ?_ ((VD (a2 0)).trans ((VD a1).trans (Vr z0))) ((VD (a2 1)).trans (Vr ((VD (λe=>a1 e.symm)).trans z1))) (Vr ((VD (a3 1)).trans ((VD (a3 0)).trans z2)));refine HQ.o.aside (S:=λk=>k=w.heap.size+1\/k=w.heap.size+1+1) ((((Vt.refl _ _).setCell _ _ Dx).setCell _ _ Dx).setCell _ _ (λ_=>.inr rfl)) (λk e=>?_) (λk hg=>HK.o.1.J7.lt hg);rcases e with e|e<;>subst e
   . exact⟨VH,HN.o.1⟩
   . exact⟨VH,HN.o.2⟩
def Pz (m:Im)(v:Vl):Bool:=v.obj&&!m.there v.n
theorem zo (h:Ud w m K)(v:Vl):
 Calls prog 46 #[VG K.b,v.val] w λe w'=>e=.returned (.bool (Pz m v))/\Below w.heap.size w w':=by
 have hb:Below w.heap.size w (w.alloc (.cells #[.bool v.obj,VI v.n] 33)):=(ZR _ w).alloc UM _;obtain⟨p,cap,hv,hf⟩:=(h.below hb).obs.form;have c1:=(h.below hb).hd.c1;rw[hv]at c1;have hcall:=yB h.ok.objs c1 v.n;have HB:Hid _:=hb;obtain⟨bo,n⟩:=v;unfold Vl.val Pz Im.there;clear hb hf;cases bo
 . clear hcall;go_enter func46,ntmps46;go_wp2
   go_ret
   exact⟨Vy,HB.o⟩
 . obtain⟨t,ht⟩:∃t,t=(decide (0<=n)&&decide (n<(m.obs.length:Int))):=Vx;simp only[<- ht]at hcall ⊢;clear ht;go_enter func46,ntmps46;go_wp2_with fail;refine hcall.mono ?_;rintro e w2 ⟨rfl,rfl⟩;go_wp2
   go_ret
   exact⟨Vy,HB.o⟩
theorem bH (args:Array Value)(W:World):(callFunc 46 args).run prog W=.ok (.enter 46 args) W:=lK
theorem qc (h:Ud w m K){ap:Option Addr}{cap:Nat}{args:List Vl}{ab:Nat}(W8:UH w (.slice ap args.length cap) args ab)(hab:args≠[]->ab<w.heap.size)(h3:args.length<=3):
 Calls prog 86 #[.slice ap args.length cap,.func (.func 46) #[VG K.b] #[]] w λe w'=>∃r:Int,e=.returned (VI r)/\Below w.heap.size w w'/\decide (0<=r)=args.any (Pz m):=by
 have HT:Hid (Ud w m K/\UH w (.slice ap args.length cap) args ab/\(args≠[]->ab<w.heap.size)):=⟨h,W8,hab⟩
 obtain⟨n,hn⟩:∃n,n=args.length:=Vx;rw[<- hn]at h3 ⊢;have HN:Hid _:=hn;clear h W8 hab hn;go_enter func86,ntmps86;go_wp2
 go_loopw [8] (λi wr=>∃k:Nat,i=VI k/\k<=n/\(∀i v,i<k->args[i]?=some v->Pz m v=false)/\Below w.heap.size w wr) (λi _=>n-(intOf i).toNat)
 case atStart=>exact⟨0,rfl,VH,λi v hi=>VH,ZR _ _⟩
 case round=>
  obtain⟨k,rfl,hk,hno,hb⟩:=hrel
  have HR:Hid ((∀i v,i<k->args[i]?=some v->Pz m v=false)/\Below w.heap.size w wr):=⟨hno,hb⟩
  clear hno;by_cases hkn:k<n
  . obtain⟨v,hv⟩:∃v,args[k]?=some v:=⟨_,Z8 (by rw[<- HN.o];exact hkn)⟩
    have hne:args≠[]:=λe=>qN;obtain⟨o,had,hget⟩:=KL HT.o.2.1 hne;obtain⟨c0,c1⟩:=hget k v hv;have hlb:=HT.o.2.2 hne;have c0:=(hb.cell (p:=(VJ ab (o+k*2))) hlb).trans c0;have c1:=(hb.cell (p:=(VJ ab (o+k*2+1))) hlb).trans c1;have hent:=bH;have n_:=zo (HT.o.1.below hb) v;unfold Vl.val at n_;have HV:Hid _:=hv;subst had;have hadd:(VJ ab o).add (k*2)=(VJ ab (o+k*2)):=XJ _ _ _;clear hb hv hget hne hlb;go_wp2_with fail;refine n_.mono ?_;rintro e w2 ⟨rfl,hb2⟩;have Uv:=UQ (HR.o.2.trans (hb2.mono HR.o.2.size));clear hb2 c0 c1 n_ hent
    cases hp:Pz m v with
    | true=>
     have HP:Hid _:=hp;clear hp;go_wp2
     go_ret
     refine⟨k,rfl,Uv.o,?_⟩;rw[Xh (by omega:(0:Int)<=k)];exact(V8.2 ⟨v,ZK HV.o,HP.o⟩).symm
    | false=>
     have HP:Hid _:=hp;clear hp;go_wp2
     go_roundw
     case rel=>
      refine⟨k+1,Uu,VH,λi u hi hu=>?_,Uv.o⟩;by_cases e:i=k
      . subst e;have:=HV.o.symm.trans hu;injection this with this;rw[<- this];exact HP.o
      . exact HR.o.1 i u VH hu
     case measure=>simp[intOf]<;>omega
  . obtain rfl:k=n:=by omega
    clear hb;go_wp2
    go_ret
    refine⟨-1,rfl,HR.o.2,?_⟩
    have:args.any (Pz m)=false:=by
     rw[List.any_eq_false];intro v hv;obtain⟨i,hi⟩:=Yd hv;rw[HR.o.1 i v (by have:=(Z7.1 hi).1;rw[HN.o];exact this) hi];simp
    rw[this];rfl
theorem Ci (h:Ud w m K){ap:Option Addr}{cap:Nat}{args:List Vl}{ab:Nat}(W8:UH w (.slice ap args.length cap) args ab)(hab:args≠[]->ab<w.heap.size)(h3:args.length<=3):
 Calls prog 47 #[.slice ap args.length cap,.func (.func 46) #[VG K.b] #[]] w λe w'=>e=.returned (.bool (args.any (Pz m)))/\Below w.heap.size w w':=by
 have hi:=qc h W8 hab h3;clear h W8 hab h3;go_enter func47,ntmps47;go_wp2_with fail;refine hi.mono ?_;rintro e w1 ⟨r,rfl,hb,hd⟩
 have HD:Hid (decide (0<=r)=args.any (Pz m)/\Below w.heap.size w w1):=⟨hd,hb⟩
 clear hd hb hi;go_wp2
 go_ret
 exact⟨by rw[<- HD.o.1];rfl,HD.o.2⟩
theorem aaJ (h:Ud w m K):Calls prog 29 #[VG K.b] w λe w'=>e=.returned (.tuple #[VI (Go.RowKit.wrap64 (m.looks:Nat)),VI (Go.RowKit.wrap64 (K.UC:Nat))])/\Below w.heap.size w w':=by
 have c2:=h.hd.c2;have c2:=h.hd.c3;clear h;go_enter func29,ntmps29;go_wp2_with fail
 go_region
 go_wp2
 go_ret2
 exact⟨rfl,(ZR _ _).drew⟩
theorem F6 {fn:Func}{p k l:Tmp}(h:fn.results=#[.cell p 33,.tmp k,.tmp l]){tmps:Array Value}{z:Nat}(v0 v1 v u:Value)(hp:tmps.getD p undef=(VG z))(hk:tmps.getD k undef=v)(hl:tmps.getD l undef=u)(z0:w.cell? (VJ z 0)=some v0)(z1:w.cell? (VJ z 1)=some v1):
 (results fn tmps).run prog w=.ok (.tuple #[.agg #[v0,v1],v,u]) w:=by
 exact al2
def af8 (w:World)(m:Im)(K:Kd)(r:Vl×Int×Int×Im)(e:Ending)(w':World):Prop:=∃K',e=.returned (.tuple #[r.1.val,VI r.2.1,VI r.2.2.1])/\Step w w' m K r.2.2.2 K'
structure Sn (w w':World)(to:Vl):Prop where
 bel:Below w.heap.size w w'
 lt:w.heap.size+2<=w'.heap.size
 b0:w'.heap[w.heap.size]?=some (.cells #[.bool to.obj,VI to.n] 33)
 b1:w'.heap[w.heap.size+1]?=some (.cells #[.bool false,VI 0] 33)
variable {w1 w2 : World}
theorem Sn.below {to:Vl}(h:Sn w w1 to)(hb:Below w1.heap.size w1 w2):Sn w w2 to:=
 ⟨h.bel.trans (hb.mono h.bel.size),ZC h.lt hb.size,(hb.block _ (by have:=h.lt;omega)).trans h.b0,(hb.block _ (by have:=h.lt;omega)).trans h.b1⟩
theorem Sn.new (w:World)(to:Vl):Sn w ((w.alloc (.cells #[.bool to.obj,VI to.n] 33)).alloc (.cells #[.bool false,VI 0] 33)) to:=by
 refine⟨below2 _ _ _,Vy,?_,?_⟩
 . rw[ZV _ _ _ Vy];exact(Z4 w _).1
 . exact amN
theorem Sn.err {to:Vl}(h:Sn w w' to)(hk:Ud w m K)(e:Int):af8 w m K (Vl.zero,0,e,m) (.returned (.tuple #[.agg #[.bool false,VI 0],VI 0,VI e])) ((w'.setCell (VJ (w.heap.size+1) 0) (.bool false)).setCell (VJ (w.heap.size+1) 1) (VI 0)):=by
 refine⟨K,rfl,Step.below hk ?_⟩;exact(h.bel.setCell IB _).setCell IB _
theorem Sn.z0 {to:Vl}(h:Sn w w' to):w'.cell? (VJ (w.heap.size+1) 0)=some (.bool false):=by simp only[World.cell?,h.b1];rfl
theorem Sn.z1 {to:Vl}(h:Sn w w' to):w'.cell? (VJ (w.heap.size+1) 1)=some (VI 0):=by simp only[World.cell?,h.b1];rfl
theorem Sn.v0 {to:Vl}(h:Sn w w' to):w'.cell? (VJ w.heap.size 0)=some (.bool to.obj):=by simp only[World.cell?,h.b0];rfl
theorem Sn.v1 {to:Vl}(h:Sn w w' to):w'.cell? (VJ w.heap.size 1)=some (VI to.n):=by simp only[World.cell?,h.b0];rfl
theorem a01 (s:Nat):(VJ s 1)≠(VJ s 0):=λe=>by injection e with _ e _;cases e
theorem Sn.ret {to:Vl}(h:Sn w w' to)(hk:Ud w m K)(e:Int){r:Vl×Int×Int×Im}(hr:r=(Vl.zero,0,e,m)){a:Act}(hd:a.defers=[])(h10:a.tmps.getD 10 undef=(VG (w.heap.size+1)))(h11:a.tmps.getD 11 undef=VI 0)(h12:a.tmps.getD 12 undef=VI e):
 bodyPost prog f18 (af8 w m K r) .ret a ((w'.setCell (VJ (w.heap.size+1) 0) (.bool false)).setCell (VJ (w.heap.size+1) 1) (VI 0)):=by
 refine ZQ (F6 rfl _ _ _ _ h10 h11 h12 ((VD (a01 _)).trans (Vr h.z0)) (Vr ((VD (λe=>a01 _ e.symm)).trans h.z1))) hd ?_;rw[hr];exact h.err hk e
theorem aah (h:Ud w m K)(to:Vl)(X_:TB to.n)(sel:ByteArray)(hs:sel.size<=140737488355328){ap:Option Addr}{cap:Nat}{args:List Vl}{ab:Nat}(W8:UH w (.slice ap args.length cap) args ab)(hab:args≠[]->ab<w.heap.size/\¬U2 m K ab)(hargs:∀v∈args,TB v.n)(fuel:Int):
 Calls prog 18 #[VG K.b,to.val,.string sel,.slice ap args.length cap,VI fuel] w (af8 w m K (m.Uf to sel args fuel)):=by
 obtain⟨W2,hW2⟩:∃W2,W2=(w.alloc (.cells #[.bool to.obj,VI to.n] 33)).alloc (.cells #[.bool false,VI 0] 33):=Vx;have da:Hid (Sn w W2 to):=by rw[hW2];exact Sn.new w to
 have HK:Hid _:=h
 have HA:Hid (UH w (.slice ap args.length cap) args ab/\(args≠[]->ab<w.heap.size/\¬U2 m K ab)):=⟨W8,hab⟩
 have HI:Hid (TB to.n/\∀v∈args,TB v.n):=⟨X_,hargs⟩
 obtain⟨r,hr⟩:∃r,r=m.Uf to sel args fuel:=Vx;rw[<- hr];have HR:Hid _:=hr;clear hr h W8 hab X_ hargs;obtain⟨na,hna⟩:∃na,na=args.length:=Vx;have HN:Hid _:=hna;rw[<- hna];clear hna;unfold Vl.val
 cases hsl:selector (bl sel) with
 | false=>
  have d_:=Qn sel W2 hs;rw[hsl]at d_
  have HE:Hid (r=(Vl.zero,0,1,m)):=by
   have hx:r=(Vl.zero,0,1,m):=by rw[HR.o];unfold Im.Uf;rw[ZU (.inl hsl)]
   exact hx
  clear hsl;go_enter func18,ntmps18;go_wp2_with fail;rw[<- hW2];clear hW2;refine d_.mono ?_;rintro e w3 ⟨rfl,hb3⟩;have RE:=da.o.below hb3;have H3:Hid _:=RE;have z0:=RE.z0;have z1:=RE.z1;have f1:∀o,w3.frozen? (VJ (w.heap.size+1) o)=false:=λo=>UL.free ⟨_,_,RE.b1⟩ o;clear d_ hb3 RE;go_wp2;exact H3.o.ret HK.o 1 HE.o rfl rfl rfl rfl
 | true=>
  have d_:=Qn sel W2 hs;rw[hsl]at d_
  have HL:Hid (selector (bl sel)=true/\sel.size<=8):=⟨hsl,Kq hsl⟩
  have Kp:=Kw hsl;clear hsl;obtain⟨no,hno⟩:∃no,no=U6 (bl sel):=Vx;have G':Hid _:=hno;rw[<- hno]at Kp;clear hno;go_enter func18,ntmps18;go_wp2_with fail;rw[<- hW2];clear hW2;refine d_.mono ?_;rintro e w3 ⟨rfl,hb3⟩;have H3:=UQ (da.o.below hb3);clear d_ hb3;go_wp2_with fail;refine(PE sel w3 HL.o.1).mono ?_;rw[<- G'.o];refine ahH ?_;intro w3 hb3 H3 z0 z1 f1 v0 v1;clear hb3;by_cases hbad:no≠na\/fuel<0\/3000<fuel
  . have HE:Hid (r=(Vl.zero,0,1,m)):=by
     have hx:r=(Vl.zero,0,1,m):=by
      rw[HR.o];unfold Im.Uf;rw[ZU (.inr (by rw[<- G'.o,<- HN.o];exact hbad))]
     exact hx
    by_cases h1:no=na
    . subst h1;by_cases h2:fuel<0
      . exact ahW
      . have h3:3000<fuel:=by omega
        exact ahW
    . have h1':¬((no:Int)=(na:Int)):=by omega
      clear hbad h1;go_wp2;exact H3.o.ret HK.o 1 HE.o rfl rfl rfl rfl
  . have h1:no=na:=by omega
    have h2:¬fuel<0:=VH;have h3:¬3000<fuel:=VH
    obtain⟨fu,rfl⟩:∃fu:Nat,fuel=(fu:Int):=⟨fuel.toNat,VH⟩
    subst h1;clear hbad;have hlk:=zo (HK.o.below H3.o.bel) to;unfold Vl.val at hlk;go_wp2_with fail;refine hlk.mono ?_;rintro e w3 ⟨rfl,hb3⟩;have H3:=UQ (H3.o.below hb3);have m3:=H3.o.z0;have gE:=H3.o.z1;have f15:∀o,w3.frozen? (VJ (w.heap.size+1) o)=false:=λo=>UL.free ⟨_,_,H3.o.b1⟩ o;clear hb3 hlk z0 z1 f1 v0 v1
    have W_:Hid (¬(selector (bl sel)=false\/U6 (bl sel)≠args.length\/(fu:Int)<0\/3000<(fu:Int))):=by
     have hx:¬(selector (bl sel)=false\/U6 (bl sel)≠args.length\/(fu:Int)<0\/3000<(fu:Int)):=by
      rw[HL.o.1,<- G'.o,<- HN.o];simp;omega
     exact hx
    cases FJ:Pz m to with
    | true=>
     have HE:Hid (r=(Vl.zero,0,4,m)):=by
      have hx:r=(Vl.zero,0,4,m):=by
       rw[HR.o];unfold Im.Uf;rw[ZX W_.o,ZU (by rw[WX];unfold Pz at FJ;rw[FJ];rfl)]
      exact hx
     clear FJ;go_wp2;exact H3.o.ret HK.o 4 HE.o rfl rfl rfl rfl
    | false=>
     have HT:Hid _:=FJ;have Ha:=Ci (HK.o.below H3.o.bel) (HA.o.1.same (λhn=>H3.o.bel.block ab (HA.o.2 hn).1)) (λhn=>ZY (HA.o.2 hn).1 H3.o.bel.size) (by rw[<- HN.o];exact Kp);rw[<- HN.o]at Ha;clear FJ;go_wp2_with fail;refine Ha.mono ?_;refine ahH ?_;intro w3 hb3 H3 z0 z1 f1 v0 v1;clear hb3 Ha m3 gE f15
     cases hlb:args.any (Pz m) with
     | true=>
      have HE:Hid (r=(Vl.zero,0,4,m)):=by
       have hx:r=(Vl.zero,0,4,m):=by
        rw[HR.o];unfold Im.Uf;rw[ZX W_.o,ZU (by rw[WX];unfold Pz at hlb;rw[hlb];simp)]
       exact hx
      clear hlb;go_wp2;exact H3.o.ret HK.o 4 HE.o rfl rfl rfl rfl
     | false=>
      obtain⟨R,hR⟩:∃R,R=runM (2*fu+64) (m.send fu (m.of to) to sel args []):=Vx
      have HE:Hid (r=((EK R).1,(EK R).2.1,0,(EK R).2.2)):=by
       have hx:r=((EK R).1,(EK R).2.1,0,(EK R).2.2):=by
        rw[HR.o];have hT:=HT.o;unfold Im.Uf;unfold Pz at hlb hT;rw[ZX W_.o,ZX (by rw[WX,hT,hlb];simp),Zp,<- hR];cases R<;>rfl
       exact hx
      have mA:∀v,TB v.n->Pz m v=false->TF m v:=λv h1 h2=>⟨h1,λho=>by
       unfold Pz at h2;rw[ho,Wp,Bool.not_eq_false']at h2
       exact h2⟩
      have hall:∀v∈args,TF m v:=λv hv=>mA v (HI.o.2 v hv) (by
       have:=List.any_eq_false.1 hlb v hv
       simpa using this)
      have oF:=qA (HK.o.below H3.o.bel) to (mA to HI.o.1 HT.o) sel (by have:=HL.o.2;omega) (HA.o.1.same (λhn=>H3.o.bel.block ab (HA.o.2 hn).1)) (λhn=>⟨ZY (HA.o.2 hn).1 H3.o.bel.size,(HA.o.2 hn).2⟩) (by rw[<- HN.o];exact Kp) hall (λ_=>by rw[<- HN.o];exact G'.o) fu VH R hR;rw[<- HN.o]at oF;unfold Vl.val at oF;clear hlb hR mA hall;go_wp2_with fail;refine oF.mono ?_;rintro e w3 ⟨K7,rfl,hst⟩;have d1:=(hst.Ut.block _ (by have:=H3.o.lt;omega) (λe=>by have:=HK.o.lt e;omega)).trans H3.o.b1;have m3:w3.cell? (VJ (w.heap.size+1) 0)=some (.bool false):=by simp only[World.cell?,d1];rfl
      have gE:w3.cell? (VJ (w.heap.size+1) 1)=some (VI 0):=by simp only[World.cell?,d1];rfl
      have f15:∀o,w3.frozen? (VJ (w.heap.size+1) o)=false:=λo=>UL.free ⟨_,_,d1⟩ o;have s6:=(Z5.1 d1).1;have HQ:=UQ ((Step.below HK.o H3.o.bel).trans hst)
      have dC:Hid (¬U2 (EK R).2.2 K7 (w.heap.size+1)):=by
       have hx:¬U2 (EK R).2.2 K7 (w.heap.size+1):=λe=>by
        rcases hst.foot _ e with e|e
        . have:=HK.o.lt e;omega
        . have:=H3.o.lt;omega
       exact hx
      clear oF hst d1 z0 z1 f1 v0 v1;obtain⟨og,d8⟩:∃og,og=EK R:=Vx;rw[<- d8]at HQ dC HE ⊢;clear d8;obtain⟨⟨vo,vn⟩,n,m'⟩:=og;unfold Vl.val;go_wp2;obtain⟨W2,hW2⟩:∃W2,W2=(w3.setCell (VJ (w.heap.size+1) 0) (.bool vo)).setCell (VJ (w.heap.size+1) 1) (VI vn):=Vx;have y0:W2.cell? (VJ (w.heap.size+1) 0)=some (.bool vo):=by rw[hW2];exact(VD (a01 _)).trans (Vr m3)
      have y1:W2.cell? (VJ (w.heap.size+1) 1)=some (VI vn):=by rw[hW2];exact Vr ((VD (λe=>a01 _ e.symm)).trans gE)
      have s6:w.heap.size+1<W2.heap.size:=by rw[hW2];simp[World.setCell];omega
      have hb3:Below W2.heap.size W2 (W2.alloc (.cells #[.bool vo,VI vn] 33)):=(ZR _ _).alloc UM _
      have vl:Step w W2 m K m' K7:=by
       rw[hW2];exact HQ.o.aside (S:=λk=>k=w.heap.size+1) (((Vt.refl _ (λk=>k=w.heap.size+1)).setCell (VJ (w.heap.size+1) 0) _ (λ_=>rfl)).setCell (VJ (w.heap.size+1) 1) _ (λ_=>rfl)) (λk e=>⟨VH,by rw[e];exact dC.o⟩) (λk hg=>HK.o.J7.lt hg)
      rw[<- hW2];refine ZQ (F6 rfl _ _ _ _ rfl rfl rfl ((hb3.cell (p:=(VJ (w.heap.size+1) 0)) s6).trans y0) ((hb3.cell (p:=(VJ (w.heap.size+1) 1)) s6).trans y1)) rfl ?_;rw[HE.o];exact⟨K7,rfl,vl.trans (Step.below vl.Ub hb3)⟩
end Go.Proofs.Rz
namespace Kn
open Go
instance (ws:List (W×Nat)) (args slots i:Nat):Decidable (SC ws args slots i):=by unfold SC TJ TG;infer_instance
end Kn
namespace Go.Proofs.Rz
open ChangeShapes WideShapes ChangeAt RowKit Kn Iz Tryz
structure At (w0:World)(b:Nat)(w:World)(m:Im)(K:Kd):Prop where
 Ub:Ud w m K
 lo:∀k,U2 m K k->w0.heap.size<=k
 bel:Below w0.heap.size w0 w
 b_:K.b=b
theorem At.step {w0 w w':World}{b:Nat}{m m':Im}{K K':Kd}(h:At w0 b w m K)(s:Step w w' m K m' K'):At w0 b w' m' K':=
 ⟨s.Ub,λk e=>by
  rcases s.foot k e with e|e
  . exact h.lo k e
  . have:=h.bel.size
    omega,h.bel.trans (s.Ut.below h.bel.size (λk _ e=>h.lo k e)),s.b.trans h.b_⟩
structure Bk (w:World)(m:Im)(K:Kd)(k:Nat)(cs:Array Value)(t:TypeId):Prop where
 blk:w.heap[k]?=some (.cells cs t)
 off:¬U2 m K k
theorem RZ (n:Int)(w:World):Calls prog 9 #[VI n] w λe w'=>e=.returned (VI n)/\w'=w:=by
 go_enter func9,ntmps9;go_wp2
 go_ret
 exact KP
variable {w0 w : World} {b : Nat} {m : Im} {K : Kd}
theorem At.TR (h:At w0 b w m K)(s t:ByteArray)(n:Int)(hs:s.size<=140737488355328):
 Calls prog 15 #[VG b,.string s,.string t,VI n] w λe w'=>e=.returned (VI (m.TR s t n).1)/\∃K',Step w w' m K (m.TR s t n).2 K':=by
 obtain rfl:=h.b_;exact bQ h.Ub s t n hs
theorem At.method (h:At w0 b w m K)(cn sel src:ByteArray)(hs1:sel.size<=140737488355328)(hs2:src.size<=140737488355328):
 Calls prog 17 #[VG b,.string cn,.string sel,.string src] w λe w'=>∃(r a:Int) (m':Im) (K':Kd),e=.returned (.tuple #[VI r,VI a])/\Ua m cn sel src r a m'/\Step w w' m K m' K':=by
 obtain rfl:=h.b_;exact kW h.Ub cn sel src hs1 hs2
theorem At.drop (h:At w0 b w m K)(cn sel:ByteArray):
 Calls prog 19 #[VG b,.string cn,.string sel] w λe w'=>e=.returned (VI (m.drop cn sel).1)/\∃K',Step w w' m K (m.drop cn sel).2 K':=by
 obtain rfl:=h.b_;exact pY h.Ub cn sel
theorem At.make (h:At w0 b w m K)(cn:ByteArray):
 Calls prog 16 #[VG b,.string cn] w λe w'=>e=.returned (.tuple #[(m.make cn).1.val,VI (m.make cn).2.1])/\∃K',Step w w' m K (m.make cn).2.2 K':=by
 obtain rfl:=h.b_;exact um h.Ub cn
theorem At.send (h:At w0 b w m K)(to:Vl)(X_:TB to.n)(sel:ByteArray)(hs:sel.size<=140737488355328){ap:Option Addr}{cap:Nat}{args:List Vl}{ab:Nat}(W8:UH w (.slice ap args.length cap) args ab)(hab:args≠[]->ab<w.heap.size/\¬U2 m K ab)(hargs:∀v∈args,TB v.n)(fuel:Int):
 Calls prog 18 #[VG b,to.val,.string sel,.slice ap args.length cap,VI fuel] w (af8 w m K (m.Uf to sel args fuel)):=by
 obtain rfl:=h.b_;exact aah h.Ub to X_ sel hs W8 hab hargs fuel
theorem afX (a0 a1:Int)(w:World)(h:¬Oh a0 a1):
 Calls prog 8 #[VI a0,VI a1] w λe w'=>e=.returned (.tuple #[.pointer none,VI 1])/\w'=w:=by
 by_cases h0:0<=a0
 . by_cases h1:a0<=6
   . by_cases h2:1<=a1
     . by_cases h3:a1<=64
       . have h4:(bits BinOp.and IntKind.i64 a1 (a1-1)==0)=false:=by
          simpa[Oh,h0,h1,h2,h3]using h
         exact qQ
       all_goals
        exact qQ
     all_goals
      exact qQ
   all_goals
    exact qQ
 all_goals
  exact qQ
end Go.Proofs.Rz
namespace Kn
open Go
structure NM where
 kind:Int
 s:ByteArray
 t:ByteArray
 u:ByteArray
 n:Int
 k:Int
 to:Vl
 ap:Option Addr
 cap:Nat
 args:List Vl
 ab:Nat
structure Sd where
 v:Vl
 s:ByteArray
 n:Int
 e:Int
 k:Int
def sdE (e:Int):Sd:=⟨Vl.zero,⟨#[]⟩,0,e,0⟩
end Kn
namespace Go.Proofs.Rz
open ChangeShapes WideShapes ChangeAt RowKit Kn Iz Tryz
def ae0 (m:Im)(o:NM)(d:Sd)(m':Im):Prop:=
 if o.kind=1 then d=sdE (m.TR o.s o.t o.n).1/\m'=(m.TR o.s o.t o.n).2
 else if o.kind=2 then ∃e a,Ua m o.s o.t o.u e a m'/\d=⟨Vl.zero,⟨#[]⟩,a,e,0⟩
 else if o.kind=3 then d=sdE (m.drop o.s o.t).1/\m'=(m.drop o.s o.t).2
 else if o.kind=4 then d=sdE (m.move o.s o.t).1/\m'=(m.move o.s o.t).2
 else if o.kind=5 then d=sdE (m.copy o.s o.t o.u).1/\m'=(m.copy o.s o.t o.u).2
 else if o.kind=6 then d=⟨(m.make o.s).1,⟨#[]⟩,0,(m.make o.s).2.1,0⟩/\m'=(m.make o.s).2.2
 else if o.kind=7 then d=sdE (m.be o.n o.s).1/\m'=(m.be o.n o.s).2
 else if o.kind=8 then d=⟨(m.slot o.n o.k).1,⟨#[]⟩,0,(m.slot o.n o.k).2,0⟩/\m'=m
 else if o.kind=9 then d=⟨Vl.zero,(m.nP o.n).1,0,(m.nP o.n).2,0⟩/\m'=m
 else if o.kind=11 then d=⟨(m.Uf o.to o.s o.args o.n).1,⟨#[]⟩,(m.Uf o.to o.s o.args o.n).2.1,(m.Uf o.to o.s o.args o.n).2.2.1,Go.RowKit.wrap64 ((m.Uf o.to o.s o.args o.n).2.2.2.looks:Nat)⟩/\m'=(m.Uf o.to o.s o.args o.n).2.2.2
 else d=sdE 0/\m'=m
def _root_.Kn.NM.val (o:NM):Value:=.agg #[VI o.kind,.string o.s,.string o.t,.string o.u,VI o.n,VI o.k,.bool o.to.obj,VI o.to.n,.slice o.ap o.args.length o.cap]
def _root_.Kn.Sd.val (d:Sd):Value:=.agg #[.bool d.v.obj,VI d.v.n,.string d.s,VI d.n,VI d.e,VI d.k]
structure OI (w:World)(o:NM):Prop where
 zs:o.s.size<=140737488355328
 zt:o.t.size<=140737488355328
 zu:o.u.size<=140737488355328
 to:TB o.to.n
 args:UH w (.slice o.ap o.args.length o.cap) o.args o.ab
 lt:o.args≠[]->o.ab<w.heap.size
 all:∀v∈o.args,TB v.n
def apY (w:World)(m:Im)(K:Kd)(o:NM)(e:Ending)(w':World):Prop:=∃(d:Sd) (m':Im) (K':Kd),e=.returned d.val/\ae0 m o d m'/\Step w w' m K m' K'
structure Cb (w w':World)(o:NM)(m':Im)(K':Kd)(v:Vl):Prop where
 b0:w'.heap[w.heap.size]?=some (.cells #[VI o.kind,.string o.s,.string o.t,.string o.u,VI o.n,VI o.k,.bool o.to.obj,VI o.to.n,.slice o.ap o.args.length o.cap] 36)
 b1:w'.heap[w.heap.size+1]?=some (.cells #[.bool false,VI 0,.string ⟨#[]⟩,VI 0,VI 0,VI 0] 42)
 b2:w'.heap[w.heap.size+1+1]?=some (.cells #[.bool v.obj,VI v.n] 33)
 off:∀k,w.heap.size<=k->k<=w.heap.size+2->¬U2 m' K' k
def ap6 (w:World)(o:NM):World:=((w.alloc (.cells #[VI o.kind,.string o.s,.string o.t,.string o.u,VI o.n,VI o.k,.bool o.to.obj,VI o.to.n,.slice o.ap o.args.length o.cap] 36)).alloc (.cells #[.bool false,VI 0,.string ⟨#[]⟩,VI 0,VI 0,VI 0] 42)).alloc (.cells #[.bool false,VI 0] 33)
def ap0 (w1:World)(z:Nat)(d:Sd):World:=(((((w1.setCell (VJ z 0) (.bool d.v.obj)).setCell (VJ z 1) (VI d.v.n)).setCell (VJ z 2) (.string d.s)).setCell (VJ z 3) (VI d.n)).setCell (VJ z 4) (VI d.e)).setCell (VJ z 5) (VI d.k)
section
variable {w0 w : World} {b : Nat} {m : Im} {K : Kd}
theorem At.move (h:At w0 b w m K)(cn an:ByteArray):
 Calls prog 31 #[VG b,.string cn,.string an] w λe w'=>e=.returned (VI (m.move cn an).1)/\∃K',Step w w' m K (m.move cn an).2 K':=by
 obtain rfl:=h.b_;exact move_any h.Ub cn an
theorem At.copy (h:At w0 b w m K)(cn sel to:ByteArray):
 Calls prog 32 #[VG b,.string cn,.string sel,.string to] w λe w'=>e=.returned (VI (m.copy cn sel to).1)/\∃K',Step w w' m K (m.copy cn sel to).2 K':=by
 obtain rfl:=h.b_;exact uj h.Ub cn sel to
theorem At.be (h:At w0 b w m K)(o:Int)(cn:ByteArray):
 Calls prog 33 #[VG b,VI o,.string cn] w λe w'=>e=.returned (VI (m.be o cn).1)/\∃K',Step w w' m K (m.be o cn).2 K':=by
 obtain rfl:=h.b_;exact acP h.Ub o cn
theorem At.slot (h:At w0 b w m K)(o j:Int):
 Calls prog 23 #[VG b,VI o,VI j] w λe w'=>e=.returned (.tuple #[(m.slot o j).1.val,VI (m.slot o j).2])/\∃K',Step w w' m K m K':=by
 obtain rfl:=h.b_
 exact(aev h.Ub o j).mono λe w' he=>⟨he.1,K,Step.below h.Ub he.2⟩
theorem At.of (h:At w0 b w m K)(o:Int):
 Calls prog 25 #[VG b,VI o] w λe w'=>e=.returned (.tuple #[.string (m.nP o).1,VI (m.nP o).2])/\∃K',Step w w' m K m K':=by
 obtain rfl:=h.b_
 exact(alE h.Ub o).mono λe w' he=>⟨he.1,K,by rw[he.2];exact Step.refl h.Ub⟩
end
end Go.Proofs.Rz
