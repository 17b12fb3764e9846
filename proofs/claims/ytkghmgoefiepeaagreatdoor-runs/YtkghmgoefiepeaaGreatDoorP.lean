import Derived.Deep.RegionLaw
import Derived.Test.YtkghmgoefiepeaaGreatDoorO
set_option linter.all false
set_option maxHeartbeats 4000000
set_option maxRecDepth 100000
namespace Go.Proofs.Rz
open ChangeShapes WideShapes ChangeAt RowKit Kn Iz Tryz
variable {m : Im}
variable {K : Kd}
def aey {w W w1:World}(h:Ud w m K){c n:Nat}(hc:c<m.kl.length)(hn:n=m.obs.length){g cap':Nat}{sl:List Vl}(hm':U3 {m with obs:=m.obs++[⟨c,sl⟩]})
 (FR:Below w.heap.size w W) (lA:W.heap.size=w.heap.size+3) (hsl:W.heap[w.heap.size+1]?=some (.cells (vcs sl).toArray 33))
 (hown:w1.ownsRow 0 105 2 (.slice (some (VJ g 0)) (n+1) cap') (n+1) (ER K.cb K.ob 0 m.obs++[VG (K.cb c),.slice (some (VJ (w.heap.size+1) 0)) sl.length sl.length]))
 (hg:W.grownBy w1 K.ov.ownBlock) (hat:K.ov.ownBlock=some g\/g=w.heap.size+3) (hgl:g<w1.heap.size) (v0 v1:Value):
 ∃K',Step w (((w1.setCell (VJ K.b 1) (.slice (some (VJ g 0)) (n+1) cap')).setCell (VJ w.heap.size 0) v0).setCell (VJ w.heap.size 1) v1) m K {m with obs:=m.obs++[⟨c,sl⟩]} K':=by
 subst hn;have hbl:=h.Uc.tab.Vb.lt
 have R9:∀k,KF K.ob K.ov m.obs.length k->k<w.heap.size/\k≠K.b:=λk e=>⟨h.obs.lt e,λe'=>by
  obtain⟨cur,V_⟩:=h.Uc.img;obtain⟨cs,hcs⟩:=h.obs.kind e;rw[e',V_]at hcs
  rcases hcs with hcs|hcs<;>(injection hcs with hcs;injection hcs with _ hcs _;revert hcs;decide)⟩
 have Q0:some K.b≠K.ov.ownBlock:=λe=>(R9 K.b tN).2 rfl
 have hgb:g≠K.b:=λe=>by
  rcases hat with e1|e1
  . exact(R9 g (.inl e1)).2 e
  . omega
 have pe:g≠w.heap.size:=λe=>by
  rcases hat with e1|e1
  . have:=(R9 g (.inl e1)).1;omega
  . omega
 have Ra:∀i o,m.obs[i]?=some o->some (K.ob i)≠K.ov.ownBlock:=λi o ho e=>by
  have h1:=h.obs.at_ i o ho;rcases h.obs.own.2 with⟨e1,_⟩|⟨g',cap,cur,e1,h2,h3,h4⟩
  . rw[e1]at e;cases e
  . rw[e1]at e;simp[Value.ownBlock]at e;rw[e,h3]at h1;exact acw
 obtain⟨X,hX⟩:∃X,X=((w1.setCell (VJ K.b 1) (.slice (some (VJ g 0)) (m.obs.length+1) cap')).setCell (VJ w.heap.size 0) v0).setCell (VJ w.heap.size 1) v1:=Vx;rw[<- hX]
 have gx:∀k,k≠K.b->k≠w.heap.size->X.heap[k]?=w1.heap[k]?:=λk e1 e2=>by
  rw[hX,ZW _ _ _ _ e2,ZW _ _ _ _ e2,ZW _ _ _ _ e1]
 have hX1:∀k,k<w.heap.size->k≠K.b->some k≠K.ov.ownBlock->X.heap[k]?=w.heap[k]?:=λk e1 e2 e3=>(gx k e2 VH).trans ((hg.block k VH e3).trans (FR.block k e1));have hsz:X.heap.size=w1.heap.size:=by rw[hX];simp[World.setCell]
 have hs1:=hg.size
 have hoc:ER K.cb (λi=>if i=m.obs.length then w.heap.size+1 else K.ob i) 0 (m.obs++[⟨c,sl⟩])=ER K.cb K.ob 0 m.obs++[VG (K.cb c),.slice (some (VJ (w.heap.size+1) 0)) sl.length sl.length]:=by
  rw[qE,Kv (cb:=K.cb) (ob:=K.ob) m.obs m.obs 0 rfl (λi o o' ho ho'=>by
   rw[ho]at ho';injection ho' with ho';subst ho';have:=(Z7.1 ho).1
   exact⟨rfl,ZX VH,rfl⟩)]
  simp
 have lR:OQ X K.cb (λi=>if i=m.obs.length then w.heap.size+1 else K.ob i) (.slice (some (VJ g 0)) (m.obs.length+1) cap') (m.obs++[⟨c,sl⟩]):=by
  refine⟨?_,λi o ho=>?_,λi j hi hj e=>?_,λe=>sH⟩
  . rw[hoc,Zw];refine⟨hown.1,?_⟩;rcases hown.2 with⟨e1,_⟩|⟨g',cap2,cur,e1,h2,h3,h4⟩
    . cases e1
    . refine .inr ⟨g',cap2,cur,e1,h2,?_,h4⟩;have:g'=g:=by injection e1 with e1 _ _;injection e1 with e1;injection e1 with e1 _ _;exact e1.symm
      rw[this,gx g hgb pe,<- this];exact h3
  . by_cases hi:i<m.obs.length
    . rw[ZH hi]at ho;simp only[ZX (by omega:¬i=m.obs.length)];have hk:=R9 (K.ob i) (.inr ⟨i,hi,rfl⟩);exact(hX1 _ hk.1 hk.2 (Ra i o ho)).trans (h.obs.at_ i o ho)
    . have hi2:i=m.obs.length:=by have:=(Z7.1 ho).1;simp at this;omega
      subst hi2;simp at ho;subst ho;simp only[Y6];refine(gx _ VH VH).trans ((hg.block _ VH ?_).trans hsl);intro e;have:=(R9 _ tN).1;omega
  . simp at hi hj;by_cases e1:i=m.obs.length
    . by_cases e2:j=m.obs.length
      . omega
      . rw[ZU e1,ZX e2]at e;have:=(R9 (K.ob j) (.inr ⟨j,VH,rfl⟩)).1;omega
    . by_cases e2:j=m.obs.length
      . rw[ZX e1,ZU e2]at e;have:=(R9 (K.ob i) (.inr ⟨i,VH,rfl⟩)).1;omega
      . rw[ZX e1,ZX e2]at e;exact h.obs.inj i j VH VH e
 refine⟨_,h.aa3 hm' lR (λk e=>?_) ⟨?_,?_,?_,VH,λk hk e=>?_⟩ ?_ (λo ho=>?_) ?_⟩
 . rcases e with e|⟨i,hi,e⟩
   . simp[Value.ownBlock]at e;rcases hat with e1|e1
     . exact .inl (.inl (by rw[<- e];exact e1))
     . exact .inr VH
   . simp at hi;by_cases e1:i=m.obs.length
     . simp only[e1,Y6]at e;exact .inr VH
     . simp only[ZX e1]at e;exact .inl (.inr ⟨i,VH,e⟩)
 . rw[hX];exact hg.os.trans FR.os
 . rw[hX];exact hg.tape.trans FR.tape
 . rw[hX];exact hg.output.trans FR.output
 . exact hX1 k hk (λe1=>e (.inl e1)) (λe1=>e (.inr (.inl e1.symm)))
 . obtain⟨cur,V_⟩:=h.Uc.img;have hb1:=(hg.block K.b VH Q0).trans ((FR.block K.b hbl).trans V_);rw[hX,ZW _ _ _ _ (by show K.b≠w.heap.size;omega),ZW _ _ _ _ (by show K.b≠w.heap.size;omega)];exact⟨_,by simp only[World.setCell,Zz,ZU,hb1];rfl⟩
 . rw[hX,VD PO,VD PO,VD PO];exact(Z9 (a:=(VJ K.b o)) (hg.block K.b VH Q0)).trans (Z9 (a:=(VJ K.b o)) (FR.block K.b hbl))
 . rw[hX,VD PO,VD PO];exact Vr ((Z9 (a:=(VJ K.b 1)) (hg.block K.b VH Q0)).trans ((Z9 (a:=(VJ K.b 1)) (FR.block K.b hbl)).trans h.hd.c1))
variable {w : World}
def um (h:Ud w m K)(cn:ByteArray):
 Calls prog 16 #[VG K.b,.string cn] w λe w'=>e=.returned (.tuple #[(m.make cn).1.val,VI (m.make cn).2.1])/\∃K',Step w w' m K (m.make cn).2.2 K':=by
 have B5:Hid (Below w.heap.size w (w.alloc (.cells #[.bool false,VI 0] 33))):=(ZR _ w).alloc UM _;have h0:=h.below B5.o;obtain⟨p,cap,hv,hf⟩:=h0.obs.form;have c1:=h0.hd.c1;rw[hv]at c1;have hn:=h.ok.objs;have O_:=Dp h0 cn;have hok:=(xX h.ok cn).1;obtain⟨r,hr⟩:∃r,m.make cn=r:=Vx;rw[hr]at hok ⊢;unfold Im.make at hr;refine aja ?_;intro hz z0 z1;have W_:=UQ (Step.below h B5.o)
 cases Wm:m.made cn with
 | none=>
  rw[Wm]at hr O_;simp only at hr;subst hr;simp only[Zm,Vq]at O_;exact anZ
 | some c=>
  rw[Wm]at hr O_;simp only at hr;simp only[ZG,Vq]at O_;by_cases Uq:40<=m.obs.length
  . rw[ZU Uq]at hr;subst hr;have A2:m.obs.length=40:=VH;rw[A2]at c1;exact anZ
  . rw[ZX Uq]at hr;subst hr;have A2:((m.obs.length:Int)==40)=false:=ZF.2 VH;have hc:=OO (O7 Wm).2;have t3:=h0.cls.tot hc;have htl:=mP h.ok c;have hmk:=λW=>agn (m.tot c) htl W;obtain⟨i0,hi0,hi1,hi2,hi3⟩:=YQ adM;have hown0:=h0.obs.own;rw[hv]at hown0;have hown1:=((hown0.alloc (.cells (vcs (List.replicate (m.tot c) Vl.zero)).toArray 33)).alloc (.cells #[VG (K.cb c),.slice (some (VJ (w.heap.size+1) 0)) (m.tot c) (m.tot c)] 105)).drew
    have hnews:∀j u,([VG (K.cb c),.slice (some (VJ (w.heap.size+1) 0)) (m.tot c) (m.tot c)]:List Value)[j]?=some u->(((w.alloc (.cells #[.bool false,VI 0] 33)).alloc (.cells (vcs (List.replicate (m.tot c) Vl.zero)).toArray 33)).alloc (.cells #[VG (K.cb c),.slice (some (VJ (w.heap.size+1) 0)) (m.tot c) (m.tot c)] 105)).drew.cell? ((VJ (w.heap.size+1+1) 0).add j)=some u:=by
     have:=Us ((w.alloc (.cells #[.bool false,VI 0] 33)).alloc (.cells (vcs (List.replicate (m.tot c) Vl.zero)).toArray 33)) [VG (K.cb c),.slice (some (VJ (w.heap.size+1) 0)) (m.tot c) (m.tot c)] 105;exact ady
    have mN:Hid _:=hnews;have HOW:Hid _:=hown1;have px:=h.hd.c1;rw[hv]at px;have hbl:=h.Uc.tab.Vb.lt;have HH:Hid _:=h;have ti:∀u∈([VG (K.cb c),.slice (some (VJ (w.heap.size+1) 0)) (m.tot c) (m.tot c)]:List Value),u.oneCell'=true:=by intro u hu;simp at hu;rcases hu with rfl|rfl<;>rfl
    obtain⟨W,xl⟩:∃W,W=(((w.alloc (.cells #[.bool false,VI 0] 33)).alloc (.cells (vcs (List.replicate (m.tot c) Vl.zero)).toArray 33)).alloc (.cells #[VG (K.cb c),.slice (some (VJ (w.heap.size+1) 0)) (m.tot c) (m.tot c)] 105)).drew:=Vx;have FR:Below w.heap.size w W:=by rw[xl];exact(below3 _ _ _ _).drew
    have lA:W.heap.size=w.heap.size+3:=by rw[xl];simp
    have Ki:W.heap[w.heap.size]?=some (.cells #[.bool false,VI 0] 33):=by
     rw[xl];show (((w.alloc _).alloc _).alloc _).heap[w.heap.size]?=_;rw[ZV _ _ _ Vo,ZV _ _ _ Vy];exact(Z4 w _).1
    have s5:W.heap[w.heap.size+1]?=some (.cells (vcs (List.replicate (m.tot c) Vl.zero)).toArray 33):=by
     rw[xl];show (((w.alloc _).alloc _).alloc _).heap[w.heap.size+1]?=_;rw[ZV _ _ _ Vy];have:=(Z4 (w.alloc (.cells #[.bool false,VI 0] 33)) (.cells (vcs (List.replicate (m.tot c) Vl.zero)).toArray 33)).1;rw[ZJ]at this;exact this
    have Q0:some K.b≠(Value.slice p m.obs.length cap).ownBlock:=λe=>by
     rw[<- hv]at e;obtain⟨cur,V_⟩:=h.Uc.img;obtain⟨cs,hcs⟩:=h.obs.kind (k:=K.b) tN;rw[V_]at hcs
     rcases hcs with hcs|hcs<;>(injection hcs with hcs;injection hcs with _ hcs _;revert hcs;decide)
    have hbz:some w.heap.size≠(Value.slice p m.obs.length cap).ownBlock:=λe=>by
     rw[<- hv]at e;have:=h.obs.lt (k:=w.heap.size) tN;omega
    have HW:Hid (Below w.heap.size w W/\W.heap.size=w.heap.size+3/\W.heap[w.heap.size]?=some (.cells #[.bool false,VI 0] 33)/\W.heap[w.heap.size+1]?=some (.cells (vcs (List.replicate (m.tot c) Vl.zero)).toArray 33)/\some K.b≠(Value.slice p m.obs.length cap).ownBlock/\some w.heap.size≠(Value.slice p m.obs.length cap).ownBlock):=⟨FR,lA,Ki,s5,Q0,hbz⟩
    have HWW:Hid _:=xl;have N6:Hid _:=hok;have HV:Hid _:=hv;have c1x:((w.alloc (.cells #[.bool false,VI 0] 33)).alloc (.cells (vcs (List.replicate (m.tot c) Vl.zero)).toArray 33)).cell? (VJ K.b 1)=some (.slice p m.obs.length cap):=((below2 w _ _).cell (p:=(VJ K.b 1)) hbl).trans px;have c1y:(((w.alloc (.cells #[.bool false,VI 0] 33)).alloc (.cells (vcs (List.replicate (m.tot c) Vl.zero)).toArray 33)).alloc (.cells #[VG (K.cb c),.slice (some (VJ (w.heap.size+1) 0)) (m.tot c) (m.tot c)] 105)).cell? (VJ K.b 1)=some (.slice p m.obs.length cap):=((below3 w _ _ _).cell (p:=(VJ K.b 1)) hbl).trans px;clear hf h h0 hnews hown1 hown0 hok Wm xl FR lA Ki s5 Q0 hbz hv;go_enter func16,ntmps16;go_wp2_with fail;refine O_.mono ?_;rintro e w' ⟨rfl,rfl⟩;go_wp2_with fail
    go_region_law (
     (refine step_append_lies _ rfl _ _ _ rfl 0 105 i0 (.agg #[.pointer none, .slice none 0 0]) 2 32 underlying68 hi0 hi1 hi2 hi3 rfl Vz (.slice p m.obs.length cap) m.obs.length (ER K.cb K.ob 0 m.obs) rfl HOW.o ⟨w.heap.size + 1 + 1, 0, none⟩ 1 1 [.pointer (some ⟨K.cb c, 0, none⟩), .slice (some ⟨w.heap.size + 1, 0, none⟩) (m.tot c) (m.tot c)] rfl rfl mN.o ti VH (by unfold maxLen; omega) VH nO _ rfl ?_
      intro g cap' w1 hown0 F1 Mg AJ;rw[<- HWW.o]at F1 Mg;have c1:=(Z9 (a:=(VJ K.b 1)) (F1.block K.b (by rw[HW.o.2.1];omega) HW.o.2.2.2.2.1)).trans ((Z9 (a:=(VJ K.b 1)) (HW.o.1.block K.b hbl)).trans px);have f17:∀o,w1.frozen? (VJ K.b o)=false:=λo=>((HH.o.Uc.tab.Vb.same (HW.o.1.block K.b hbl)).same (F1.block K.b (by rw[HW.o.2.1];omega) HW.o.2.2.2.2.1)).free o;have pS:=(F1.block w.heap.size (by rw[HW.o.2.1];omega) HW.o.2.2.2.2.2).trans HW.o.2.2.1;have y0:w1.cell? (VJ w.heap.size 0)=some (.bool false):=by simp only[World.cell?,pS];rfl
      have y1:w1.cell? (VJ w.heap.size 1)=some (VI 0):=by simp only[World.cell?,pS];rfl
      have yf:∀o,w1.frozen? (VJ w.heap.size o)=false:=λo=>UL.free ⟨_,_,pS⟩ o;have s6:=F1.size;rw[HW.o.2.1]at s6 Mg
      have H7:Hid (w1.ownsRow 0 105 2 (.slice (some (VJ g 0)) (m.obs.length+1) cap') (m.obs.length+1) (ER K.cb K.ob 0 m.obs++[VG (K.cb c),.slice (some (VJ (w.heap.size+1) 0)) (m.tot c) (m.tot c)])/\W.grownBy w1 (Value.slice p m.obs.length cap).ownBlock/\((Value.slice p m.obs.length cap).ownBlock=some g\/g=w.heap.size+3)/\g<w1.heap.size):=⟨hown0,F1,Mg,AJ⟩
      clear hown0 F1 Mg pS))
    all_goals
     go_wp2;obtain⟨hown0,F1,Mg,AJ⟩:=H7.o;rw[<- HV.o]at F1 Mg;have hlen:(List.replicate (m.tot c) Vl.zero).length=m.tot c:=List.length_replicate;have hput:=aey (n:=m.obs.length) (sl:=List.replicate (m.tot c) Vl.zero) HH.o hc rfl N6.o HW.o.1 HW.o.2.1 HW.o.2.2.2.1 (by rw[hlen];exact hown0) F1 Mg AJ (.bool true) (VI (m.obs.length:Nat));refine ZQ (Lc (z:=w.heap.size) rfl (.bool true) (VI (m.obs.length:Nat)) (VI 0) rfl rfl ?_ ?_) rfl ⟨rfl,hput⟩
     . exact(VD PO).trans (Vr ((VD PO).trans y0))
     . exact Vr ((VD PO).trans ((VD PO).trans y1))
def IW (w:World):Calls prog 149 #[VI 0] w λe w'=>e=.returned (.tuple #[])/\w'=w:=by
 go_enter func149,ntmps149;go_wp2
 go_end0
 exact KP
def Ee (n:Int)(hn:n≠0)(w:World):Calls prog 149 #[VI n] w λe w'=>e=.panicked (Jc 3)/\w'=w:=by
 go_enter func149,ntmps149;go_wp2;exact vg
def afq (h:U3 m):m.cls NH=some 1:=by
 obtain⟨ms,e⟩:=h.int
 cases hc:m.cls NH with
 | none=>
  unfold Im.cls at hc;rw[YI]at hc;have:=hc _ (ZK e);exact absurd rfl ((Vf _ _).1 this)
 | some c=>
  obtain⟨k,hk,hn⟩:=RJ hc;exact YV some (h.once c 1 k _ hk e hn)
def E5 (h:Ud w m K)(v:Vl)(hv:TF m v):
 Calls prog 91 #[VG K.b,v.val] w λe w'=>e=.returned (.pointer (Vq ((m.of v).map K.cb)))/\Below w.heap.size w w':=by
 obtain⟨W1,hW1⟩:∃W1,W1=w.alloc (.cells #[.bool v.obj,VI v.n] 33):=Vx;have hB1:Below w.heap.size w W1:=by rw[hW1];exact(ZR _ w).alloc UM _
 have hb1:W1.heap[w.heap.size]?=some (.cells #[.bool v.obj,VI v.n] 33):=by rw[hW1];exact(Z4 w _).1
 have hbl:=h.Uc.tab.Vb.lt;unfold Vl.val;obtain⟨vo,vn⟩:=v
 cases vo with
 | false=>
  have hlk:=(h.below hB1).look NH;rw[afq h.ok,show NH=(⟨#[73,110,116]⟩:ByteArray) from rfl,hW1]at hlk;simp only[ZG,Vq]at hlk;have c0:=h.hd.c0;have HB:Hid _:=hB1;have hof:m.of ⟨false,vn⟩=some 1:=rfl;rw[hof];simp only[ZG,Vq];clear h hof hb1 hB1;go_enter func91,ntmps91;go_wp2
  go_ret
  refine⟨rfl,?_⟩;have:=HB.o;rw[hW1]at this;exact this
 | true=>
  have ht:=hv.2 rfl;simp only at ht;obtain⟨i,x,rfl,hx,hi,hil⟩:=Rj ht;have h1:=h.below hB1;obtain⟨p,cap,hov,hf⟩:=h1.obs.form;obtain⟨g,hg,hF⟩:=hf i x hx;have c0:=h1.hd.c1;rw[hov]at c0;obtain⟨rfl⟩:=hF.p;have o0:=hF.c0;have hof:m.of ⟨true,(i:Int)⟩=some x.cls:=by unfold Im.of;simp[hx]
  rw[hof];simp only[ZG,Vq];have y1:W1.cell? (VJ w.heap.size 1)=some (VI (i:Nat)):=by simp only[World.cell?,hb1];rfl
  refine Jz ?_;intro R6;have HB:Hid _:=hB1;clear h h1 hv ht hof hf hF hg hB1 hb1 hx hov hi;go_enter func91,ntmps91;go_wp2_with fail;rw[<- hW1];clear hW1;refine Uy ?_;refine ZT (S:=(λw'=>w'.cell? (VJ w.heap.size 1)=some (VI (i:Nat))/\w'.cell? (VJ K.b 1)=some (.slice (some (VJ g 0)) m.obs.length cap)/\w'.cell? (VJ g (i*2))=some ((VG (K.cb x.cls))))) VE UG (λhHeld=>?_);refine IC ?_;refine Bf ?_;intro hHeld;refine abM ?_;refine Ur 9 ?_;refine Nr ?_;go_wp2
  go_ret
  exact⟨rfl,HB.o.drew⟩
variable {w0 : World}
variable {m0 : Im}
variable {K0 : Kd}
variable {Dd : Nat -> Prop}
variable {bs : List (Nat × Nat)}
variable {fs : List Fr}
variable {f : Fr}
def agq {rb:Nat}{fuel fb mk:Nat}(h:Sg Dd w0 m0 K0 rb w m K fuel ((fb,mk)::bs) (f::fs))(h0:Qv w0)(x:Kn.W)(pl:Option Addr)(hk:x.k=103)(hr:f.st.length<16)
 {i j:Nat}{o:Ob}{v:Vl} (hi:f.self.n=i) (ho:m.obs[i]?=some o) (hj:x.n=j) (hv:o.slots[j]?=some v):
 Calls prog 117 #[VG rb,Uo x pl] w (TV Dd w0 m0 K0 rb (VA m fuel x f fs)):=by
 have hw:VA m fuel x f fs=.on m fuel ({f with st:=v::f.st}::fs):=by unfold VA;simp[hk,hi,hj,ho,hv]
 rw[hw];obtain⟨W1,hW1⟩:∃W1,W1=w.alloc (.cells (TQ x pl) 146):=Vx;refine Ju ?_;intro B ct;have c0:=B.c0;have x1:=B.x1;rw[hj]at x1;have l1:=B.l1;have l3:=B.l3;have h1:=B.sg.Qj.Ub;obtain⟨p,cap,hov,hf⟩:=h1.obs.form;obtain⟨g,hg,hF⟩:=hf i o ho;have c1:=h1.hd.c1;rw[hov]at c1;obtain⟨rfl⟩:=hF.p;have o1:=hF.c1;obtain⟨u0,u1⟩:=h1.obs.val ho hv;have s3:=B.sg.LY.1.raw.c3;rw[hi]at s3;have hil:(i:Int)<(m.obs.length:Int):=by have:=(Z7.1 ho).1;omega
 have hjl:(j:Int)<(o.slots.length:Int):=by have:=(Z7.1 hv).1;omega
 have p_:=RX (w:=W1.drew) yG hr v;unfold Vl.val at p_;have hbl:=h1.Uc.tab.Vb.lt;have hnF:=(B.sg.lo fb Vy).2.2;refine aiw ?_;intro DS B4;have Z1:K.b≠fb:=λe=>hnF (by rw[<- e];exact .inl rfl);have W7:g≠fb:=λe=>hnF (by rw[<- e];exact DS);have Te:K.ob i≠fb:=λe=>hnF iq;have lg:=h1.lt DS;have lo:=h1.lt B4;have HI:Hid _:=hi;have HB:Hid _:=B;unfold TQ at hW1;unfold Uo TQ;clear B h hw hk hi hj h1 hf hF hg hov ho hv DS B4 hnF;go_enter func117,ntmps117;go_wp2_with fail;rw[<- hW1];clear hW1;refine Uy ?_;refine ZT (S:=(λw'=>w'.cell? (VJ rb 24)=some (VG fb)/\w'.cell? (VJ rb 0)=some (VG K.b)/\w'.cell? (VJ w.heap.size 1)=some (VI (j:Nat))/\w'.cell? (VJ K.b 1)=some (.slice (some (VJ g 0)) m.obs.length cap)/\w'.cell? (VJ fb 3)=some (VI (i:Nat))/\w'.cell? (VJ g (i*2+1))=some (.slice (some (VJ (K.ob i) 0)) o.slots.length o.slots.length)/\w'.cell? (VJ (K.ob i) (j*2))=some (.bool v.obj)/\w'.cell? (VJ (K.ob i) (j*2+1))=some (VI v.n))) VE UG (λhHeld=>?_);refine KG ?_;refine iO ?_;refine Uh 15 ?_;refine Uh 16 ?_;refine Uh 17 ?_;refine Uh 18 ?_;refine Uh 22 ?_;refine Ur 23 ?_;refine Ul 19 λY_ Z_=>?_;refine Vg ?_;intro hHeld;clear Z_ Y_
 try refine UE ?_
 refine Uh 20 ?_;refine Ur 21 ?_;refine Ul 24 λY_ Z_=>?_;refine Vg ?_;intro hHeld;clear Z_ Y_
 try refine UE ?_
 refine Ur 25 ?_;refine Ul 26 λY_ Z_=>?_;refine CV ?_;rintro e w3 ⟨rfl,hf3,hc3⟩;have d1:=(Z9 (a:=(VJ rb 24)) qZ).trans ct;have d1:=(Z9 (a:=(VJ rb 0)) qZ).trans c0;have d1:=(Z9 (a:=(VJ w.heap.size 1)) iw).trans x1;have d1:=(Z9 (a:=(VJ K.b 1)) (hc3.block _ hbl Z1)).trans c1;have d1:w3.cell? (VJ fb 3)=some (VI (i:Nat)):=by {have:=hf3.c3;rw[HI.o]at this;exact this};have d1:=(Z9 (a:=(VJ g (i*2+1))) (hc3.block _ lg W7)).trans o1;have d1:=(Z9 (a:=(VJ (K.ob i) (j*2))) uY).trans u0;have d1:=(Z9 (a:=(VJ (K.ob i) (j*2+1))) uY).trans u1
 try go_wp2_with fail
 refine Z_.go λhHeld=>?_;clear Z_ Y_;refine Um ?_
 go_end0
 exact⟨rfl,K,_,HB.o.sg.top (f':={f with st:=v::f.st}) h0 qX hf3 rfl rfl⟩
variable {m' : Im}
variable {K' : Kd}
def Bx.calm {rb:Nat}{w W1 w2:World}{fuel fb mk:Nat}{x:Kn.W}{pl:Option Addr}(h:Bx Dd w0 m0 K0 rb w W1 m K fuel fb mk bs f fs x pl)(hs:Step W1.drew w2 m K m' K'):Sg Dd w0 m0 K0 rb w2 m' K' fuel ((fb,mk)::bs) (f::fs)/\w2.heap[w.heap.size]?=W1.heap[w.heap.size]?/\w2.cell? (VJ rb 0)=some (VG K.b)/\w2.cell? (VJ rb 24)=some (VG fb):=by
 have h1:=h.sg.below (ZR _ _).drew;have h1:=h1.img hs;refine⟨h1,hs.Ut.block _ h.l3 h.nf,?_,h1.run.ct⟩;have:=h1.run.c0;rw[hs.b]at this;exact this
def aeU (h:U3 m){c:Nat}{sel:ByteArray}{ws:List (Kn.W×Nat)}(e:m.own c sel=some ws):selector (bl sel)=true:=by
 unfold Im.own at e;obtain⟨k,hk,e⟩:=X0.1 e;unfold Kl.own at e;obtain⟨x,hx,_⟩:=Yl.1 e;have h1:=Xr hx;have h2:=(h.meth c k x hk (Xw hx)).1
 have hs:=Zt λhne=>by
  rw[(Vf _ _).2 hne]at h1;cases h1
 rw[<- hs];exact h2
def Kq {s:ByteArray}(h:selector (bl s)=true):s.size<=8:=by
 unfold selector at h;simp only[ZB,Zq]at h;exact h.1.1.1.1.2
def aax (h:U3 m){c:Nat}{sel:ByteArray}{ws:List (Kn.W×Nat)}(e:m.own c sel=some ws):sel.size<=8:=Kq (aeU h e)
def uj (h:Ud w m K)(cn sel to:ByteArray):
 Calls prog 32 #[VG K.b,.string cn,.string sel,.string to] w λe w'=>e=.returned (VI (m.copy cn sel to).1)/\∃K',Step w w' m K (m.copy cn sel to).2 K':=by
 refine ajc ?_;intro lk RB c0 HS
 cases hcl:m.cls cn with
 | none=>
  have hdr:m.copy cn sel to=(2,m):=by unfold Im.copy;rw[hcl]
  rw[hdr];obtain⟨v,hv⟩:∃v,Vq ((m.cls to).map K.cb)=v:=Vx;rw[hcl]at lk;simp only[Zm,Vq]at lk;rw[hv]at RB;clear h hdr hcl hv;go_enter func32,ntmps32;go_wp2_with fail
  go_region
  go_wp2
  go_ret
  exact Ou
 | some c=>
  have hc:=OO hcl;rw[hcl]at lk;simp only[ZG,Vq]at lk
  cases y':m.cls to with
  | none=>
   have hdr:m.copy cn sel to=(2,m):=by unfold Im.copy;rw[hcl,y']
   rw[hdr];rw[y']at RB;simp only[Zm,Vq]at RB;clear h hdr hcl y';go_enter func32,ntmps32;go_wp2_with fail
   go_region
   go_wp2
   go_ret
   exact Ou
  | some t=>
   rw[y']at RB;simp only[ZG,Vq]at RB;have c0:=h.cls.meth hc;have Tl:=h.drew.iK hc sel
   cases Vn:K.mid c sel with
   | none=>
    have hdr:m.copy cn sel to=(4,m):=aot;rw[hdr];rw[Vn]at Tl;simp only[Zm,Vq]at Tl;clear h hdr hcl;go_enter func32,ntmps32;go_wp2_with fail
    go_region
    go_wp2
    go_ret
    exact Ou
   | some k=>exact acQ h cn sel to (by have:=aax h.ok (h.Oz Vn);omega)
def ae2 {rb:Nat}{fuel fb mk:Nat}(h:Sg Dd w0 m0 K0 rb w m K fuel ((fb,mk)::bs) (f::fs))(h0:Qv w0)(x:Kn.W)(pl:Option Addr)(hk:x.k=120)  :
 Calls prog 132 #[VG rb,Uo x pl] w (TV Dd w0 m0 K0 rb (VA m fuel x f fs)):=by
 have hw:VA m fuel x f fs=if (m.drop (VF x.a) (VF x.sel)).1=0 then .on (m.drop (VF x.a) (VF x.sel)).2 fuel (f::fs) else .stop (m.drop (VF x.a) (VF x.sel)).2 3:=pX
 rw[hw];obtain⟨W1,hW1⟩:∃W1,W1=w.alloc (.cells (TQ x pl) 146):=Vx;have B:=h.box x pl hW1;have c0:=B.c0;have x2:=B.x2;have x3:=B.x3;have hcall:=pY (B.sg.Qj.Ub.drew) (VF x.a) (VF x.sel);obtain⟨⟨e0,m'⟩,hd⟩:∃r,m.drop (VF x.a) (VF x.sel)=r:=Vx;rw[hd]at hcall ⊢;have HB:Hid _:=B;unfold TQ at hW1;unfold Uo TQ;clear B h hw hk hd;by_cases he:e0=0
 . subst he;rw[ZU rfl];go_enter func132,ntmps132;go_wp2_with fail;rw[<- hW1];clear hW1;refine ahx ?_;intro hHeld;refine Il ?_;intro Y_ Z_;refine aac ?_;intro w2 K' hst hcm d2;refine jq ?_;intro d3;have d0:=hcm.2.2.1
   try go_wp2_with fail
   refine Z_.go λhHeld=>?_;clear Z_ Y_
   try refine UE ?_
   have Rb:=IW w2;refine Ul 9 λY_ Z_=>?_;go_simp;refine Rb.mono ?_;rintro e w3 ⟨rfl,rfl⟩
   try go_wp2_with fail
   refine Z_.go λhHeld=>?_;clear Z_ Y_;refine DT ?_
   go_end0
   exact⟨rfl,K',_,hcm.1⟩
 . rw[ZX he];go_enter func132,ntmps132;go_wp2_with fail;rw[<- hW1];clear hW1;refine ahx ?_;intro hHeld;refine Il ?_;intro Y_ Z_;refine aac ?_;intro w2 K' hst hcm d2;refine jq ?_;intro d3;exact ao3
def afh {rb:Nat}{fuel fb mk:Nat}(h:Sg Dd w0 m0 K0 rb w m K fuel ((fb,mk)::bs) (f::fs))(h0:Qv w0)(x:Kn.W)(pl:Option Addr)(hk:x.k=118)  :
 Calls prog 133 #[VG rb,Uo x pl] w (TV Dd w0 m0 K0 rb (VA m fuel x f fs)):=by
 have hw:VA m fuel x f fs=if (m.move (VF x.a) (VF x.b)).1=0 then .on (m.move (VF x.a) (VF x.b)).2 fuel (f::fs) else .stop (m.move (VF x.a) (VF x.b)).2 3:=pX
 rw[hw];obtain⟨W1,hW1⟩:∃W1,W1=w.alloc (.cells (TQ x pl) 146):=Vx;have B:=h.box x pl hW1;have c0:=B.c0;have x2:=B.x2;have x4:=B.x4;have hcall:=move_any (B.sg.Qj.Ub.drew) (VF x.a) (VF x.b);obtain⟨⟨e0,m'⟩,hd⟩:∃r,m.move (VF x.a) (VF x.b)=r:=Vx;rw[hd]at hcall ⊢;have HB:Hid _:=B;unfold TQ at hW1;unfold Uo TQ;clear B h hw hk hd;by_cases he:e0=0
 . subst he;rw[ZU rfl];go_enter func133,ntmps133;go_wp2_with fail;rw[<- hW1];clear hW1;refine aio ?_;intro hHeld;refine Il ?_;intro Y_ Z_;refine aac ?_;intro w2 K' hst hcm d2;refine ji ?_;intro d4;have d0:=hcm.2.2.1
   try go_wp2_with fail
   refine Z_.go λhHeld=>?_;clear Z_ Y_
   try refine UE ?_
   have Rb:=IW w2;refine Ul 9 λY_ Z_=>?_;go_simp;refine Rb.mono ?_;rintro e w3 ⟨rfl,rfl⟩
   try go_wp2_with fail
   refine Z_.go λhHeld=>?_;clear Z_ Y_;refine DT ?_
   go_end0
   exact⟨rfl,K',_,hcm.1⟩
 . rw[ZX he];go_enter func133,ntmps133;go_wp2_with fail;rw[<- hW1];clear hW1;refine aio ?_;intro hHeld;refine Il ?_;intro Y_ Z_;refine aac ?_;intro w2 K' hst hcm d2;refine ji ?_;intro d4;exact ao3
def af7 {rb:Nat}{fuel fb mk:Nat}(h:Sg Dd w0 m0 K0 rb w m K fuel ((fb,mk)::bs) (f::fs))(h0:Qv w0)(x:Kn.W)(pl:Option Addr)(hk:x.k=99)  :
 Calls prog 134 #[VG rb,Uo x pl] w (TV Dd w0 m0 K0 rb (VA m fuel x f fs)):=by
 have hw:VA m fuel x f fs=if (m.copy (VF x.a) (VF x.sel) (VF x.b)).1=0 then .on (m.copy (VF x.a) (VF x.sel) (VF x.b)).2 fuel (f::fs) else .stop (m.copy (VF x.a) (VF x.sel) (VF x.b)).2 3:=pX
 rw[hw];obtain⟨W1,hW1⟩:∃W1,W1=w.alloc (.cells (TQ x pl) 146):=Vx;have B:=h.box x pl hW1;have c0:=B.c0;have x2:=B.x2;have x3:=B.x3;have x4:=B.x4;have hcall:=uj (B.sg.Qj.Ub.drew) (VF x.a) (VF x.sel) (VF x.b);obtain⟨⟨e0,m'⟩,hd⟩:∃r,m.copy (VF x.a) (VF x.sel) (VF x.b)=r:=Vx;rw[hd]at hcall ⊢;have HB:Hid _:=B;unfold TQ at hW1;unfold Uo TQ;clear B h hw hk hd;by_cases he:e0=0
 . subst he;rw[ZU rfl];go_enter func134,ntmps134;go_wp2_with fail;rw[<- hW1];clear hW1;refine aic ?_;intro hHeld;refine FU ?_;refine Ul 10 λY_ Z_=>?_;refine aac ?_;intro w2 K' hst hcm d2;refine jq ?_;intro d3;refine ji ?_;intro d4;have d0:=hcm.2.2.1
   try go_wp2_with fail
   refine Z_.go λhHeld=>?_;clear Z_ Y_
   try refine UE ?_
   have Rb:=IW w2;refine Ul 11 λY_ Z_=>?_;go_simp;refine Rb.mono ?_;rintro e w3 ⟨rfl,rfl⟩
   try go_wp2_with fail
   refine Z_.go λhHeld=>?_;clear Z_ Y_;refine DT ?_
   go_end0
   exact⟨rfl,K',_,hcm.1⟩
 . rw[ZX he];go_enter func134,ntmps134;go_wp2_with fail;rw[<- hW1];clear hW1;refine aic ?_;intro hHeld;refine FU ?_;refine Ul 10 λY_ Z_=>?_;refine aac ?_;intro w2 K' hst hcm d2;refine jq ?_;intro d3;refine ji ?_;intro d4;have d0:=hcm.2.2.1
   try go_wp2_with fail
   refine Z_.go λhHeld=>?_;clear Z_ Y_
   try refine UE ?_
   have Rb:=Ee e0 he w2;refine Ul 11 λY_ Z_=>?_;go_simp;refine Rb.mono ?_;rintro e w3 ⟨rfl,rfl⟩;exact⟨rfl,rfl,K',hcm.1.Qj⟩
end Go.Proofs.Rz
namespace Go.Proofs.Rz
open ChangeShapes WideShapes ChangeAt RowKit Kn Iz Tryz
variable {w w0 : World}
variable {m m0 : Im}
variable {K K0 : Kd}
variable {Dd : Nat -> Prop}
variable {bs : List (Nat × Nat)}
variable {fs : List Fr}
variable {f : Fr}
def dJ {rb:Nat}{fuel fb mk:Nat}(h:Sg Dd w0 m0 K0 rb w m K fuel ((fb,mk)::bs) (f::fs))(h0:Qv w0)(x:Kn.W)(pl:Option Addr)(hk:x.k=98){n:Int}{r:List Vl}(hst:f.st=⟨false,n⟩::r):
 Calls prog 131 #[VG rb,Uo x pl] w (TV Dd w0 m0 K0 rb (VA m fuel x f fs)):=by
 have hw:VA m fuel x f fs=.stop m 3:=JD;rw[hw];obtain⟨W1,hW1⟩:∃W1,W1=w.alloc (.cells (TQ x pl) 146):=Vx;refine rW ?_;intro B Wd lw Q_;have hcall:=take_any Q_;unfold Vl.val at hcall;have HB:Hid _:=B;unfold TQ at hW1;unfold Uo TQ;clear B h hw hk hst Q_;go_enter func131,ntmps131;go_wp2_with fail;rw[<- hW1];clear hW1;refine hcall.mono ?_;rintro e w2 ⟨rfl,hf2,hc2⟩;have MD:Hid _:=hc2;clear hcall hf2 hc2 Wd lw;go_wp2;exact⟨rfl,rfl,K,HB.o.gave h0 (MD.o.alloc _)⟩
def adx {rb:Nat}{fuel fb mk:Nat}(h:Sg Dd w0 m0 K0 rb w m K fuel ((fb,mk)::bs) (f::fs))(h0:Qv w0)(x:Kn.W)(pl:Option Addr)(hk:x.k=98){n:Int}{r:List Vl}(hst:f.st=⟨true,n⟩::r)(he:(m.be n (VF x.a)).1=0):
 Calls prog 131 #[VG rb,Uo x pl] w (TV Dd w0 m0 K0 rb (VA m fuel x f fs)):=by
 have hw:VA m fuel x f fs=.on (m.be n (VF x.a)).2 fuel (f::fs):=by unfold VA;simp[hk,hst,he]
 rw[hw];obtain⟨W1,hW1⟩:∃W1,W1=w.alloc (.cells (TQ x pl) 146):=Vx;refine aje ?_;intro B Wd lw Q_ h_ hcall x2 l3 HB;have HST:Hid _:=hst;obtain⟨⟨e0,m'⟩,hd⟩:∃q,m.be n (VF x.a)=q:=Vx;rw[hd]at he ⊢;simp only at he ⊢;have HD:Hid _:=hd;refine yK ?_;intro Wg;unfold TQ at hW1;unfold Uo TQ;clear B h hw hk hst Q_ hd;go_enter func131,ntmps131;go_wp2_with fail;rw[<- hW1];clear hW1;refine ai4 ?_;intro w2 hf2 hc2 h_ H2;clear hcall hf2 hc2 h_ Wd lw;go_wp2_with fail;obtain⟨W1,hW1⟩:∃W1,W1=w2.alloc (.cells #[.bool true,VI n] 33):=Vx;refine ah9 ?_;intro hb3 hz3 h_ hs2 y2 y0;have v0:W1.cell? (VJ w2.heap.size 0)=some (.bool true):=by simp only[World.cell?,hz3];rfl
 refine agS ?_;intro v1 Ss l3 A6
 have H3:Hid (Sg Dd w0 m0 K0 rb W1 m K fuel ((fb,mk)::bs) ({f with st:=r}::fs)/\W1.heap[w2.heap.size]?=some (.cells #[.bool true,VI n] 33)):=⟨h_,hz3⟩
 clear hW1 h_ hz3 hb3;refine ahA ?_;intro hHeld;refine Il ?_;intro Y_ Z_;go_simp;refine Ss.mono ?_;rintro e w4 ⟨rfl,K',r_⟩;have h_:=(H3.o.1.below (ZR _ _).drew).img r_;refine ahh ?_;intro hk4 y0 y2 v14
 try go_wp2_with fail
 refine Z_.go λhHeld=>?_;clear Z_ Y_
 try refine UE ?_
 subst he;have Rb:=IW w4;have v1:=(Z9 (a:=(VJ w2.heap.size 0)) ail).trans v0;have hs2:W1.heap.size<=w4.heap.size:=r_.Ut.size;have S4:=h_.run.ct;simp only[XP,ZG,Vq]at S4;have l3:=h_.run.Vb.lt;have A6:w2.heap.size<w4.heap.size:=VH;have p_:=RX (w:=w4.drew) (h_.LY.1.raw.same rfl) (by show r.length<16;omega) ⟨true,n⟩;unfold Vl.val at p_;have Mw:w2.heap.size≠fb:=λe=>by have:=(H2.o.1.lo fb Vy).2.1;omega
 have H2:Hid _:=h_;clear Ss r_ hk4 h_;refine Ul 9 λY_ Z_=>?_;go_simp;refine Rb.mono ?_;rintro e w4 ⟨rfl,rfl⟩
 try go_wp2_with fail
 refine Z_.go λhHeld=>?_;clear Z_ Y_;refine DT ?_;clear Rb;go_wp2_with fail;refine Uy ?_;refine ZT (S:=(λw'=>w'.cell? (VJ rb 24)=some (VG fb)/\w'.cell? (VJ w2.heap.size 0)=some (.bool true)/\w'.cell? (VJ w2.heap.size 1)=some (VI n))) VE UG (λhHeld=>?_);refine pJ ?_;refine FC ?_;intro Y_ Z_;refine CV ?_;rintro e w4 ⟨rfl,hf2,hc2⟩;have S4:=(Z9 (a:=(VJ rb 24)) (hc2.block _ l3 HB.o.n1)).trans S4;have v0:=(Z9 (a:=(VJ w2.heap.size 0)) (hc2.block _ A6 Mw)).trans v1;have v0:=(Z9 (a:=(VJ w2.heap.size 1)) (hc2.block _ A6 Mw)).trans v14
 try go_wp2_with fail
 refine Z_.go λhHeld=>?_;clear Z_ Y_;refine Um ?_
 go_end0
 have h_:=H2.o.top (f':={f with st:=⟨true,n⟩::r}) h0 ((Vt.refl _ (λk=>k=fb)).drew.then hc2 Qi) hf2 rfl rfl;rw[show ({f with st:=⟨true,n⟩::r}:Fr)=f from by rw[<- HST.o]]at h_;exact⟨rfl,K',_,h_⟩
def abC {rb:Nat}{fuel fb mk:Nat}(h:Sg Dd w0 m0 K0 rb w m K fuel ((fb,mk)::bs) (f::fs))(h0:Qv w0)(x:Kn.W)(pl:Option Addr)(hk:x.k=98){n:Int}{r:List Vl}(hst:f.st=⟨true,n⟩::r)(he:(m.be n (VF x.a)).1≠0):
 Calls prog 131 #[VG rb,Uo x pl] w (TV Dd w0 m0 K0 rb (VA m fuel x f fs)):=by
 have hw:VA m fuel x f fs=.stop (m.be n (VF x.a)).2 3:=by unfold VA;simp[hk,hst,he]
 rw[hw];obtain⟨W1,hW1⟩:∃W1,W1=w.alloc (.cells (TQ x pl) 146):=Vx;refine aje ?_;intro B Wd lw Q_ h_ hcall x2 l3 HB;obtain⟨⟨e0,m'⟩,hd⟩:∃q,m.be n (VF x.a)=q:=Vx;rw[hd]at he ⊢;simp only at he ⊢;have HD:Hid _:=hd;refine yK ?_;intro Wg;unfold TQ at hW1;unfold Uo TQ;clear B h hw hk hst Q_ hd;go_enter func131,ntmps131;go_wp2_with fail;rw[<- hW1];clear hW1;refine ai4 ?_;intro w2 hf2 hc2 h_ H2;clear hcall hf2 hc2 h_ Wd lw;go_wp2_with fail;obtain⟨W1,hW1⟩:∃W1,W1=w2.alloc (.cells #[.bool true,VI n] 33):=Vx;refine ah9 ?_;intro hb3 hz3 h_ hs2 y2 y0;refine agS ?_;intro v1 Ss l3 A6
 have H2:Hid (Sg Dd w0 m0 K0 rb W1 m K fuel ((fb,mk)::bs) ({f with st:=r}::fs)/\W1.heap[w2.heap.size]?=some (.cells #[.bool true,VI n] 33)):=⟨h_,hz3⟩
 clear hW1 h_ hz3 hb3;refine ahA ?_;intro hHeld;refine Il ?_;intro Y_ Z_;go_simp;refine Ss.mono ?_;rintro e w4 ⟨rfl,K',r_⟩;have h_:=(H2.o.1.below (ZR _ _).drew).img r_;refine ahh ?_;intro hk4 y0 y2 v14
 try go_wp2_with fail
 refine Z_.go λhHeld=>?_;clear Z_ Y_
 try refine UE ?_
 have Rb:=Ee e0 he w4;refine Ul 9 λY_ Z_=>?_;go_simp;refine Rb.mono ?_;rintro e w2 ⟨rfl,rfl⟩;exact⟨rfl,rfl,K',h_.Qj⟩
def dP {rb:Nat}{fuel fb mk:Nat}(h:Sg Dd w0 m0 K0 rb w m K fuel ((fb,mk)::bs) (f::fs))(h0:Qv w0)(x:Kn.W)(pl:Option Addr)(hk:x.k=119)(hr:f.st.length<16)(he:(m.make (VF x.a)).2.1=0):
 Calls prog 130 #[VG rb,Uo x pl] w (TV Dd w0 m0 K0 rb (VA m fuel x f fs)):=by
 have hw:VA m fuel x f fs=.on (m.make (VF x.a)).2.2 fuel ({f with st:=(m.make (VF x.a)).1::f.st}::fs):=by unfold VA;simp[hk,he]
 rw[hw];obtain⟨W1,hW1⟩:∃W1,W1=w.alloc (.cells (TQ x pl) 146):=Vx;refine aiv ?_;intro B c0 x2 _ l1 HB hmk;obtain⟨⟨v,e0,m'⟩,hd⟩:∃q,m.make (VF x.a)=q:=Vx;rw[hd]at he hmk ⊢;simp only at he hmk ⊢;refine yK ?_;intro Wg;unfold Vl.val at hmk;unfold TQ at hW1;refine aip ?_;intro hBa hBb;clear B h hw hk hd;go_enter func130,ntmps130;go_wp2_with fail;rw[<- hW1];clear hW1;refine Uy ?_;refine ai3 ?_;intro hHeld;refine IC ?_;refine Zv (rs:=[6,10]) VE Vy ?_;refine(ZO (o:=_) rfl (λY_ Z_=>?_) (ZO (o:=_) rfl (λY_ Z_=>?_) ZA))
 case' refine_1=>
  refine ahb ?_;intro w2 K' hst h2 y0 y2
  try go_wp2_with fail
  refine Z_.go λhHeld=>?_;clear Z_ Y_;refine ahQ ?_;intro _ hHeld;obtain⟨W3,hW1⟩:∃W3,W3=w2.alloc (.cells #[.bool v.obj,VI v.n] 33):=Vx;obtain⟨z,hzz⟩:∃z,z=w2.heap.size:=Vx;rw[<- hW1,<- hzz];have hzb:W3.heap[z]?=some (.cells #[.bool v.obj,VI v.n] 33):=jv;have LO:W1.heap.size<=z:=by rw[hzz];exact hst.Ut.size
  have H3:Hid (Sg Dd w0 m0 K0 rb W3 m' K' fuel ((fb,mk)::bs) (f::fs)):=by
   exact anr
  clear hW1 hzz h2 hst y0 y2 hmk hBa hBb
 case' refine_2=>
  refine Vg ?_;intro hHeld;clear Z_ Y_;refine ajV ?_;intro Y_ Z_ w2 K' hst h2 y0 y2
  try go_wp2_with fail
  refine Z_.go λhHeld=>?_;clear Z_ Y_;refine aoG ?_;intro Rp hz2 u0 u1 uf q1 q3;refine abM ?_;refine Ur 9 ?_;refine yF ?_;intro hHeld;refine BD ?_;refine Nr ?_;obtain⟨W3,hW1⟩:∃W3,W3=(w2.setCell (VJ W1.heap.size 0) (.bool v.obj)).setCell (VJ W1.heap.size 1) (VI v.n):=Vx;obtain⟨z,hzz⟩:∃z,z=W1.heap.size:=Vx;rw[<- hW1,<- hzz];have hzb:W3.heap[z]?=some (.cells #[.bool v.obj,VI v.n] 33):=by rw[hW1,hzz];exact set2 hz2
  have LO:W1.heap.size<=z:=VH
  have H3:Hid (Sg Dd w0 m0 K0 rb W3 m' K' fuel ((fb,mk)::bs) (f::fs)):=by
   have hx:Sg Dd w0 m0 K0 rb W3 m' K' fuel ((fb,mk)::bs) (f::fs):=by
    refine ajl ?_;intro k e e';rcases hst.foot _ e' with e0|e0
    . exact Rp e0
    . simp at e0;omega
   exact hx
  clear hW1 hzz h2 hst y0 y2 hmk hBa hBb hz2 u0 u1 uf q1 q3 Rp
 all_goals
  subst he;have Rb:=IW W3;have YY:=H3.o.run.ct;simp only[XP,ZG,Vq]at YY;have l1:=H3.o.run.Vb.lt;have v0:W3.cell? (VJ z 0)=some (.bool v.obj):=by simp only[World.cell?,hzb];rfl
  have v1:W3.cell? (VJ z 1)=some (VI v.n):=by simp only[World.cell?,hzb];rfl
  have cV:=(Z5.1 hzb).1;have Rp:z≠fb:=λe=>by have:=HB.o.l2;omega
  have p_:=RX (w:=W3.drew) (H3.o.LY.1.raw.same rfl) hr v;unfold Vl.val at p_;clear hzb;go_wp2_with fail;refine Rb.mono ?_;rintro e w2 ⟨rfl,rfl⟩;clear Rb;go_wp2_with fail;refine Uy ?_;refine ZT (S:=(λw'=>w'.cell? (VJ rb 24)=some (VG fb)/\w'.cell? (VJ z 0)=some (.bool v.obj)/\w'.cell? (VJ z 1)=some (VI v.n))) VE UG (λhHeld=>?_);refine pJ ?_;refine FC ?_;intro Y_ Z_;refine CV ?_;rintro e w2 ⟨rfl,v7,pw⟩;have YY:=(Z9 (a:=(VJ rb 24)) (pw.block _ l1 HB.o.n1)).trans YY;have v0:=(Z9 (a:=(VJ z 0)) (pw.block _ cV Rp)).trans v0;have v0:=(Z9 (a:=(VJ z 1)) (pw.block _ cV Rp)).trans v1
  try go_wp2_with fail
  refine Z_.go λhHeld=>?_;clear Z_ Y_;refine Um ?_
  go_end0
  exact⟨rfl,K',_,H3.o.top (f':={f with st:=v::f.st}) h0 ((Vt.refl _ (λk=>k=fb)).drew.then pw Qi) v7 rfl rfl⟩
def aaI {rb:Nat}{fuel fb mk:Nat}(h:Sg Dd w0 m0 K0 rb w m K fuel ((fb,mk)::bs) (f::fs))(h0:Qv w0)(x:Kn.W)(pl:Option Addr)(hk:x.k=119)(hr:f.st.length<16)(he:(m.make (VF x.a)).2.1≠0):
 Calls prog 130 #[VG rb,Uo x pl] w (TV Dd w0 m0 K0 rb (VA m fuel x f fs)):=by
 have hw:VA m fuel x f fs=.stop (m.make (VF x.a)).2.2 3:=by unfold VA;simp[hk,he]
 rw[hw];obtain⟨W1,hW1⟩:∃W1,W1=w.alloc (.cells (TQ x pl) 146):=Vx;refine aiv ?_;intro B c0 x2 _ l1 HB hmk;obtain⟨⟨v,e0,m'⟩,hd⟩:∃q,m.make (VF x.a)=q:=Vx;rw[hd]at he hmk ⊢;simp only at he hmk ⊢;refine yK ?_;intro Wg;unfold Vl.val at hmk;unfold TQ at hW1;refine aip ?_;intro hBa hBb;clear B h hw hk hd;go_enter func130,ntmps130;go_wp2_with fail;rw[<- hW1];clear hW1;refine Uy ?_;refine ai3 ?_;intro hHeld;refine IC ?_;refine Zv (rs:=[6,10]) VE Vy ?_;refine(ZO (o:=_) rfl (λY_ Z_=>?_) (ZO (o:=_) rfl (λY_ Z_=>?_) ZA))
 case' refine_1=>
  refine ahb ?_;intro w2 K' hst h2 y0 y2
  try go_wp2_with fail
  refine Z_.go λhHeld=>?_;clear Z_ Y_;refine ahQ ?_;intro _ hHeld;obtain⟨W3,hW1⟩:∃W3,W3=w2.alloc (.cells #[.bool v.obj,VI v.n] 33):=Vx;obtain⟨z,hzz⟩:∃z,z=w2.heap.size:=Vx;rw[<- hW1,<- hzz]
  have H3:Hid (Sg Dd w0 m0 K0 rb W3 m' K' fuel ((fb,mk)::bs) (f::fs)):=by
   exact anr
  clear hW1 hzz h2 hst y0 y2 hmk hBa hBb
 case' refine_2=>
  refine Vg ?_;intro hHeld;clear Z_ Y_;refine ajV ?_;intro Y_ Z_ w2 K' hst h2 y0 y2
  try go_wp2_with fail
  refine Z_.go λhHeld=>?_;clear Z_ Y_;refine aoG ?_;intro Rp hz2 u0 u1 uf q1 q3;refine abM ?_;refine Ur 9 ?_;refine yF ?_;intro hHeld;refine BD ?_;refine Nr ?_;obtain⟨W3,hW1⟩:∃W3,W3=(w2.setCell (VJ W1.heap.size 0) (.bool v.obj)).setCell (VJ W1.heap.size 1) (VI v.n):=Vx;obtain⟨z,hzz⟩:∃z,z=W1.heap.size:=Vx;rw[<- hW1,<- hzz]
  have H3:Hid (Sg Dd w0 m0 K0 rb W3 m' K' fuel ((fb,mk)::bs) (f::fs)):=by
   have hx:Sg Dd w0 m0 K0 rb W3 m' K' fuel ((fb,mk)::bs) (f::fs):=by
    refine ajl ?_;intro k e e';rcases hst.foot _ e' with e1|e1
    . exact Rp e1
    . simp at e1;omega
   exact hx
  clear hW1 hzz h2 hst y0 y2 hmk hBa hBb hz2 u0 u1 uf q1 q3 Rp
 all_goals
  have Rb:=Ee e0 he W3;go_wp2_with fail;refine Rb.mono ?_;rintro e w2 ⟨rfl,rfl⟩;clear Rb;go_wp2;exact⟨rfl,rfl,K',H3.o.Qj⟩
def acB {rb:Nat}{fuel fb mk:Nat}(h:Sg Dd w0 m0 K0 rb w m K fuel ((fb,mk)::bs) (f::fs))(h0:Qv w0)(x:Kn.W)(pl:Option Addr)(hk:x.k=112){v:Vl}{r:List Vl}(hst:f.st=v::r){i j:Nat}{o:Ob}(hi:f.self.n=i)(ho:m.obs[i]?=some o)(hj:x.n=j)(hjl:j<o.slots.length)(hm':U3 {m with obs:=m.obs.modify i (λo=>{o with slots:=o.slots.set j v})}):
 Calls prog 118 #[VG rb,Uo x pl] w (TV Dd w0 m0 K0 rb (VA m fuel x f fs)):=by
 have hw:VA m fuel x f fs=.on {m with obs:=m.obs.modify i (λo=>{o with slots:=o.slots.set j v})} fuel ({f with st:=r}::fs):=by unfold VA;simp[hk,hst,hi,hj]
 rw[hw];obtain⟨W1,hW1⟩:∃W1,W1=w.alloc (.cells (TQ x pl) 146):=Vx;refine Ju ?_;intro B ct;have c0:=B.c0;have x1:=B.x1;rw[hj]at x1;have l1:=B.l1;have l3:=B.l3;have h1:=B.sg.Qj.Ub;obtain⟨p,cap,hov,hf⟩:=h1.obs.form;obtain⟨g,hg,hF⟩:=hf i o ho;have c1:=h1.hd.c1;rw[hov]at c1;obtain⟨rfl⟩:=hF.p;have o1:=hF.c1;have Q_:=B.sg.LY.1.raw;have s3:=Q_.c3;rw[hi]at s3;rw[hst]at Q_;have htk:=take_any (w:=W1.drew) (Q_.same rfl);unfold Vl.val at htk;have hil:(i:Int)<(m.obs.length:Int):=by have:=(Z7.1 ho).1;omega
 have tT:(j:Int)<(o.slots.length:Int):=VH;have hbl:=h1.Uc.tab.Vb.lt;have hnF:∀k,k∈rb::((fb,mk)::bs).map (·.1)->¬U2 m K k:=λk e=>(B.sg.lo k e).2.2;refine aiw ?_;intro DS B4;have Z1:K.b≠fb:=λe=>hnF fb Vy (by rw[<- e];exact .inl rfl);have W7:g≠fb:=λe=>hnF fb Vy (by rw[<- e];exact DS);have Te:K.ob i≠fb:=λe=>hnF fb Vy iq;have pQ:¬K.ob i=rb:=λe=>hnF rb Vy iq;have pQ:¬K.ob i=w.heap.size:=λe=>B.nf iq;have hat:=h1.obs.at_ i o ho
 have pQ:¬K.ob i=K.b:=λe=>by
  obtain⟨cur,V_⟩:=h1.Uc.img;rw[e,V_]at hat;injection hat with hat;injection hat with _ hat _;revert hat;decide
 have hnb:¬K.ob i=g:=λe=>by
  obtain⟨cs,hcs⟩:=hF.typ;rw[e,hcs]at hat;injection hat with hat;injection hat with _ hat _;revert hat;decide
 have lg:=h1.lt DS;have lo:=h1.lt B4
 obtain⟨u,hu⟩:∃u,o.slots[j]?=some u:=⟨_,Z8 hjl⟩
 obtain⟨u0,u1⟩:=h1.obs.val ho hu;have uf:∀k,W1.frozen? (VJ (K.ob i) k)=false:=λk=>UL.free ⟨_,_,hat⟩ k
 have HO:Hid (m.obs[i]?=some o/\j<o.slots.length/\U3 {m with obs:=m.obs.modify i (λo=>{o with slots:=o.slots.set j v})}/\f.self.n=i):=⟨ho,hjl,hm',hi⟩
 have HB:Hid _:=B;unfold TQ at hW1;unfold Uo TQ;clear B h hw hk hi hj h1 hf hF hg hov ho DS B4 hnF Q_ hst hu hat hm';go_enter func118,ntmps118;go_wp2_with fail;rw[<- hW1];clear hW1;refine Uy ?_;refine ZT (S:=(λw'=>w'.cell? (VJ rb 24)=some (VG fb)/\w'.cell? (VJ rb 0)=some (VG K.b)/\w'.cell? (VJ w.heap.size 1)=some (VI (j:Nat))/\w'.cell? (VJ K.b 1)=some (.slice (some (VJ g 0)) m.obs.length cap)/\w'.cell? (VJ fb 3)=some (VI (i:Nat))/\w'.cell? (VJ g (i*2+1))=some (.slice (some (VJ (K.ob i) 0)) o.slots.length o.slots.length))) VE UG (λhHeld=>?_);refine KG ?_;refine iO ?_;refine Uh 18 ?_;refine Uh 19 ?_;refine Uh 20 ?_;refine Uh 21 ?_;refine Uh 22 ?_;refine Ur 23 ?_;refine Zv (rs:=[15,24]) VE Vy ?_;refine(ZO (o:=_) rfl (λY_ Z_=>?_) (ZO (o:=_) rfl (λY_ Z_=>?_) ZA))
 case' refine_1=>
  refine Vg ?_;intro hHeld;clear Z_ Y_
  try refine UE ?_
  refine CG ?_;refine Ul 24 λY_ Z_=>?_;refine aoW ?_;intro w3 hf3 hc3 d1 d2 d3 d4 d5 d6
  try go_wp2_with fail
  refine Z_.go λhHeld=>?_;clear Z_ Y_
  try refine UE ?_
 case' refine_2=>
  refine aoW ?_;intro w3 hf3 hc3 d1 d2 d3 d4 d5 d6
  try go_wp2_with fail
  refine Z_.go λhHeld=>?_;clear Z_ Y_
  try refine UE ?_
  refine Ul 15 λY_ Z_=>?_;refine Vg ?_;intro hHeld;clear Z_ Y_
  try refine UE ?_
  refine Uh 16 ?_;refine Ur 17 ?_
 all_goals
  have u0:=(Z9 (a:=(VJ (K.ob i) (j*2))) uY).trans u0;have u0:=(Z9 (a:=(VJ (K.ob i) (j*2+1))) uY).trans u1;have uf3:∀k,w3.frozen? (VJ (K.ob i) k)=false:=λk=>(Zr (a:=(VJ (K.ob i) k)) uY).trans (uf k);have h1:=HB.o.sg.top (f':={f with st:=r}) h0 ((Vt.refl W1 (λk=>k=fb)).drew.then hc3 Qi) hf3 rfl rfl;have H3:Hid _:=h1;clear htk h1 hf3 hc3 uf;refine Ul 25 λY_ Z_=>?_;refine Vg ?_;intro hHeld;clear Z_ Y_
  try refine UE ?_
  refine Ul 26 λY_ Z_=>?_;refine Vg ?_;intro hHeld;clear Z_ Y_;refine Um ?_
  go_end0
  exact⟨rfl,K,_,H3.o.img (H3.o.Qj.Ub.restore HO.o.1 HO.o.2.1 HO.o.2.2.1)⟩
end Go.Proofs.Rz
namespace Go.Proofs.Rz
open ChangeShapes WideShapes ChangeAt RowKit Kn Iz Tryz
def afO {α:Type}(a b:Vl)(t:Bool->α):(if b.obj=a.obj then if b.n=a.n then t true else t false else t false)=t (decide (a=b)):=by
 obtain⟨ao,an⟩:=a;obtain⟨bo,bn⟩:=b;by_cases e1:bo=ao
 . by_cases e2:bn=an
   . subst e1 e2;simp
   . have e3:¬an=bn:=λe=>e2 e.symm;subst e1;simp[e2,e3]
 . have e3:¬ao=bo:=λe=>e1 e.symm;simp[e1,e3]
variable {w w0 : World}
variable {m m0 : Im}
variable {K K0 : Kd}
variable {Dd : Nat -> Prop}
variable {bs : List (Nat × Nat)}
variable {fs : List Fr}
variable {f : Fr}
def afP {rb:Nat}{fuel fb mk:Nat}(h:Sg Dd w0 m0 K0 rb w m K fuel ((fb,mk)::bs) (f::fs))(h0:Qv w0)(x:Kn.W)(pl:Option Addr)(hk:x.k=61){a b:Vl}{r:List Vl}(hst:f.st=b::a::r):
 Calls prog 123 #[VG rb,Uo x pl] w (TV Dd w0 m0 K0 rb (VA m fuel x f fs)):=by
 have hw:VA m fuel x f fs=.on m fuel ({f with st:=vG (decide (a=b))::r}::fs):=JD;rw[hw];obtain⟨W1,hW1⟩:∃W1,W1=w.alloc (.cells (TQ x pl) 146):=Vx;refine Ju ?_;intro B ct;have l1:=B.l1;have l2:=B.l2;have Q_:=B.sg.LY.1.raw;have h_:=Q_.s16;rw[hst]at Q_ h_;simp only[ZI]at h_;have HB:Hid _:=B;unfold TQ at hW1;unfold Uo TQ;clear B h hw hk hst;go_enter func123,ntmps123;go_wp2_with fail;rw[<- hW1];clear hW1;refine Uy ?_;refine ZT (S:=(λw'=>w'.cell? (VJ rb 24)=some (VG fb))) VE UG (λhHeld=>?_);refine pJ ?_;refine agh ?_;refine Ur 8 ?_;obtain⟨V0,hV0⟩:∃V,V=W1.drew:=Vx;rw[<- hV0];have hc0:Vt W1 V0 (λk=>k=fb):=by rw[hV0];exact(Vt.refl _ _).drew
 have vE:Un V0 fb (some (VJ mk 0)) (some (VJ (K.cb f.home) 0)) f.self f.args f.pc (b::a::r) (bs.head?.map (·.1)):=Q_.same (by rw[hV0];rfl);have ye:V0.cell? (VJ rb 24)=some (VG fb):=by rw[hV0];exact ct
 have l0:rb<V0.heap.size:=by rw[hV0];exact l1
 clear hV0 Q_ ct;refine Zv (rs:=[4,10,11]) VE Vy ?_;refine(ZO (o:=_) rfl (λY_ Z_=>?cy) (ZO (o:=_) rfl (λY_ Z_=>?bj) (ZO (o:=_) rfl (λY_ Z_=>?Fx3) ZA)))
 case' cy=>
  go_simp;have htk:=take_any vE;unfold Vl.val at htk;refine htk.mono ?_;clear htk;rintro e V1 ⟨rfl,LL,hcc⟩;have Lt:=(Z9 (a:=(VJ rb 24)) (hcc.block _ l0 HB.o.n1)).trans ye
  try go_wp2_with fail
  refine Z_.go λhHeld=>?_;clear Z_ Y_
  try refine UE ?_
  have hc1:=hc0.then hcc Qi;have l1:=ZY l0 hcc.size;clear hcc;refine Zv (rs:=[9,10,11]) VE Vy ?_;refine(ZO (o:=_) rfl (λY_ Z_=>?l4) (ZO (o:=_) rfl (λY_ Z_=>?oe) (ZO (o:=_) rfl (λY_ Z_=>?g9) ZA)))
  case' l4=>
   refine abH ?_;intro V2 SF hcc XS
   try go_wp2_with fail
   refine Z_.go λhHeld=>?_;clear Z_ Y_;refine ac8 ?_;intro hc2 l2;clear hcc Lt l1 LL hc1;refine Zv (rs:=[10,11]) VE Vy ?_;refine(ZO (o:=_) rfl (λY_ Z_=>?rA) (ZO (o:=_) rfl (λY_ Z_=>?sC) ZA))
   case' rA=>
    refine Vg ?_;intro hHeld;clear Z_ Y_
    try refine UE ?_
    obtain⟨V3,hV0⟩:∃V,V=V2.alloc (.cells #[.bool false,VI 0] 33):=Vx;obtain⟨z10,t_⟩:∃z,z=V2.heap.size:=Vx;refine aaQ ?_;intro j_ N_ Ta;refine eF ?_;intro hc3 T5 YY l3;clear hV0 j_ XS l2 SF hc2;clear t_;refine abG ?_;intro hlt hHeld;obtain⟨V4,SW⟩:∃V,V=V3.alloc (.cells #[.bool false,VI 0] 33):=Vx;obtain⟨z11,u_⟩:∃z,z=V3.heap.size:=Vx;refine akc ?_;intro hB4 K_ S7 hc4 Ps S4 N_;clear SW hB4 YY l3 T5 hc3;rw[<- u_]at hlt;clear u_;refine ?lf
   case' sC=>
    refine Vg ?_;intro hHeld;clear Z_ Y_
    try refine UE ?_
    obtain⟨V3,hV0⟩:∃V,V=V2.alloc (.cells #[.bool false,VI 0] 33):=Vx;obtain⟨z11,u_⟩:∃z,z=V2.heap.size:=Vx;refine adU ?_;intro j_ K_ S7;refine eF ?_;intro hc3 T5 YY l3;clear hV0 j_ XS l2 SF hc2;clear u_;refine abr ?_;intro hlt hHeld;obtain⟨V4,SW⟩:∃V,V=V3.alloc (.cells #[.bool false,VI 0] 33):=Vx;obtain⟨z10,t_⟩:∃z,z=V3.heap.size:=Vx;refine aki ?_;intro hB4 N_ Ta hc4 Ps S4 K_;clear SW hB4 YY l3 T5 hc3;rw[<- t_]at hlt;clear t_;refine ?lf
  case' oe=>
   refine Vg ?_;intro hHeld;clear Z_ Y_
   try refine UE ?_
   obtain⟨V2,hV2⟩:∃V,V=V1.alloc (.cells #[.bool false,VI 0] 33):=Vx;obtain⟨z10,t_⟩:∃z,z=V1.heap.size:=Vx;refine agO ?_;intro hB2 N_ Ta;refine gY ?_;intro hc2 SF XS l2;clear hV2 hB2 Lt l1 LL hc1;clear t_;refine Zv (rs:=[9,11]) VE Vy ?_;refine(ZO (o:=_) rfl (λY_ Z_=>?rj) (ZO (o:=_) rfl (λY_ Z_=>?tR) ZA))
   case' rj=>
    refine dL ?_;intro V3 T5 hcc YY
    try go_wp2_with fail
    refine Z_.go λhHeld=>?_;clear Z_ Y_;refine amV ?_;intro hc3 l3 N_;clear hcc XS l2 SF hc2;refine abG ?_;intro hlt hHeld;obtain⟨V4,SW⟩:∃V,V=V3.alloc (.cells #[.bool false,VI 0] 33):=Vx;obtain⟨z11,u_⟩:∃z,z=V3.heap.size:=Vx;refine akc ?_;intro hB4 K_ S7 hc4 Ps S4 N_;clear SW hB4 YY l3 T5 hc3;rw[<- u_]at hlt;clear u_;refine ?lf
   case' tR=>
    have hlt:=(Z5.1 N_).1;refine Vg ?_;intro hHeld;clear Z_ Y_
    try refine UE ?_
    obtain⟨V3,hV0⟩:∃V,V=V2.alloc (.cells #[.bool false,VI 0] 33):=Vx;obtain⟨z11,u_⟩:∃z,z=V2.heap.size:=Vx;refine adU ?_;intro j_ K_ S7;refine eF ?_;intro hc3 T5 YY l3;have N_:=(j_.block z10 (Z5.1 N_).1).trans N_;clear hV0 j_ XS l2 SF hc2;rw[<- u_]at hlt;clear u_;refine dU ?_;intro Y_ Z_ V4 Ps hcc S4
    try go_wp2_with fail
    refine Z_.go λhHeld=>?_;clear Z_ Y_;refine zV ?_;intro hc4 N_ K_;clear hcc YY l3 T5 hc3;refine ?lf
  case' g9=>
   refine Vg ?_;intro hHeld;clear Z_ Y_
   try refine UE ?_
   obtain⟨V2,hV2⟩:∃V,V=V1.alloc (.cells #[.bool false,VI 0] 33):=Vx;obtain⟨z11,u_⟩:∃z,z=V1.heap.size:=Vx;refine aiZ ?_;intro hB2 K_ S7;refine gY ?_;intro hc2 SF XS l2;clear hV2 hB2 Lt l1 LL hc1;clear u_;refine Zv (rs:=[9,10]) VE Vy ?_;refine(ZO (o:=_) rfl (λY_ Z_=>?u7) (ZO (o:=_) rfl (λY_ Z_=>?rg) ZA))
   case' u7=>
    refine dL ?_;intro V3 T5 hcc YY
    try go_wp2_with fail
    refine Z_.go λhHeld=>?_;clear Z_ Y_;refine fP ?_;intro hc3 l3;refine gI ?_;intro K_;clear hcc XS l2 SF hc2;refine abr ?_;intro hlt hHeld;obtain⟨V4,SW⟩:∃V,V=V3.alloc (.cells #[.bool false,VI 0] 33):=Vx;obtain⟨z10,t_⟩:∃z,z=V3.heap.size:=Vx;refine aki ?_;intro hB4 N_ Ta hc4 Ps S4 K_;clear SW hB4 YY l3 T5 hc3;rw[<- t_]at hlt;clear t_;refine ?lf
   case' rg=>
    have hlt:=(Z5.1 K_).1;refine Vg ?_;intro hHeld;clear Z_ Y_
    try refine UE ?_
    obtain⟨V3,hV0⟩:∃V,V=V2.alloc (.cells #[.bool false,VI 0] 33):=Vx;obtain⟨z10,t_⟩:∃z,z=V2.heap.size:=Vx;refine aaQ ?_;intro j_ N_ Ta;refine eF ?_;intro hc3 T5 YY l3;have K_:=(j_.block z11 (Z5.1 K_).1).trans K_;clear hV0 j_ XS l2 SF hc2;rw[<- t_]at hlt;clear t_;refine dU ?_;intro Y_ Z_ V4 Ps hcc S4
    try go_wp2_with fail
    refine Z_.go λhHeld=>?_;clear Z_ Y_;refine zV ?_;intro hc4 N_ K_;clear hcc YY l3 T5 hc3;refine ?lf
 case' bj=>
  refine Vg ?_;intro hHeld;clear Z_ Y_
  try refine UE ?_
  obtain⟨V1,hV1⟩:∃V,V=V0.alloc (.cells #[.bool false,VI 0] 33):=Vx;obtain⟨z10,t_⟩:∃z,z=V0.heap.size:=Vx;rw[<- hV1,<- t_];have hB1:Below V0.heap.size V0 V1:=by rw[hV1];exact(ZR _ _).alloc UM _
  have N_:V1.heap[z10]?=some (.cells #[.bool false,VI 0] 33):=by rw[hV1,t_];exact(Z4 _ _).1
  have Ta:W1.heap.size<=z10:=by rw[t_];exact hc0.size
  refine aiY ?_;intro hc1 LL Lt l1;clear hV1 hB1;clear t_;refine Zv (rs:=[4,11]) VE Vy ?_;refine(ZO (o:=_) rfl (λY_ Z_=>?oo) (ZO (o:=_) rfl (λY_ Z_=>?ja) ZA))
  case' oo=>
   refine abH ?_;intro V2 SF hcc XS
   try go_wp2_with fail
   refine Z_.go λhHeld=>?_;clear Z_ Y_;refine ac8 ?_;intro hc2 l2;have N_:=(hcc.block z10 (Z5.1 N_).1 VH).trans N_;clear hcc Lt l1 LL hc1;refine Zv (rs:=[9,11]) VE Vy ?_;refine(ZO (o:=_) rfl (λY_ Z_=>?sm) (ZO (o:=_) rfl (λY_ Z_=>?t6) ZA))
   case' sm=>
    refine dL ?_;intro V3 T5 hcc YY
    try go_wp2_with fail
    refine Z_.go λhHeld=>?_;clear Z_ Y_;refine amV ?_;intro hc3 l3 N_;clear hcc XS l2 SF hc2;refine abG ?_;intro hlt hHeld;obtain⟨V4,SW⟩:∃V,V=V3.alloc (.cells #[.bool false,VI 0] 33):=Vx;obtain⟨z11,u_⟩:∃z,z=V3.heap.size:=Vx;refine akc ?_;intro hB4 K_ S7 hc4 Ps S4 N_;clear SW hB4 YY l3 T5 hc3;rw[<- u_]at hlt;clear u_;refine ?lf
   case' t6=>
    have hlt:=(Z5.1 N_).1;refine Vg ?_;intro hHeld;clear Z_ Y_
    try refine UE ?_
    obtain⟨V3,hV0⟩:∃V,V=V2.alloc (.cells #[.bool false,VI 0] 33):=Vx;obtain⟨z11,u_⟩:∃z,z=V2.heap.size:=Vx;refine adU ?_;intro j_ K_ S7;refine eF ?_;intro hc3 T5 YY l3;have N_:=(j_.block z10 (Z5.1 N_).1).trans N_;clear hV0 j_ XS l2 SF hc2;rw[<- u_]at hlt;clear u_;refine dU ?_;intro Y_ Z_ V4 Ps hcc S4
    try go_wp2_with fail
    refine Z_.go λhHeld=>?_;clear Z_ Y_;refine zV ?_;intro hc4 N_ K_;clear hcc YY l3 T5 hc3;refine ?lf
  case' ja=>
   have hlt:=(Z5.1 N_).1;refine Vg ?_;intro hHeld;clear Z_ Y_
   try refine UE ?_
   obtain⟨V2,hV2⟩:∃V,V=V1.alloc (.cells #[.bool false,VI 0] 33):=Vx;obtain⟨z11,u_⟩:∃z,z=V1.heap.size:=Vx;refine aiZ ?_;intro hB2 K_ S7;refine gY ?_;intro hc2 SF XS l2;have N_:=(hB2.block z10 (Z5.1 N_).1).trans N_;clear hV2 hB2 Lt l1 LL hc1;rw[<- u_]at hlt;clear u_;refine Ul 4 λY_ Z_=>?_;refine dL ?_;intro V3 T5 hcc YY
   try go_wp2_with fail
   refine Z_.go λhHeld=>?_;clear Z_ Y_;refine fP ?_;intro hc3 l3;refine akY ?_;intro N_ K_;clear hcc XS l2 SF hc2;refine dU ?_;intro Y_ Z_ V4 Ps hcc S4
   try go_wp2_with fail
   refine Z_.go λhHeld=>?_;clear Z_ Y_;refine zV ?_;intro hc4 N_ K_;clear hcc YY l3 T5 hc3;refine ?lf
 case' Fx3=>
  refine Vg ?_;intro hHeld;clear Z_ Y_
  try refine UE ?_
  obtain⟨V1,hV1⟩:∃V,V=V0.alloc (.cells #[.bool false,VI 0] 33):=Vx;obtain⟨z11,u_⟩:∃z,z=V0.heap.size:=Vx;rw[<- hV1,<- u_];have hB1:Below V0.heap.size V0 V1:=by rw[hV1];exact(ZR _ _).alloc UM _
  have K_:V1.heap[z11]?=some (.cells #[.bool false,VI 0] 33):=by rw[hV1,u_];exact(Z4 _ _).1
  have S7:W1.heap.size<=z11:=by rw[u_];exact hc0.size
  refine aiY ?_;intro hc1 LL Lt l1;clear hV1 hB1;clear u_;refine Zv (rs:=[4,10]) VE Vy ?_;refine(ZO (o:=_) rfl (λY_ Z_=>?gi) (ZO (o:=_) rfl (λY_ Z_=>?mE) ZA))
  case' gi=>
   refine abH ?_;intro V2 SF hcc XS
   try go_wp2_with fail
   refine Z_.go λhHeld=>?_;clear Z_ Y_;refine ac8 ?_;intro hc2 l2;refine gI ?_;intro K_;clear hcc Lt l1 LL hc1;refine Zv (rs:=[9,10]) VE Vy ?_;refine(ZO (o:=_) rfl (λY_ Z_=>?si) (ZO (o:=_) rfl (λY_ Z_=>?rv) ZA))
   case' si=>
    refine dL ?_;intro V3 T5 hcc YY
    try go_wp2_with fail
    refine Z_.go λhHeld=>?_;clear Z_ Y_;refine fP ?_;intro hc3 l3;refine gI ?_;intro K_;clear hcc XS l2 SF hc2;refine abr ?_;intro hlt hHeld;obtain⟨V4,SW⟩:∃V,V=V3.alloc (.cells #[.bool false,VI 0] 33):=Vx;obtain⟨z10,t_⟩:∃z,z=V3.heap.size:=Vx;refine aki ?_;intro hB4 N_ Ta hc4 Ps S4 K_;clear SW hB4 YY l3 T5 hc3;rw[<- t_]at hlt;clear t_;refine ?lf
   case' rv=>
    have hlt:=(Z5.1 K_).1;refine Vg ?_;intro hHeld;clear Z_ Y_
    try refine UE ?_
    obtain⟨V3,hV0⟩:∃V,V=V2.alloc (.cells #[.bool false,VI 0] 33):=Vx;obtain⟨z10,t_⟩:∃z,z=V2.heap.size:=Vx;refine aaQ ?_;intro j_ N_ Ta;refine eF ?_;intro hc3 T5 YY l3;have K_:=(j_.block z11 (Z5.1 K_).1).trans K_;clear hV0 j_ XS l2 SF hc2;rw[<- t_]at hlt;clear t_;refine dU ?_;intro Y_ Z_ V4 Ps hcc S4
    try go_wp2_with fail
    refine Z_.go λhHeld=>?_;clear Z_ Y_;refine zV ?_;intro hc4 N_ K_;clear hcc YY l3 T5 hc3;refine ?lf
  case' mE=>
   have hlt:=(Z5.1 K_).1;refine Vg ?_;intro hHeld;clear Z_ Y_
   try refine UE ?_
   obtain⟨V2,hV2⟩:∃V,V=V1.alloc (.cells #[.bool false,VI 0] 33):=Vx;obtain⟨z10,t_⟩:∃z,z=V1.heap.size:=Vx;refine agO ?_;intro hB2 N_ Ta;refine gY ?_;intro hc2 SF XS l2;have K_:=(hB2.block z11 (Z5.1 K_).1).trans K_;clear hV2 hB2 Lt l1 LL hc1;rw[<- t_]at hlt;clear t_;refine Ul 4 λY_ Z_=>?_;refine dL ?_;intro V3 T5 hcc YY
   try go_wp2_with fail
   refine Z_.go λhHeld=>?_;clear Z_ Y_;refine fP ?_;intro hc3 l3;refine akY ?_;intro N_ K_;clear hcc XS l2 SF hc2;refine dU ?_;intro Y_ Z_ V4 Ps hcc S4
   try go_wp2_with fail
   refine Z_.go λhHeld=>?_;clear Z_ Y_;refine zV ?_;intro hc4 N_ K_;clear hcc YY l3 T5 hc3;refine ?lf
 all_goals
  have u0:V4.cell? (VJ z10 0)=some (.bool false):=by simp only[World.cell?,N_];rfl
  have u1:V4.cell? (VJ z10 1)=some (VI 0):=by simp only[World.cell?,N_];rfl
  have uf:∀o,V4.frozen? (VJ z10 o)=false:=λo=>UL.free ⟨_,_,N_⟩ o;have v0:V4.cell? (VJ z11 0)=some (.bool false):=by simp only[World.cell?,K_];rfl
  have v1:V4.cell? (VJ z11 1)=some (VI 0):=by simp only[World.cell?,K_];rfl
  have vf:∀o,V4.frozen? (VJ z11 o)=false:=λo=>UL.free ⟨_,_,K_⟩ o;have q0:¬z10=z11:=λe=>VH;have q1:¬z11=z10:=λe=>q0 e.symm;have q2:¬z10=rb:=VH;have q2:¬z11=rb:=VH;have q2:¬fb=z10:=VH;have q7:¬fb=z11:=VH;refine jf ?_;intro hHeld;refine Ul 13 λY_ Z_=>?_;refine Vg ?_;intro hHeld;clear Z_ Y_;refine Um ?_;obtain⟨W5,hW1⟩:∃W5,W5=(((V4.setCell (VJ z10 0) (.bool b.obj)).setCell (VJ z10 1) (VI b.n)).setCell (VJ z11 0) (.bool a.obj)).setCell (VJ z11 1) (VI a.n):=Vx;rw[<- hW1];have De:W5.heap[z10]?=some (.cells #[.bool b.obj,VI b.n] 33):=by rw[hW1,ZW _ _ _ _ q0,ZW _ _ _ _ q0];exact set2 N_
  have DQ:W5.heap[z11]?=some (.cells #[.bool a.obj,VI a.n] 33):=by rw[hW1];exact set2 ((ZW _ _ _ _ q1).trans ((ZW _ _ _ _ q1).trans K_))
  have hc0:Vt W1 W5 (λk=>k=fb):=by rw[hW1];exact(((hc4.setCell _ _ fV).setCell _ _ fV).setCell _ _ fV).setCell _ _ fV
  have vE:Un W5 fb (some (VJ mk 0)) (some (VJ (K.cb f.home) 0)) f.self f.args f.pc r (bs.head?.map (·.1)):=by rw[hW1];exact Ps.same ((ZW _ _ _ _ q7).trans ((ZW _ _ _ _ q7).trans ((ZW _ _ _ _ q2).trans (ZW _ _ _ _ q2))))
  clear hW1 u0 u1 uf v0 v1 vf N_ K_ S4 Ps hc4;have u0:W5.cell? (VJ z10 0)=some (.bool b.obj):=by simp only[World.cell?,De];rfl
  have u1:W5.cell? (VJ z10 1)=some (VI b.n):=by simp only[World.cell?,De];rfl
  have v0:W5.cell? (VJ z11 0)=some (.bool a.obj):=by simp only[World.cell?,DQ];rfl
  have v1:W5.cell? (VJ z11 1)=some (VI a.n):=by simp only[World.cell?,DQ];rfl
  have Fc:=(Z5.1 De).1;have CF:=(Z5.1 DQ).1;have ye:=(Z9 (a:=(VJ rb 24)) (hc0.block _ l1 HB.o.n1)).trans HB.o.ct;have l1:=ZY l1 hc0.size;have t5:Hid _:=vE;have vm:Hid _:=hc0;clear De DQ vE hc0;go_wp2_with fail;refine Uy ?_;refine ZT (S:=(λw'=>w'.cell? (VJ rb 24)=some (VG fb)/\w'.cell? (VJ z10 0)=some (.bool b.obj)/\w'.cell? (VJ z10 1)=some (VI b.n)/\w'.cell? (VJ z11 0)=some (.bool a.obj)/\w'.cell? (VJ z11 1)=some (VI a.n))) VE UG (λhHeld=>?_);refine IC ?_;refine Ul 6 λY_ Z_=>?_;go_simp;have hif:=afO a b (λq=>(Result.ok (Next.value (Value.bool q)) W5.drew:Result Next));rw[hif,Oper.upon_value];refine Z_.go λhHeld=>?_;clear Z_ Y_
  try refine UE ?_
  have htr:=zh (decide (a=b)) W5.drew;refine Ul 7 λY_ Z_=>?_;go_simp;refine htr.mono ?_;rintro e w6 ⟨rfl,Pw⟩;have T0:=RH Pw;have ye:=(T0.cell (p:=(VJ rb 24)) l1).trans ye;have u0:=(T0.cell (p:=(VJ z10 0)) Fc).trans u0;have u1:=(T0.cell (p:=(VJ z10 1)) Fc).trans u1;have v0:=(T0.cell (p:=(VJ z11 0)) CF).trans v0;have v1:=(T0.cell (p:=(VJ z11 1)) CF).trans v1
  try go_wp2_with fail
  refine Z_.go λhHeld=>?_;clear Z_ Y_
  try refine UE ?_
  have v7:=t5.o.same (T0.block fb t5.o.Vb.lt);have p_:=RX v7 VH (vG (decide (a=b)));have sP:=T0.size;have vm:Hid _:=vm.o.then (Vt.of_below T0 (λ_=>False)) Js;clear htr Pw v7 hif;refine Ul 8 λY_ Z_=>?_;refine CV ?_;rintro e w6 ⟨rfl,v7,hc0⟩;have ye:=(Z9 (a:=(VJ rb 24)) (hc0.block _ (ZY l1 sP) HB.o.n1)).trans ye;have u0:=(Z9 (a:=(VJ z10 0)) (hc0.block _ (ZY Fc sP) (λe=>q2 e.symm))).trans u0;have u0:=(Z9 (a:=(VJ z10 1)) (hc0.block _ (ZY Fc sP) (λe=>q2 e.symm))).trans u1;have v0:=(Z9 (a:=(VJ z11 0)) (hc0.block _ (ZY CF sP) (λe=>q7 e.symm))).trans v0;have v0:=(Z9 (a:=(VJ z11 1)) (hc0.block _ (ZY CF sP) (λe=>q7 e.symm))).trans v1
  try go_wp2_with fail
  refine Z_.go λhHeld=>?_;clear Z_ Y_;refine Um ?_
  go_end0
  exact⟨rfl,K,_,HB.o.sg.top (f':={f with st:=vG (decide (a=b))::r}) h0 (vm.o.then hc0 Qi) v7 rfl rfl⟩
end Go.Proofs.Rz
namespace Go.Proofs.Rz
open ChangeShapes WideShapes ChangeAt RowKit Kn Iz Tryz
variable {w w0 : World}
variable {m m0 : Im}
variable {K K0 : Kd}
variable {Dd : Nat -> Prop}
variable {bs : List (Nat × Nat)}
variable {fs : List Fr}
def Gp {rb:Nat}{fuel:Nat}(h:Sg Dd w0 m0 K0 rb w m K fuel bs fs)(h0:Qv w0){p:Nat}{s:ByteArray}(hp:(p,s)∈K.k.L)(C_:Option Nat)(Wr:∀x,C_=some x->x<m.kl.length)(hs:s.size<=1000)
 (to:Vl) {av:Value}{args:List Vl}{ab:Nat} (W8:UH w av args ab) (hab:args≠[]->ab<w.heap.size/\ab≠rb/\¬U2 m K ab) (h3:args.length<=3) (C':fs.length<=32):
 Calls prog 89 #[VG rb,VG p,.agg #[.pointer (Vq (C_.map K.cb)),.string s],to.val,av] w (aa1 Dd w0 m0 K0 rb (m.send fuel C_ to s args fs) w m K):=by
 cases n_:K.says m s C_ with
 | none=>exact bI h h0 hp C_ Wr hs to W8 hab h3 C' n_
 | some x=>exact kK h h0 hp C_ Wr hs to W8 hab h3 C' n_
def uo (fb a k:Nat)(h:a+k<=16)(w:World):∃ap,(Instr.sliceAt 210 (.pointer (some (VJ fb 11))) (some (VI (a:Nat))) (some (VI ((a:Int)+(k:Int)))) none).run prog w=.ok (.slice ap k (16-a)) w/\(1<=k->ap=some (VJ fb (11+a*2))):=by
 obtain⟨i0,hi,_,hs,_⟩:=YQ Ho;have h1:¬((a:Int)+(k:Int)<0):=VH;have h2:¬((16:Int)<(a:Int)+(k:Int)):=VH;have h3:¬((a:Int)+(k:Int)<(a:Int)):=VH;have h4:((a:Int)+(k:Int)).toNat=a+k:=VH;simp[Instr.sliceAt,Instr.sureAddr,Instr.sliceBounds,Instr.sliceBound,Zu underlying210,Go.sizeOf,typeInfo,hi,hs,h1,h2,h3,h4,Addr.add,asIntOf];rw[ZU mF];refine⟨_,rfl,λhk=>?_⟩;rw[ZX VH];by_cases e:a*2=0
 . rw[ZU e,e]
 . rw[ZX e]
def afl (st:List Vl)(k:Nat)(hk:k<=st.length){fb:Nat}(hc:∀i v,st.reverse[i]?=some v->w.cell? (VJ fb (11+i*2))=some (.bool v.obj)/\w.cell? (VJ fb (11+i*2+1))=some (VI v.n)):
 ∀j u,(vcs (st.take k).reverse)[j]?=some u->w.cell? ((VJ fb (11+(st.length-k)*2)).add j)=some u:=λj u hu=>by
 have hadd:(VJ fb (11+(st.length-k)*2)).add j=(VJ fb (11+(st.length-k)*2+j)):=qP;rw[hadd];have hl:=(Z7.1 hu).1;rw[Kr,X9,Za,XT hk]at hl;have hi:j / 2<k:=VH
 obtain⟨v,hv⟩:∃v,(st.take k).reverse[j / 2]?=some v:=⟨_,Z8 Vo⟩
 have hv':st.reverse[st.length-k+j / 2]?=some v:=by
  rw[<- hv,List.reverse_take,Zn]
 obtain⟨e1,e2⟩:=hc _ v hv';obtain⟨g1,g2⟩:=PV _ _ v hv;rcases WE j with h2|h2
 . have ej:j=j / 2*2:=by omega
   rw[ej,g1]at hu;rw[<- hu,show 11+(st.length-k)*2+j=11+(st.length-k+j / 2)*2 from VH];exact e1
 . have ej:j=j / 2*2+1:=by omega
   rw[ej,g2]at hu;rw[<- hu,show 11+(st.length-k)*2+j=11+(st.length-k+j / 2)*2+1 from VH];exact e2
structure Qs (w:World)(av:Value)(st:List Vl)(k fb:Nat):Prop where
 val:∃ap,av=.slice ap k (16-(st.length-k))/\(1<=k->ap=some (VJ fb (11+(st.length-k)*2)))
 cell:∀j u,(vcs (st.take k).reverse)[j]?=some u->w.cell? (VJ fb (11+(st.length-k)*2+j))=some u
def Qs.args {av:Value}{st:List Vl}{k fb:Nat}(h:Qs w av st k fb)(hk:k<=st.length):UH w av (st.take k).reverse fb:=by
 obtain⟨ap,e1,e2⟩:=h.val;have hlen:(st.take k).reverse.length=k:=Vo;refine⟨ap,_,by rw[hlen];exact e1,λhne=>⟨_,e2 ?_,rfl,λj u hu=>?_⟩⟩
 . cases k with
   | zero=>simp at hne
   | succ n=>omega
 . rw[XJ];exact h.cell j u hu
variable {w' : World}
def Qs.keep {av:Value}{st:List Vl}{k fb:Nat}(h:Qs w av st k fb)(hk:k<=st.length)(h_:st.length<=16)(e:∀o,o≠43->w'.cell? (VJ fb o)=w.cell? (VJ fb o)):Qs w' av st k fb:=
 ⟨h.val,λj u hu=>(e _ (by
  have hl:=(Z7.1 hu).1;rw[Kr,X9,Za,XT hk]at hl
  omega)).trans (h.cell j u hu)⟩
def Ht {fb:Nat}{mp kp:Option Addr}{sf:Vl}{args:List Vl}{pc:Nat}{st:List Vl}{snd:Option Nat}(h:Un w fb mp kp sf args pc st snd){k:Nat}(hk:k<=st.length):
 Calls prog 148 #[VG fb,VI (k:Nat)] w λe w'=>(∃av,e=.returned av/\Qs w' av st k fb)/\Un w' fb mp kp sf args pc (st.drop k) snd/\Vt w w' (λk=>k=fb):=by
 have h_:=h.s16;have ch:=h.ch;have fz:=λo=>h.Vb.free o
 obtain⟨a,ha⟩:∃a,st.length=a+k:=⟨st.length-k,VH⟩
 have I0:st.length-k=a:=VH;have hfr:=h.take hk;rw[I0]at hfr;obtain⟨ap,hsl,hap⟩:=uo fb a k VH ((w.setCell (VJ fb 43) (VI (a:Nat))).drew);rw[ha]at ch;simp only[XK]at ch;have cz:(a:Int)<=16:=VH;have HF:Hid _:=hfr
 have HA:Hid (∀j u,(vcs (st.take k).reverse)[j]?=some u->(w.setCell (VJ fb 43) (VI (a:Nat))).cell? ((VJ fb (11+a*2)).add j)=some u):=by
  have hx:=afl st k hk (w:=w.setCell (VJ fb 43) (VI (a:Nat))) (fb:=fb) (λi v hv=>by
   have hi:=(Z7.1 hv).1;simp at hi
   exact⟨(fo _ _ _ _ VH).trans (h.cs i v hv).1,(fo _ _ _ _ VH).trans (h.cs i v hv).2⟩)
  rw[I0]at hx;exact hx
 have HP:Hid _:=hap;clear h hfr hap I0;go_enter func148,ntmps148;go_wp2_with fail;obtain⟨W2,hW2⟩:∃W2,W2=w.setCell (VJ fb 43) (VI (a:Nat)):=Vx;rw[<- hW2]at hsl HF HA ⊢
 have HC:Hid (Vt w W2 (λk=>k=fb)):=by
  have hx:Vt w W2 (λk=>k=fb):=by rw[hW2];exact(Vt.refl w (λk=>k=fb)).setCell _ _ (λ_=>rfl)
  exact hx
 have ch2:W2.cell? (VJ fb 43)=some (VI (a:Nat)):=by rw[hW2];exact Vr ch
 have hwr:IntKind.i64.wrap ((a:Int)+(k:Int))=(a:Int)+(k:Int):=Ar;clear hW2 ch fz;refine Uy ?_;refine ZT (S:=(λw'=>w'.cell? (VJ fb 43)=some (VI (a:Nat)))) VE UG (λhHeld=>?_);refine KG ?_;refine uZ ?_;refine Ul 13 λY_ Z_=>?_;refine Vg ?_;intro hHeld;clear Z_ Y_
 try refine UE ?_
 refine Ur 14 ?_;refine Nr ?_;clear hsl;go_wp2
 go_ret
 have I0:st.length-k=a:=VH;refine⟨⟨_,rfl,⟨ap,by rw[I0];rfl,by rw[I0];exact HP.o⟩,λj u hu=>?_⟩,HF.o.same rfl,HC.o.drew⟩;have:=HA.o j u hu;rw[XJ]at this;rw[I0];exact this
def of_lt (h:U3 m){v:Vl}(hv:TF m v):∀c,m.of v=some c->c<m.kl.length:=λc e=>by
 unfold Im.of at e;by_cases ho:v.obj=true
 . rw[ZU ho]at e;obtain⟨o,e1,e2⟩:=Yl.1 e;subst e2;exact(h.obj o (ZK e1)).1
 . rw[ZX ho]at e;injection e with e;subst e;have:=h.two;omega
def yu (m:Im)(fuel:Nat)(C_:Option Nat)(to:Vl)(sel:ByteArray)(args:List Vl)(fs:List Fr)(m':Im)(v:Vl):m.send fuel C_ to sel args fs≠.told m' v:=by
 unfold Im.send
 repeat' split
 all_goals (intro e;cases e)
variable {m' : Im}
variable {K' : Kd}
def ahe {rb:Nat}{fuel fuel':Nat}{bs bs':List (Nat×Nat)}{fs Sf:List Fr}(h:Sg Dd w0 m0 K0 rb w m K fuel bs fs)(h':Sg Dd w0 m0 K0 rb w' m' K' fuel' bs' Sf):w'.cell? (VJ rb 0)=some (VG K.b):=by
 have:=h'.run.c0;rw[h'.Qj.b,<- h.Qj.b]at this;exact this
variable {f : Fr}
def ae8 {rb:Nat}{fuel fb mk:Nat}(h:Sg Dd w0 m0 K0 rb w m K fuel ((fb,mk)::bs) (f::fs))(h0:Qv w0)(x:Kn.W)(hk:x.k=115){n p:Nat}(hn:x.n=n)(Te:n<=3){to:Vl}{r:List Vl}(hst:f.st.drop n=to::r)(X_:TF m to)(hp:(p,VF x.sel)∈K.k.L)(hs:(VF x.sel).size<=1000)(C':fs.length+1<=32):
 Calls prog 128 #[VG rb,Uo x (some (VJ p 0))] w (TV Dd w0 m0 K0 rb (VA m fuel x f fs)):=by
 have hw:VA m fuel x f fs=m.send fuel (m.of to) to (VF x.sel) (f.st.take n).reverse ({f with st:=r}::fs):=by unfold VA;simp[hk,hn,hst]
 rw[hw]
 have hnl:n<=f.st.length:=by
  have:=YV List.length hst;simp at this;omega
 have Kp:(f.st.take n).reverse.length<=3:=Vo;obtain⟨W1,hW1⟩:∃W1,W1=w.alloc (.cells (TQ x (some (VJ p 0))) 146):=Vx;have B:=h.box x (some (VJ p 0)) hW1;have ct:=B.ct;have x1:=B.x1;have x3:=B.x3;have x5:=B.x5;rw[hn]at x1;have l1:=B.l1;have l2:=B.l2;have l2:=B.l3;have Mr:=Ht (w:=W1.drew) yG hnl;have HB:Hid _:=B
 have HH:Hid (f.st.drop n=to::r/\TF m to/\(p,VF x.sel)∈K.k.L):=⟨hst,X_,hp⟩
 refine yK ?_;intro Wg;unfold TQ at hW1;unfold Uo TQ;clear B h hw hk hn hst X_ hp;go_enter func128,ntmps128;go_wp2_with fail;rw[<- hW1];clear hW1;refine Uy ?_;refine ahI ?_;intro hHeld;refine IC ?_;refine Ul 6 λY_ Z_=>?_;go_simp;refine Mr.mono ?_;rintro e w2 ⟨⟨av,rfl,hsa⟩,hf2,hc2⟩;have XS:=(Z9 (a:=(VJ rb 24)) iY).trans ct;have x12:=(Z9 (a:=(VJ w.heap.size 1)) (hc2.block _ l2 HB.o.n2)).trans x1
 try go_wp2_with fail
 refine Z_.go λhHeld=>?_;clear Z_ Y_
 try refine UE ?_
 refine Ur 7 ?_;refine Nr ?_;have Av:=hf2;rw[HH.o.1]at Av;have htk:=qU Av;unfold Vl.val at htk
 have MD:Hid (Vt W1 w2 (λk=>k=fb)/\Qs w2 av f.st n fb):=⟨(Vt.refl W1 _).drew.then hc2 Qi,hsa⟩
 clear Mr hsa hf2 Av hc2;go_wp2_with fail;refine htk.mono ?_;rintro e w2 ⟨rfl,hf2,hc2,hce⟩
 have B7:Hid (Vt W1 w2 (λk=>k=fb)/\Qs w2 av f.st n fb):=by
  have hx:Vt W1 w2 (λk=>k=fb)/\Qs w2 av f.st n fb:=⟨MD.o.1.then hc2 Qi,MD.o.2.keep hnl HB.o.sg.LY.1.raw.s16 hce⟩
  exact hx
 have za:Hid _:=hf2;clear htk hf2 hce hc2;go_wp2_with fail;obtain⟨W4,hW1⟩:∃W4,W4=w2.alloc (.cells #[.bool to.obj,VI to.n] 33):=Vx;rw[<- hW1];have hb4:Below w2.heap.size w2 W4:=fQ;have So:W4.heap[w2.heap.size]?=some (.cells #[.bool to.obj,VI to.n] 33):=abf;have h3:=HB.o.sg.top (f':={f with st:=r}) h0 B7.o.1 za.o rfl rfl;have h4:=h3.below hb4;have hs3:=B7.o.1.size;have Bi:∀o,W4.cell? (VJ w.heap.size o)=W1.cell? (VJ w.heap.size o):=λo=>(hb4.cell (p:=(VJ w.heap.size o)) ahZ).trans (Z9 (a:=(VJ w.heap.size o)) (B7.o.1.block _ l2 HB.o.n2));have y3:=(Bi 3).trans x3;have y5:=(Bi 5).trans x5;have y0:=h4.run.c0;have v0:W4.cell? (VJ w2.heap.size 0)=some (.bool to.obj):=by simp only[World.cell?,So];rfl
 have v1:W4.cell? (VJ w2.heap.size 1)=some (VI to.n):=by simp only[World.cell?,So];rfl
 have Bu:=E5 (h4.Qj.Ub.drew) to HH.o.2.1;unfold Vl.val at Bu;have l1:=h4.run.Vb.lt;have l2:w.heap.size<W4.heap.size:=by have:=hb4.size;omega
 have ew:=(Z5.1 So).1
 have H4:Hid (Sg Dd w0 m0 K0 rb W4 m K fuel ((fb,mk)::bs) ({f with st:=r}::fs)/\Qs W4 av f.st n fb):=by
  have hx:Sg Dd w0 m0 K0 rb W4 m K fuel ((fb,mk)::bs) ({f with st:=r}::fs)/\Qs W4 av f.st n fb:=⟨h4,B7.o.2.keep hnl HB.o.sg.LY.1.raw.s16 (λo _=>hb4.cell (p:=(VJ fb o)) (by show fb<w2.heap.size;omega))⟩
  exact hx
 clear hW1 h3 h4 Bi So hb4 ct x1 x3 x5 XS x12;refine ZT (S:=(λw'=>w'.cell? (VJ rb 0)=some (VG K.b)/\w'.cell? (VJ w.heap.size 3)=some (.string (VF x.sel))/\w'.cell? (VJ w.heap.size 5)=some (VG p)/\w'.cell? (VJ w2.heap.size 0)=some (.bool to.obj)/\w'.cell? (VJ w2.heap.size 1)=some (VI to.n))) VE UG (λhHeld=>?_);refine zr1 ?_;refine Uh 7 ?_;refine dX ?_;refine Uh 12 ?_;refine Ur 13 ?_;refine Ul 8 λY_ Z_=>?_;go_simp;refine Bu.mono ?_;rintro e w5 ⟨rfl,hb4⟩;have Nn:=RH hb4;have y0:=(Nn.cell (p:=(VJ rb 0)) l1).trans y0;have y3:=(Nn.cell (p:=(VJ w.heap.size 3)) l2).trans y3;have y5:=(Nn.cell (p:=(VJ w.heap.size 5)) l2).trans y5;have v0:=(Nn.cell (p:=(VJ w2.heap.size 0)) ew).trans v0;have v1:=(Nn.cell (p:=(VJ w2.heap.size 1)) ew).trans v1
 try go_wp2_with fail
 refine Z_.go λhHeld=>?_;clear Z_ Y_
 try refine UE ?_
 have h3:=H4.o.1.below Nn;have eW:=(H4.o.2.keep hnl HB.o.sg.LY.1.raw.s16 (λo _=>Nn.cell (p:=(VJ fb o)) ((H4.o.1.lo fb Vy).2.1))).args hnl;have hlo:=h3.lo fb Vy;have w_:=Gp h3 h0 HH.o.2.2 (m.of to) (of_lt h3.ok HH.o.2.1) hs to eW (λ_=>⟨hlo.2.1,λe=>HB.o.n1 e.symm,hlo.2.2⟩) Kp C';unfold Vl.val at w_;have hs3:=Nn.size;clear Bu hb4 h3 eW;refine Ur 11 ?_;refine Ul 14 λY_ Z_=>?_;refine FT ?_;rintro e w5 ⟨T9,Z2⟩;have hq1:rb≠w.heap.size:=λe=>HB.o.n3 e.symm
 cases hg:m.send fuel (m.of to) to (VF x.sel) (f.st.take n).reverse ({f with st:=r}::fs) with
 | told m' v=>exact absurd hg (yu _ _ _ _ _ _ _ _ _)
 | stop m' n'=>
  rw[hg]at T9;obtain⟨rfl,K',hst⟩:=T9;exact⟨rfl,rfl,K',hst⟩
 | on m' fuel' Sf=>
  rw[hg]at T9;obtain⟨rfl,K',bs',h3⟩:=T9;have Z2:=Z2 rfl;have hxb:=Z2 w.heap.size VH aaY (λe=>hq1 e.symm);have hvb:=Z2 w2.heap.size VH aaY (λe=>VH);have y0:=ahe H4.o.1 h3;refine aiU ?_;intro _ y3;have v0:=(Z9 (a:=(VJ w2.heap.size 0)) hvb).trans v0;have v0:=(Z9 (a:=(VJ w2.heap.size 1)) hvb).trans v1;have H4:Hid _:=h3;clear h3 Z2 w_;refine Z_.go λhHeld=>?_;clear Z_ Y_;refine DT ?_
  go_end0
  rw[hg];exact⟨rfl,K',bs',H4.o⟩
def aa4 {rb:Nat}{fuel fb mk:Nat}(h:Sg Dd w0 m0 K0 rb w m K fuel ((fb,mk)::bs) (f::fs))(h0:Qv w0)(x:Kn.W)(hk:x.k=94){n p:Nat}(hn:x.n=n)(Te:n<=3)(hnl:n<=f.st.length)(hp:(p,VF x.sel)∈K.k.L)(hs:(VF x.sel).size<=1000)(C':fs.length+1<=32):
 Calls prog 129 #[VG rb,Uo x (some (VJ p 0))] w (TV Dd w0 m0 K0 rb (VA m fuel x f fs)):=by
 have hw:VA m fuel x f fs=m.send fuel (m.ab f.home) f.self (VF x.sel) (f.st.take n).reverse ({f with st:=f.st.drop n}::fs):=by unfold VA Im.ab;simp[hk,hn]
 rw[hw];have Kp:(f.st.take n).reverse.length<=3:=Vo;obtain⟨W1,hW1⟩:∃W1,W1=w.alloc (.cells (TQ x (some (VJ p 0))) 146):=Vx;have B:=h.box x (some (VJ p 0)) hW1;have ct:=B.ct;have x1:=B.x1;have x3:=B.x3;have x5:=B.x5;rw[hn]at x1;have l1:=B.l1;have l3:=B.l3;have Mr:=Ht (w:=W1.drew) yG hnl;have HB:Hid _:=B
 have HH:Hid ((p,VF x.sel)∈K.k.L/\f.home<m.kl.length):=⟨hp,h.homes f Po⟩
 refine yK ?_;intro Wg;unfold TQ at hW1;unfold Uo TQ;clear B h hw hk hn hp;go_enter func129,ntmps129;go_wp2_with fail;rw[<- hW1];clear hW1;refine Uy ?_;refine ahI ?_;intro hHeld;refine IC ?_;refine Ul 6 λY_ Z_=>?_;go_simp;refine Mr.mono ?_;rintro e w2 ⟨⟨av,rfl,hsa⟩,hf2,hc2⟩;have XS:=(Z9 (a:=(VJ rb 24)) iY).trans ct;have x12:=(Z9 (a:=(VJ w.heap.size 1)) (hc2.block _ l3 HB.o.n2)).trans x1
 try go_wp2_with fail
 refine Z_.go λhHeld=>?_;clear Z_ Y_
 try refine UE ?_
 refine Ur 7 ?_;refine Nr ?_;have Hj:=(Vt.refl W1 _).drew.then hc2 Qi;have h2:=HB.o.sg.top (f':={f with st:=f.st.drop n}) h0 Hj hf2 rfl rfl;have s1:=hf2.c1;have s2:=hf2.c2;have s3:=hf2.c3;have hab:=h2.Qj.Ub.cls.above HH.o.2;have l1:=hf2.Vb.lt;have l32:=ZY l3 Hj.size;have y3:=(Z9 (a:=(VJ w.heap.size 3)) (Hj.block _ l3 HB.o.n2)).trans x3;have y5:=(Z9 (a:=(VJ w.heap.size 5)) (Hj.block _ l3 HB.o.n2)).trans x5;have H2:Hid _:=h2;have ha2:=hsa.args hnl;have hlo:=h2.lo fb Vy;have w_:=Gp (h2.below (ZR _ _).drew) h0 HH.o.1 (m.ab f.home) (λc e=>CS h2.ok e) hs f.self (ha2.same (w':=w2.drew) (λ_=>rfl)) (λ_=>⟨hlo.2.1,λe=>HB.o.n1 e.symm,hlo.2.2⟩) Kp C';unfold Vl.val at w_;clear Mr hsa ha2 h2 hf2 hc2 Hj ct x1 x3 x5 x12 hlo;go_wp2_with fail;refine ZT (S:=(λw'=>w'.cell? (VJ w.heap.size 3)=some (.string (VF x.sel))/\w'.cell? (VJ w.heap.size 5)=some (VG p)/\w'.cell? (VJ fb 1)=some ((VG (K.cb f.home)))/\w'.cell? (VJ fb 2)=some (.bool f.self.obj)/\w'.cell? (VJ fb 3)=some (VI f.self.n))) VE UG (λhHeld=>?_);refine zr3 ?_;refine Uh 13 ?_;refine Uh 14 ?_;refine Uh 16 ?_;refine Uh 17 ?_;refine Uh 18 ?_;refine Ur 23 ?_;refine Zv (rs:=[6,19]) VE Vy ?_;refine(ZO (o:=_) rfl (λY_ Z_=>?_) (ZO (o:=_) rfl (λY_ Z_=>?_) ZA))
 case' refine_2=>
  refine Vg ?_;intro hHeld;clear Z_ Y_
  try refine UE ?_
  refine Uh 20 ?_;refine Uh 21 ?_;refine Ur 22 ?_;refine Bf ?_;intro hHeld;refine aku ?_;refine Ur 11 ?_;refine jf ?_;intro hHeld;refine Ur 15 ?_
 case' refine_1=>
  refine Vg ?_;intro hHeld;clear Z_ Y_
  try refine UE ?_
  refine aku ?_;refine Ur 11 ?_;refine Zv (rs:=[12,19]) VE Vy ?_;refine(ZO (o:=_) rfl (λY_ Z_=>?_) (ZO (o:=_) rfl (λY_ Z_=>?_) ZA))
  case' refine_1=>
   refine Vg ?_;intro hHeld;clear Z_ Y_
   try refine UE ?_
   refine Ur 15 ?_;refine Ul 19 λY_ Z_=>?_;refine Vg ?_;intro hHeld;clear Z_ Y_
   try refine UE ?_
   refine Uh 20 ?_;refine Uh 21 ?_;refine Ur 22 ?_
  case' refine_2=>
   refine Vg ?_;intro hHeld;clear Z_ Y_
   try refine UE ?_
   refine Uh 20 ?_;refine Uh 21 ?_;refine Ur 22 ?_;refine jf ?_;intro hHeld;refine Ur 15 ?_
 all_goals
  refine Ul 24 λY_ Z_=>?_;refine FT ?_;rintro e w2 ⟨T9,Z2⟩;have hq1:rb≠w.heap.size:=λe=>HB.o.n3 e.symm
  cases hg:m.send fuel (m.ab f.home) f.self (VF x.sel) (f.st.take n).reverse ({f with st:=f.st.drop n}::fs) with
  | told m' v=>exact absurd hg (yu _ _ _ _ _ _ _ _ _)
  | stop m' n'=>
   rw[hg]at T9;obtain⟨rfl,K',hst⟩:=T9;exact⟨rfl,rfl,K',hst⟩
  | on m' fuel' Sf=>
   rw[hg]at T9;obtain⟨rfl,K',bs',h2⟩:=T9;have Z2:=Z2 rfl;have hxb:=Z2 w.heap.size l32 aaY (λe=>hq1 e.symm);have hfb:=Z2 fb l1 ((H2.o.lo fb Vy).2.2) (λe=>HB.o.n1 e.symm);refine aiU ?_;intro _ y3;have s1:=(Z9 (a:=(VJ fb 1)) hfb).trans s1;have s1:=(Z9 (a:=(VJ fb 2)) hfb).trans s2;have s1:=(Z9 (a:=(VJ fb 3)) hfb).trans s3;have H2:Hid _:=h2;clear h2 Z2 w_;refine Z_.go λhHeld=>?_;clear Z_ Y_;refine DT ?_
   go_end0
   rw[hg];exact⟨rfl,K',bs',H2.o⟩
def ak5 {rb:Nat}{fuel fb mk:Nat}(h:Sg Dd w0 m0 K0 rb w m K fuel ((fb,mk)::bs) ({f with pc:=f.pc+1}::fs)) (h0:Qv w0) (x:Kn.W×Nat) (pl:Option Addr)
 (hf:Rk m 0 f) (I':∀g∈fs,Rk m 1 g) (C':fs.length+1<=32) (hx:f.ws[f.pc]?=some x) (hpl:UO x.1=true->∃p,pl=some (VJ p 0)/\(p,VF x.1.sel)∈K.k.L):
 Calls prog (doF (kindOf x.1.k)) #[VG rb,Uo x.1 pl] w (TV Dd w0 m0 K0 rb (VA m fuel x.1 {f with pc:=f.pc+1} fs)):=by
 have hm:=h.ok;have ZZ:=hf.good.fine f.pc x hx;have N2:=hf.good.shp f.pc x hx;have hst:=xg hf hx;have hro:=rC hf hx;have hag:=y7 hf hx;have hsl:=BU hm hf hx;have o_:=ZZ.kind
 have hroom:∀g gs,fs=g::gs->g.st.length<16:=λg gs e=>by
  have:=Nq (I' g (by rw[e];simp)).at_;omega
 obtain⟨⟨k,n,sl,xa,xb⟩,xi⟩:=x;simp only at o_ hst hro hag hsl hpl ZZ N2 ⊢;simp only[kinds,ZM,Zx,YE]at o_;rcases o_ with rfl|rfl|rfl|rfl|rfl|rfl|rfl|rfl|rfl|rfl|rfl|rfl|rfl|rfl|rfl|rfl|rfl|rfl|rfl|rfl|rfl|rfl
 . exact eG h h0 _ pl rfl zH
 . exact agE h h0 _ pl rfl zH
 . have h1:=hag rfl;have h1:=N2.low NP;simp only at h1;obtain⟨i,hi⟩:∃i:Nat,n=i:=Dv;have h3:=hf.few
   obtain⟨v,hv⟩:∃v,f.args[i]?=some v:=⟨_,Z8 VH⟩
   exact alG h h0 _ pl rfl zH i hi (by omega) v hv
 . obtain⟨i,j,o,e1,e2,e3,e4⟩:=hsl NP
   obtain⟨v,hv⟩:∃v,o.slots[j]?=some v:=⟨_,Z8 e4⟩
   exact agq h h0 _ pl rfl zH e1 e3 e2 hv
 . by_cases he:(m.make (VF xa)).2.1=0
   . exact dP h h0 _ pl rfl zH he
   . exact aaI h h0 _ pl rfl zH he
 . obtain⟨i,j,o,e1,e2,e3,e4⟩:=hsl JQ;obtain⟨v,r,hs⟩:=SV (l:=f.st) QW;have BW:=AX hm i j v (hf.st v zb6);exact acB h h0 _ pl rfl hs e1 e3 e2 e4 BW.1
 . obtain⟨v,r,hs⟩:=SV (l:=f.st) QW;exact ajZ h h0 _ pl rfl hs
 . obtain⟨⟨vo,vn⟩,r,hs⟩:=SV (l:=f.st) QW;have h1:=ZZ.goto JQ;simp only at h1;obtain⟨i,hi⟩:∃i:Nat,n=i:=Dv
   cases vo with
   | true=>exact aeC h h0 _ pl rfl hs
   | false=>
    by_cases hz:vn=0
    . subst hz;exact jU h h0 _ pl rfl i hi hs
    . exact mX h h0 _ pl rfl i hi hz hs
 . obtain⟨v,r,hs⟩:=SV (l:=f.st) QW;exact afg h h0 _ pl rfl hs VH hroom
 . obtain⟨⟨bo,bn⟩,⟨ao,an⟩,r,hs⟩:=PW (l:=f.st) QW;by_cases ho:(ao||bo)=true
   . exact aF h h0 _ pl rfl hs ho
   . simp at ho;obtain⟨rfl,rfl⟩:=ho;exact bK h h0 _ pl rfl hs
 . obtain⟨⟨bo,bn⟩,⟨ao,an⟩,r,hs⟩:=PW (l:=f.st) QW;by_cases ho:(ao||bo)=true
   . exact aU h h0 _ pl rfl hs ho
   . simp at ho;obtain⟨rfl,rfl⟩:=ho;exact aN h h0 _ pl rfl hs
 . obtain⟨⟨bo,bn⟩,⟨ao,an⟩,r,hs⟩:=PW (l:=f.st) QW;by_cases ho:(ao||bo)=true
   . exact aC h h0 _ pl rfl hs ho
   . simp at ho;obtain⟨rfl,rfl⟩:=ho;exact bD h h0 _ pl rfl hs
 . obtain⟨⟨bo,bn⟩,⟨ao,an⟩,r,hs⟩:=PW (l:=f.st) QW;by_cases ho:(ao||bo)=true
   . exact mD h h0 _ pl rfl hs ho
   . simp at ho;obtain⟨rfl,rfl⟩:=ho;exact oK h h0 _ pl rfl hs
 . obtain⟨b,a,r,hs⟩:=PW (l:=f.st) QW;exact afP h h0 _ pl rfl hs
 . obtain⟨v,r,hs⟩:=SV (l:=f.st) QW;exact ak3 h h0 _ pl rfl hs (by rw[hs]at hro;simp[U9]at hro;omega)
 . refine aef ?_;intro hn0 Te d_ hna;obtain⟨i,hi⟩:∃i:Nat,n=i:=Dv;obtain⟨p,rfl,hp⟩:=hpl rfl;have htk:(U9 115 n).1.toNat=i+1:=by simp[U9];omega
   rw[htk]at hst;obtain⟨to,r,hs⟩:=SV (l:=f.st.drop i) Vo;have hsz:=Kq (s:=VF sl) d_;exact ae8 h h0 _ rfl hi VH hs alJ hp (by show (VF sl).size<=1000;omega) C'
 . refine abX ?_;intro hn0 Te d_ hna;obtain⟨i,hi⟩:∃i:Nat,n=i:=Dv;obtain⟨p,rfl,hp⟩:=hpl rfl;have htk:(U9 94 n).1.toNat=i:=by simp[U9];omega
   rw[htk]at hst;have hsz:=Kq (s:=VF sl) d_;exact aa4 h h0 _ rfl hi VH hst hp (by show (VF sl).size<=1000;omega) C'
 . obtain⟨⟨vo,vn⟩,r,hs⟩:=SV (l:=f.st) QW
   cases vo with
   | false=>exact dJ h h0 _ pl rfl hs
   | true=>
    by_cases he:(m.be vn (VF xa)).1=0
    . exact adx h h0 _ pl rfl hs he
    . exact abC h h0 _ pl rfl hs he
 . have h1:=ZZ.goto NP;simp only at h1;obtain⟨i,hi⟩:∃i:Nat,n=i:=Dv;exact anX h h0 _ pl rfl i hi
 . exact ae2 h h0 _ pl rfl
 . exact afh h h0 _ pl rfl
 . exact af7 h h0 _ pl rfl
end Go.Proofs.Rz
