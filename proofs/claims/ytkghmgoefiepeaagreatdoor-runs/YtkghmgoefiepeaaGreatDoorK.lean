import Derived.WalkSmall
import Derived.Test.YtkghmgoefiepeaaGreatDoorJ
set_option linter.all false
set_option maxHeartbeats 4000000
set_option maxRecDepth 100000
namespace Go.Proofs.Rz
open ChangeShapes WideShapes ChangeAt RowKit Kn Tryz
variable {w : World}
variable {m : Im}
def aks {K:U0}(h:RK w m K)(s t:ByteArray)(n:Int)(hs:s.size<=maxLen):
 Calls prog 58 #[VG K.b,.string s,.string t,VI n] w λe w'=>e=.returned (VI (m.TR s t n).1)/\∃K',Vu w w' m K (m.TR s t n).2 K':=by
 have hok:=(H9 h.ok s t n).1;obtain⟨r,hdr⟩:∃r,m.TR s t n=r:=Vx;rw[hdr]at hok ⊢;unfold Im.TR at hdr;have HS:=UQ (Vu.refl h);have h1:=h.class s;have h2:=h.class t
 cases hcn:className (bl s) with
 | false=>
  rw[ZU (.inl hcn)]at hdr;subst hdr;have hcl:=QV s w hs;rw[hcn]at hcl;clear h h1 h2 hok;go_enter func58,ntmps58;go_wp2_with fail;refine hcl.mono ?_;rintro e w' ⟨rfl,rfl⟩;go_wp2
  go_ret
  exact Ou
 | true=>
  have hcl:=QV s w hs;rw[hcn]at hcl;by_cases hn:n<0
  . rw[ZU (.inr hn)]at hdr;subst hdr;clear h h1 h2 hok;go_enter func58,ntmps58;go_wp2_with fail;refine hcl.mono ?_;rintro e w' ⟨rfl,rfl⟩;go_wp2
    go_ret
    exact Ou
  . rw[ZX (by rw[hcn];simp;omega)]at hdr
    cases hc:m.cls s with
    | some c=>
     rw[hc]at hdr h1;simp only at hdr;subst hdr;simp only[Qh]at h1;clear h h2 hok;go_enter func58,ntmps58;go_wp2_with fail;refine hcl.mono ?_;rintro e w' ⟨rfl,rfl⟩;go_wp2_with fail;refine h1.mono ?_;rintro e w' ⟨rfl,rfl⟩;go_wp2
     go_ret
     exact Ou
    | none=>
     rw[hc]at hdr h1;simp only[Qh]at h1;simp only at hdr
     cases ha:m.cls t with
     | none=>
      rw[ha]at hdr h2;simp only[Qh]at h2;simp only at hdr;subst hdr;clear h hok;go_enter func58,ntmps58;go_wp2_with fail;refine hcl.mono ?_;rintro e w' ⟨rfl,rfl⟩;go_wp2_with fail;refine h1.mono ?_;rintro e w' ⟨rfl,rfl⟩;go_wp2_with fail;refine h2.mono ?_;rintro e w' ⟨rfl,rfl⟩;go_wp2
      go_ret
      exact Ou
     | some a=>
      rw[ha]at hdr h2;simp only[Qh]at h2;simp only at hdr;have hal:=Cm ha;have h3:=h.slots hal;have Mr:=JJ h.ok a;by_cases hbig:10<(m.tot a:Int)+n
      . rw[ZU hbig]at hdr;subst hdr;obtain⟨ta,Nf⟩:∃ta,ta=m.tot a:=Vx;rw[<- Nf]at h3 Mr hbig;clear h hok Nf;by_cases sX:10<n
        . go_enter func58,ntmps58;go_wp2_with fail;refine hcl.mono ?_;rintro e w' ⟨rfl,rfl⟩;go_wp2_with fail;refine h1.mono ?_;rintro e w' ⟨rfl,rfl⟩;go_wp2_with fail;refine h2.mono ?_;rintro e w' ⟨rfl,rfl⟩;go_wp2
          go_ret
          exact Ou
        . go_enter func58,ntmps58;go_wp2_with fail;refine hcl.mono ?_;rintro e w' ⟨rfl,rfl⟩;go_wp2_with fail;refine h1.mono ?_;rintro e w' ⟨rfl,rfl⟩;go_wp2_with fail;refine h2.mono ?_;rintro e w' ⟨rfl,rfl⟩;go_wp2_with fail;refine h3.mono ?_;rintro e w' ⟨rfl,rfl⟩;go_wp2
          go_ret
          exact Ou
      . rw[ZX hbig]at hdr;have hlen:=h.rel.len;obtain⟨q,cap,hv⟩:=Rn h.own;have c0:=h.c0;rw[hv]at c0;by_cases h12:12<=m.kl.length
        . rw[ZU h12]at hdr;subst hdr;have L4:(12:Int)<=(K.cl.length:Int):=VH;obtain⟨ta,Nf⟩:∃ta,ta=m.tot a:=Vx;rw[<- Nf]at h3 Mr hbig;clear h hok Nf hlen h12;go_enter func58,ntmps58;go_wp2_with fail;refine hcl.mono ?_;rintro e w' ⟨rfl,rfl⟩;go_wp2_with fail;refine h1.mono ?_;rintro e w' ⟨rfl,rfl⟩;go_wp2_with fail;refine h2.mono ?_;rintro e w' ⟨rfl,rfl⟩;go_wp2_with fail;refine h3.mono ?_;rintro e w' ⟨rfl,rfl⟩;go_wp2
          go_ret
          exact Ou
        . rw[ZX h12]at hdr;subst hdr;obtain⟨n,rfl⟩:=YP (by omega:0<=n);rw[Zp]at hok ⊢;have L4:(K.cl.length:Int)<12:=VH;have hown:=h.own;have fa:=h.Vb.free 0;have hlt:=h.Vb.lt;have hnb:some K.b≠K.vc.ownBlock:=λe=>by have:=h.lc _ e.symm;rw[h.lh]at this;cases this
          have HK:Hid (RK w m K/\U3 {m with kl:=m.kl++[⟨s,some a,m.tot a+n,[]⟩]}/\a<m.kl.length):=⟨h,hok,hal⟩
          obtain⟨i0,hi0,hz0,hz1,hz2⟩:=YQ ng;have hnews:=Us w [.string s,VI (a:Nat),VI (n:Nat),.slice none 0 0] 74;have HV:Hid _:=hv;rw[hv]at hown hnb;obtain⟨ta,Nf⟩:∃ta,ta=m.tot a:=Vx;rw[<- Nf]at h3 Mr hbig;clear h hok Nf hlen h12 hv;go_enter func58,ntmps58;go_wp2_with fail;refine hcl.mono ?_;refine Sl ?_;go_wp2_with fail;refine h1.mono ?_;refine Sl ?_;go_wp2_with fail;refine h2.mono ?_;refine Sl ?_;go_wp2_with fail;refine h3.mono ?_;refine Sl ?_
          go_upto_region 12 with fail
          generalize hq:Value.slice q K.cl.length cap=vc at *;clear hq
          go_wp2_with first
           | (at_builtin;refine wpList_append_own_at _ rfl _ _ 75 rfl 0 74 i0 (.agg #[.string ⟨#[]⟩,VI 0,VI 0,.slice none 0 0]) 4 56 underlying75 hi0 hz0 hz1 hz2 rfl Vz _ _ _ rfl (hown.alloc _) (VJ w.heap.size 0) 1 1 [.string s,VI (a:Nat),VI (n:Nat),.slice none 0 0] rfl rfl hnews vH SE VH nO ?_)
           | fail
          intro v2 W2 hown2 hg2 _ hblk
          have hb2:W2.heap[K.b]?=w.heap[K.b]?:=by
           rw[hg2.block K.b Ey hnb];exact ZV w _ K.b hlt
          have ot:=(Z9 hb2).trans c0;have fa2:=(Zr hb2).trans fa
          have HC:Hid (Vt w W2 (λk=>K.vc.ownBlock=some k)):=by
           have hx1:Vt w W2 (λk=>K.vc.ownBlock=some k):=⟨hg2.os,hg2.tape,hg2.output,anV,λk hk hn=>by
            rw[hg2.block k Ey (λe=>hn (by rw[HV.o,e]))]
            exact ZV w _ k hk⟩
           exact hx1
          have HB:Hid (v2.ownBlock=K.vc.ownBlock\/∃k,w.heap.size<=k/\v2.ownBlock=some k):=by
           have hx1:v2.ownBlock=K.vc.ownBlock\/∃k,w.heap.size<=k/\v2.ownBlock=some k:=by
            rw[HV.o];exact hblk.imp id (λe=>⟨w.heap.size+1,VH,pI⟩)
           exact hx1
          have HO:=UQ hown2;clear hblk hg2 c0 fa hnews hb2;obtain⟨q2,c0,rfl⟩:=Rn hown2;go_wp2
          go_ret
          obtain⟨K',hs,_,_⟩:=HK.o.1.amU s a n HK.o.2.2 _ HK.o.2.1 HC.o HO.o HB.o;exact⟨rfl,K',hs⟩
variable {w' : World}
variable {m' : Im}
def Vu.told {K K':U0}(h:Vu w w' m K m' K'){z:Nat}(hz:w.heap.size<=z)(hl:K'.lab z=.no)(a b:Value):Vu w ((w'.setCell (VJ z 0) a).setCell (VJ z 1) b) m K m' K':=
 ⟨h.rk.same (by rw[UN,UN];exact ZN _) (λk e=>by
  have hne:k≠z:=λx=>e (by rw[x];exact hl)
  exact(ZW _ _ _ k (λx=>hne x)).trans (ZW _ _ _ k (λx=>hne x))) K'.lab Ji (λk e=>by rw[UN,UN];exact h.rk.lt k e),(h.Ut.setCell _ _ (λe=>by have e:z<w.heap.size:=e;omega)).setCell _ _ (λe=>by have e:z<w.heap.size:=e;omega),h.lab,h.b⟩
def RK.QF {K:U0}(h:RK w m K){k:Nat}(hk:w.heap.size<=k):K.lab k=.no:=Zt λe=>by have:=h.lt k e;omega
theorem jK:∀n,n<=10->madeCells #[.bool false,VI 0] (n*2)=(vcs (List.replicate n Vl.zero)).toArray
 | 0,_=>VE
 | 1,_=>VE
 | 2,_=>VE
 | 3,_=>VE
 | 4,_=>VE
 | 5,_=>VE
 | 6,_=>VE
 | 7,_=>VE
 | 8,_=>VE
 | 9,_=>VE
 | 10,_=>VE
 | n+11,h=>VH
def GV:(prog.info? 79).map (λi=>(i.zero,i.size,i.bytes))=some (some (.agg #[.bool false,VI 0]),2,16):=VE
def Ba (n:Nat)(hn:n<=10)(w:World):(Instr.makeSlice 89 (VI (n:Int)) (VI (n:Int))).run prog w=.ok (.slice (some (VJ w.heap.size 0)) n n) (w.alloc (.cells (vcs (List.replicate n Vl.zero)).toArray 79)):=by
 obtain⟨i0,hi,h0,h1,h2⟩:=YQ GV;have h:=VN (P:=prog) w 89 79 i0 _ underlying89 hi h0 .i64 .i64 (n:Int) (n:Int) VH VH (by rw[h2];omega) VH;refine ajb ?_;rw[jK n hn]
def aeH:(prog.info? 122).map (λi=>(i.zero,i.size,i.bytes))=some (some (.agg #[VI 0,.slice none 0 0]),2,32):=VE
def F7 {P:Program}{o:Oper}{a:Act}{K':Act->World->Prop}{Q:Exit->Act->World->Prop}(s x:Operand)(t:TypeId)(ho:o.op=.call {callee:=.builtin .append,args:=#[s,x],argTypes:=#[t,t]}) {v':Value} (hr:(Builtin.append_ #[t,t] o.type #[a.eval s,a.eval x]).run P w=.ok v' w') (h:K' (a.put o.dst v') w'):Oper.wp P o a w K' Q:=by
 unfold Oper.wp execOp;simp only[ho,resolve,invoke,builtin,Sem.run_bind,Sem.run_pure,Result.andThen_ok,List.map_toArray,Zc,Xj,hr];exact h
def ajN {K:U0}(h:RK w m K)(s:ByteArray):
 Calls prog 21 #[VG K.b,.string s] w λe w'=>e=.returned (.tuple #[(m.make s).1.val,VI (m.make s).2.1])/\SG w m K (m.make s).2.2 w':=by
 have hok:=(xX h.ok s).1;obtain⟨r,hdr⟩:∃r,m.make s=r:=Vx;rw[hdr]at hok ⊢;unfold Im.make at hdr;have HH:Hid _:=h;obtain⟨W,hW,h,hz⟩:=h.res;have HB:=UQ hz.bel;have z0:=hz.z0;have z1:=hz.z1;have zf:=λo=>hz.Vb.free o;have hwl:=hz.lt;have hlt:=h.Vb.lt;have Z3:=eY h.ok h.im h.rel s;obtain⟨q,cap,hv⟩:=h.vo_;have c1:=h.c1;rw[hv]at c1;have Ra:=h.ok.objs;clear hz
 cases hm:m.made s with
 | none=>
  rw[hm]at hdr Z3;simp only at hdr;subst hdr;simp only[Qh]at Z3;exact aov
 | some c=>
  rw[hm]at hdr Z3;simp only at hdr;simp only[Qh]at Z3;have hcl:=Cm (O7 hm).2;by_cases Uq:40<=m.obs.length
  . rw[ZU Uq]at hdr;subst hdr;have A2:(40:Int)<=(m.obs.length:Int):=VH;exact aov
  . rw[ZX Uq]at hdr;subst hdr;have hsl:=h.slots hcl;have Kj:=JJ h.ok c;have hown:=h.obs;have fa:=h.Vb.free 1;have hnb:some K.b≠K.vo.ownBlock:=λe=>by have:=h.lo _ e.symm;rw[h.lh]at this;cases this
    have hvl:∀k,K.vo.ownBlock=some k->k<w.heap.size:=λk e=>(HH.o.obs.lt k e).2
    have HK:Hid (RK W m K/\U3 {m with obs:=m.obs++[⟨c,List.replicate (m.tot c) Vl.zero⟩]}):=⟨h,hok⟩
    have HV:Hid _:=hv;rw[hv]at hown hnb hvl;obtain⟨tc,yd⟩:∃tc,tc=m.tot c:=Vx;have dt:Hid _:=yd;rw[<- yd]at hsl Kj;clear h hok yd hv hm;have hmk:=Ba tc Kj;obtain⟨i0,hi0,hz0,hz1,hz2⟩:=YQ aeH;obtain⟨W3,hW3⟩:∃W3,W3=((W.alloc (.cells (vcs (List.replicate tc Vl.zero)).toArray 79)).alloc (.cells #[VI (c:Nat),.slice (some (VJ W.heap.size 0)) tc tc] 122)).drew:=Vx;have hz3:W3.heap.size=W.heap.size+2:=by rw[hW3];show ((W.alloc _).alloc _).heap.size=_;simp
    have hold:∀k,k<W.heap.size->W3.heap[k]?=W.heap[k]?:=λk hk=>by
     rw[hW3];exact(ZV (W.alloc _) _ k Vo).trans (ZV W _ k hk)
    have hzb:W3.heap[W.heap.size]?=some (.cells (vcs (List.replicate tc Vl.zero)).toArray 79):=by
     rw[hW3];exact(ZV (W.alloc _) _ W.heap.size Vy).trans (Z4 W _).1
    have hnews:∀j u,[Value.int .i64 (c:Nat),.slice (some (VJ W.heap.size 0)) tc tc][j]?=some u->W3.cell? ((VJ (W.heap.size+1) 0).add j)=some u:=by
     have:=Us (W.alloc (.cells (vcs (List.replicate tc Vl.zero)).toArray 79)) [VI (c:Nat),.slice (some (VJ W.heap.size 0)) tc tc] 122;rw[ZJ]at this;rw[hW3];exact this
    have SR:=Uk hown (λk e=>hold k (VW (hvl k e) hwl));obtain⟨v2,W2,hr,SR,hg2,_,hbl⟩:=run_append_own_at (P:=prog) W3 0 76 76 122 i0 (.agg #[VI 0,.slice none 0 0]) 2 32 underlying76 hi0 hz0 hz1 hz2 rfl Vz (.slice q m.obs.length cap) m.obs.length (Uj K.ob 0 m.obs) SR (VJ (W.heap.size+1) 0) 1 1 [VI (c:Nat),.slice (some (VJ W.heap.size 0)) tc tc] rfl hnews vH SE VH nO;have O':∀k,k<W3.heap.size->(Value.slice q m.obs.length cap).ownBlock≠some k->W2.heap[k]?=W3.heap[k]?:=λk hk hn=>hg2.block k hk (λe=>hn e.symm);have hkb:=(O' K.b VH (λe=>hnb e.symm)).trans (hold K.b hlt);have Be:=(O' w.heap.size VH (λe=>by have:=hvl _ e;omega)).trans (hold w.heap.size hwl);have b1:=(Z9 (a:=(VJ K.b 1)) hkb).trans c1;have bf:=(Zr (a:=(VJ K.b 1)) hkb).trans fa;have y0:=(Z9 (a:=(VJ w.heap.size 0)) Be).trans z0;have y1:=(Z9 (a:=(VJ w.heap.size 1)) Be).trans z1;have yf:∀o,W2.frozen? (VJ w.heap.size o)=false:=λo=>(Zr (a:=(VJ w.heap.size o)) Be).trans (zf o);have hl2:W2.heap.size ≥ W3.heap.size:=hg2.size;have L_:=HH.o.Vb.lt;have ph:¬K.b=w.heap.size:=VH;obtain⟨p2,c1,hv2⟩:=Rn SR;go_enter func21,ntmps21;go_wp2_with fail;rw[<- hW];clear hW;refine Z3.mono ?_;refine Sl ?_;go_wp2_with fail;refine CB ?_;go_wp2_with fail;refine Uy ?_;refine ZT (S:=(λw'=>True)) VE UG (λhHeld=>?_);refine pJ ?_;refine tC ?_;refine Zv (rs:=[4,7]) VE Vy ?_;refine(ZO (o:=_) rfl (λY_ Z_=>?nB) (ZO (o:=_) rfl (λY_ Z_=>?kr) ZA))
    case' nB=>
     refine Vg ?_;intro hHeld;clear Z_ Y_
     try refine UE ?_
     refine Ul 7 λY_ Z_=>?_;refine Vg ?_;intro hHeld;clear Z_ Y_
     try refine UE ?_
     refine Ur 8 ?_;refine Ul 9 λY_ Z_=>?_;refine Vg ?_;intro hHeld;clear Z_ Y_
     try refine UE ?_
     refine ?lf
    case' kr=>
     refine Vg ?_;intro hHeld;clear Z_ Y_
     try refine UE ?_
     refine Ur 8 ?_;refine Zv (rs:=[4,9]) VE Vy ?_;refine(ZO (o:=_) rfl (λY_ Z_=>?Bs1) (ZO (o:=_) rfl (λY_ Z_=>?Bs2) ZA))
     case' Bs1=>
      refine Vg ?_;intro hHeld;clear Z_ Y_;refine abk ?_;intro hHeld
      try refine UE ?_
      refine ?lf
     case' Bs2=>
      refine Vg ?_;intro hHeld;clear Z_ Y_
      try refine UE ?_
      refine Ul 4 λY_ Z_=>?_;refine Vg ?_;intro hHeld;clear Z_ Y_
      try refine UE ?_
      refine ?lf
    all_goals
     refine Zv (rs:=[10]) VE Vy ?_;refine ZO (o:=_) rfl (λY_ Z_=>?_) ZA;rw[ZU (by rfl),<- hW3];refine F7 (.tmp 28) (.tmp 33) 76 rfl hr ?_;subst hv2;refine Z_.o _ _ trivial (λhHeld=>?_);clear Z_ Y_;refine MC ?_;refine uZ ?_;refine Ul 13 λY_ Z_=>?_;refine Vg ?_;intro hHeld;clear Z_ Y_;refine Um ?_;go_wp2
     have hC:Vt W W2 (λk=>K.vo.ownBlock=some k):=⟨hg2.os.trans (by rw[hW3];rfl),hg2.tape.trans (by rw[hW3];rfl),hg2.output.trans (by rw[hW3];rfl),VH,λk hk hn=>(O' k VH (λe=>hn (by rw[HV.o];exact e))).trans (hold k hk)⟩
     have lB:=(O' W.heap.size VH (λe=>by have:=hvl _ e;omega)).trans hzb
     obtain⟨K',hs,hf,he⟩:=HK.o.1.more c tc W.heap.size _ (by rw[dt.o];exact HK.o.2) hC UM lB SR (by
      rw[HV.o]
      exact hbl.imp id (λe=>⟨_,by rw[hz3];omega,e⟩))
     have hst:=(Vu.below HH.o HB.o).trans hs;have hln:=(hs.lab _ hwl).trans (HH.o.QF UM);have z':=hst.told UM hln (.bool true) (VI (m.obs.length:Nat));have x0:(W2.setCell (VJ K.b 1) (.slice p2 (m.obs.length+1) c1)).cell? (VJ w.heap.size 0)=some (.bool false):=(VD (by intro e;injection e with e;exact ph e)).trans y0;have x1:(W2.setCell (VJ K.b 1) (.slice p2 (m.obs.length+1) c1)).cell? (VJ w.heap.size 1)=some (VI 0):=(VD (by intro e;injection e with e;exact ph e)).trans y1;obtain⟨x0,x1⟩:=RQ x0 x1 (.bool true) (VI (m.obs.length:Nat));refine ZQ (O1 results21 _ _ _ rfl rfl x0 x1) rfl ⟨rfl,K',?_,hf,he⟩;rw[<- dt.o];exact z'
structure RU where
 wv:Value
 av:Value
 sv:Value
 wp:Option Addr
 wh:Nat
 wc:Nat
 ab:Nat
structure SX (z:Nat)(w:World)(K:U0)(fb:Nat)(f:Fr)(d:RU):Prop where
 blk:w.heap[fb]?=some (.cells #[.slice d.wp f.ws.length d.wc,VI (f.home:Nat),.bool f.self.obj,VI f.self.n,d.av,d.sv,VI (f.pc:Nat)] 182)
 ws:pG w d.wp d.wh f.ws
 wq:1<=f.ws.length->K.Q d.wh
 args:UH w d.av f.args d.ab
 ga:f.args≠[]->K.lab d.ab=.no/\d.ab<z/\d.ab≠fb
 st:w.ownsRow 0 79 2 d.sv f.st.length (vcs f.st.reverse)
 gf:K.lab fb=.no/\fb<z
 gs:∀k,d.sv.ownBlock=some k->K.lab k=.no/\z<=k
 zl:z<=w.heap.size
variable {f : Fr}
def SX.lt {z:Nat}{K:U0}{fb:Nat}{d:RU}(h:SX z w K fb f d):fb<w.heap.size:=(Z5.1 h.blk).1
def SX.Vb {z:Nat}{K:U0}{fb:Nat}{d:RU}(h:SX z w K fb f d):UL w fb:=⟨_,_,h.blk⟩
def SX.f0 {z:Nat}{K:U0}{fb:Nat}{d:RU}(h:SX z w K fb f d):w.cell? (VJ fb 0)=some (.slice d.wp f.ws.length d.wc):=by simp only[World.cell?,h.blk];rfl
def SX.f1 {z:Nat}{K:U0}{fb:Nat}{d:RU}(h:SX z w K fb f d):w.cell? (VJ fb 1)=some (VI (f.home:Nat)):=by simp only[World.cell?,h.blk];rfl
def SX.f2 {z:Nat}{K:U0}{fb:Nat}{d:RU}(h:SX z w K fb f d):w.cell? (VJ fb 2)=some (.bool f.self.obj):=by simp only[World.cell?,h.blk];rfl
def SX.f3 {z:Nat}{K:U0}{fb:Nat}{d:RU}(h:SX z w K fb f d):w.cell? (VJ fb 3)=some (VI f.self.n):=by simp only[World.cell?,h.blk];rfl
def SX.f4 {z:Nat}{K:U0}{fb:Nat}{d:RU}(h:SX z w K fb f d):w.cell? (VJ fb 4)=some d.av:=by simp only[World.cell?,h.blk];rfl
def SX.f5 {z:Nat}{K:U0}{fb:Nat}{d:RU}(h:SX z w K fb f d):w.cell? (VJ fb 5)=some d.sv:=by simp only[World.cell?,h.blk];rfl
def SX.f6 {z:Nat}{K:U0}{fb:Nat}{d:RU}(h:SX z w K fb f d):w.cell? (VJ fb 6)=some (VI (f.pc:Nat)):=by simp only[World.cell?,h.blk];rfl
def SX.same {z:Nat}{K K':U0}{fb:Nat}{d:RU}(h:SX z w K fb f d)(hz:w.heap.size<=w'.heap.size)(hl:∀k,k<w.heap.size->K'.lab k=K.lab k)(hb:∀k,k<w.heap.size->K.lab k=.no\/K.lab k=.still->w'.heap[k]?=w.heap[k]?):SX z w' K' fb f d:=
 ⟨(hb fb h.lt (.inl h.gf.1)).trans h.blk,h.ws.same hz (λe=>hb _ (h.ws.lt e) (.inr (h.wq e))),λe=>(hl _ (h.ws.lt e)).trans (h.wq e),h.args.same (λe=>hb _ (ZY (h.ga e).2.1 h.zl) (.inl (h.ga e).1)),λe=>⟨(hl _ (ZY (h.ga e).2.1 h.zl)).trans (h.ga e).1,(h.ga e).2⟩,Uk h.st (λk e=>hb k (h.st.lt k e).2 (.inl (h.gs k e).1)),⟨(hl _ h.lt).trans h.gf.1,h.gf.2⟩,λk e=>⟨(hl _ (h.st.lt k e).2).trans (h.gs k e).1,(h.gs k e).2⟩,ZC h.zl hz⟩
def SX.step {z:Nat}{K K':U0}{fb:Nat}{d:RU}(h:SX z w K fb f d)(s:Vu w w' m K m' K'):SX z w' K' fb f d:=
 h.same s.Ut.size s.lab (λk hk e=>s.Ut.block k hk (λx=>by
  rcases e with e|e
  . exact x.1 e
  . exact x.2 e))
def U0.Own (K:U0)(fb z k:Nat):Prop:=K.Mu k\/k=fb\/(z<=k/\K.lab k=.no)
structure Pm (z fb:Nat)(w w':World)(K K':U0):Prop where
 Ut:Vt w w' (K.Own fb z)
 lab:∀k,k<w.heap.size->K'.lab k=K.lab k
 b:K'.b=K.b
variable {w1 w2 : World}
def Pm.trans {z fb:Nat}{K K1 K2:U0}(h:Pm z fb w w1 K K1)(h':Pm z fb w1 w2 K1 K2):Pm z fb w w2 K K2:=
 ⟨h.Ut.then h'.Ut (λk hk e=>by unfold U0.Own U0.Mu at e ⊢;rw[h.lab k hk]at e;exact e),λk hk=>(h'.lab k (ZY hk h.Ut.size)).trans (h.lab k hk),h'.b.trans h.b⟩
def Vu.run {K K':U0}(h:Vu w w' m K m' K')(z fb:Nat):Pm z fb w w' K K':=⟨h.Ut.mono jJ,h.lab,h.b⟩
def Pm.refl (z fb:Nat)(w:World)(K:U0):Pm z fb w w K K:=⟨Vt.refl _ _,λ_ _=>rfl,rfl⟩
def RK.frame {K:U0}(h:RK w m K)(hC:Vt w w' (λk=>K.lab k=.no)):RK w' m K:=
 h.same hC.size (λk e=>hC.block k (h.lt k e) e) K.lab Ji (λk e=>ZY (h.lt k e) hC.size)
def SX.set {z:Nat}{K:U0}{fb:Nat}{f f':Fr}{d d':RU}(h:SX z w K fb f d)(hk:RK w m K)(o:Nat)(v:Value)
 (hh:#[.slice d.wp f.ws.length d.wc,VI (f.home:Nat),.bool f.self.obj,VI f.self.n,d.av,d.sv,VI (f.pc:Nat)].setIfInBounds o v=#[.slice d'.wp f'.ws.length d'.wc,VI (f'.home:Nat),.bool f'.self.obj,VI f'.self.n,d'.av,d'.sv,VI (f'.pc:Nat)])
 (e1:f'.ws=f.ws) (e2:d'.wp=d.wp) (e3:d'.wh=d.wh) (e4:f'.args=f.args) (e5:d'.av=d.av) (e6:d'.ab=d.ab) (hst:w.ownsRow 0 79 2 d'.sv f'.st.length (vcs f'.st.reverse)) (Kh:∀k,d'.sv.ownBlock=some k->K.lab k=.no/\z<=k):
 SX z (w.setCell (VJ fb o) v) K fb f' d'/\RK (w.setCell (VJ fb o) v) m K:=by
 have hoth:∀k,k≠fb->(w.setCell (VJ fb o) v).heap[k]?=w.heap[k]?:=λk e=>ZW w _ v k (λx=>e x);have hz:=UN w (VJ fb o) v;refine⟨⟨by rw[<- hh];exact QK h.blk _ _,?_,?_,?_,?_,?_,h.gf,Kh,by rw[hz];exact h.zl⟩,hk.frame ((Vt.refl w _).setCell _ _ (λ_=>h.gf.1))⟩
 . rw[e1,e2,e3];exact h.ws.same ac4 (λe=>hoth _ (λx=>by have:=h.wq e;rw[x]at this;have h2:K.lab fb=.still:=this;rw[h.gf.1]at h2;cases h2))
 . rw[e1,e3];exact h.wq
 . rw[e4,e5,e6];exact h.args.same (λe=>hoth _ (h.ga e).2.2)
 . rw[e4,e6];exact h.ga
 . exact Uk hst (λk e=>hoth k (λx=>by have:=(Kh k e).2;have:=h.gf.2;omega))
structure Off (w:World)(K:U0)(fb:Nat)(sv:Value)(p:Nat):Prop where
 lt:p<w.heap.size
 nf:p≠fb
 ns:sv.ownBlock≠some p
 nl:K.lab p=.no
structure U5 (z fb:Nat)(w w':World)(m:Im)(K:U0)(sv:Value)(f:Fr)(d:RU):Prop where
 rk:RK w' m K
 fr:SX z w' K fb f d
 run:Pm z fb w w' K K
 off:∀p,Off w K fb sv p->Off w' K fb d.sv p/\w'.heap[p]?=w.heap[p]?
def Off.step {K K':U0}{fb p:Nat}{sv:Value}(h:Off w K fb sv p)(s:Vu w w' m K m' K'):Off w' K' fb sv p/\w'.heap[p]?=w.heap[p]?:=
 ⟨⟨ZY h.lt s.Ut.size,h.nf,h.ns,(s.lab p h.lt).trans h.nl⟩,s.Ut.block p h.lt (λe=>e.1 h.nl)⟩
def Ii {z fb:Nat}{K:U0}(hC:Vt w w' (λk=>k=fb\/(z<=k/\K.lab k=.no))):Pm z fb w w' K K:=⟨hC.mono lF,λ_ _=>rfl,rfl⟩
def SX.stack {z:Nat}{K:U0}{fb:Nat}{d:RU}(h:SX z w K fb f d)(hk:RK w m K)(st:List Vl)(sv:Value)(hC:Vt w w2 (λk=>d.sv.ownBlock=some k))(hst:w2.ownsRow 0 79 2 sv st.length (vcs st.reverse))(Kh:∀k,sv.ownBlock=some k->K.lab k=.no/\z<=k)(sj:∀k,sv.ownBlock=some k->d.sv.ownBlock=some k\/w.heap.size<=k):
 U5 z fb w (w2.setCell (VJ fb 5) sv) m K d.sv {f with st:=st} {d with sv:=sv}:=by
 have hzl:=h.zl;have hfz:=h.gf.2
 have hb2:∀k,k<w.heap.size->(K.lab k=.still\/k<z)->w2.heap[k]?=w.heap[k]?:=λk hk e=>hC.block k hk (λx=>by
  have:=h.gs k x;rcases e with e|e
  . rw[this.1]at e;cases e
  . omega)
 have hoth:∀k,k≠fb->(w2.setCell (VJ fb 5) sv).heap[k]?=w2.heap[k]?:=λk e=>ZW w2 _ sv k (λx=>e x);have hz:=UN w2 (VJ fb 5) sv;have e9:Vt w (w2.setCell (VJ fb 5) sv) (λk=>k=fb\/(z<=k/\K.lab k=.no)):=(hC.mono (λk _ e=>.inr ⟨(h.gs k e).2,(h.gs k e).1⟩)).setCell _ _ (λ_=>.inl rfl);refine⟨hk.frame (e9.mono (λk _ e=>?_)),⟨?_,?_,h.wq,?_,h.ga,?_,h.gf,Kh,by rw[hz];exact ZC hzl hC.size⟩,Ii e9,λp hp=>⟨⟨by rw[hz];exact ZY hp.lt hC.size,hp.nf,λe=>?_,hp.nl⟩,(hoth p hp.nf).trans (hC.block p hp.lt (λe=>hp.ns e))⟩⟩
 . rcases e with e|e
   . rw[e];exact h.gf.1
   . exact e.2
 . exact QK ((hb2 fb h.lt (.inr hfz)).trans h.blk) 5 sv
 . exact h.ws.same (by rw[hz];exact hC.size) (λe=>by
    have hq:K.lab d.wh=.still:=h.wq e
    exact(hoth _ (λx=>by rw[x,h.gf.1]at hq;cases hq)).trans (hb2 _ (h.ws.lt e) (.inl hq)))
 . exact h.args.same (λe=>(hoth _ (h.ga e).2.2).trans (hb2 _ (ZY (h.ga e).2.1 hzl) (.inr (h.ga e).2.1)))
 . exact Uk hst (λk e=>hoth k (λx=>by have:=(Kh k e).2;omega))
 . rcases sj p e with e|e
   . exact hp.ns e
   . have:=hp.lt;omega
def U5.below {z fb:Nat}{K:U0}{sv:Value}{d:RU}(h:U5 z fb w w' m K sv f d)(hb:Below w'.heap.size w' w2):U5 z fb w w2 m K sv f d:=
 have s:=Vu.below h.rk hb
 ⟨s.rk,h.fr.step s,h.run.trans (s.run z fb),λp hp=>⟨((h.off p hp).1.step s).1,((h.off p hp).1.step s).2.trans (h.off p hp).2⟩⟩
def U5.trans {z fb:Nat}{K:U0}{sv:Value}{f f2:Fr}{d d2:RU}(h:U5 z fb w w' m K sv f d)(h2:U5 z fb w' w2 m K d.sv f2 d2):U5 z fb w w2 m K sv f2 d2:=⟨h2.rk,h2.fr,h.run.trans h2.run,λp hp=>⟨(h2.off p (h.off p hp).1).1,(h2.off p (h.off p hp).1).2.trans (h.off p hp).2⟩⟩
def UF (w:World)(o:Obj):Below w.heap.size w (w.alloc o):=(ZR _ w).alloc UM _
def J5 (w:World)(o o':Obj):Below w.heap.size w ((w.alloc o).alloc o'):=((ZR _ w).alloc UM _).alloc Vy _
def RI {fn:Func}{p:Tmp}(h:fn.results=#[.cell p 79]){tmps:Array Value}{z:Nat}(v0 v1:Value)(hp:tmps.getD p undef=(VG z))(z0:w.cell? (VJ z 0)=some v0)(z1:w.cell? (VJ z 1)=some v1):
 (results fn tmps).run prog w=.ok (.agg #[v0,v1]) w:=by
 exact aa8
theorem MV:∀(l r:List Vl),vcs (l++r)=vcs l++vcs r
 | [],r=>rfl
 | x::l,r=>by simp only[YR,vcs,MV l r]
def PK {z:Nat}{K:U0}{fb:Nat}{d:RU}(hk:RK w m K)(h:SX z w K fb f d)(hs:f.st.length<=1000)(v:Vl):
 Calls prog 151 #[VG fb,v.val] w λe w'=>e=.returned (.tuple #[])/\∃sv,U5 z fb w w' m K d.sv {f with st:=v::f.st} {d with sv:=sv}:=by
 have HK:Hid (RK w m K/\SX z w K fb f d):=⟨hk,h⟩
 have f5:=h.f5;have hfl:=h.lt;have hfz:=h.Vb.free 5;have hst:=h.st;obtain⟨i0,hi0,hz0,hz1,hz2⟩:=YQ GV;obtain⟨sv,sj⟩:∃x,x=d.sv:=Vx;obtain⟨n,hn⟩:∃n,n=f.st.length:=Vx;rw[<- sj]at f5 hst;rw[<- hn]at hst hs
 have HN:Hid (sv=d.sv/\n=f.st.length):=⟨sj,hn⟩
 clear h hk sj hn;obtain⟨W1,hW1⟩:∃W1,W1=w.alloc (.cells #[.bool v.obj,VI v.n] 79):=Vx;have Hp:Vt w W1 (λ_=>False):=by rw[hW1];exact(Vt.refl w _).alloc _
 have v0:W1.cell? (VJ w.heap.size 0)=some (.bool v.obj):=by rw[hW1];exact Ug w _ _ _ 0 rfl
 have v1:W1.cell? (VJ w.heap.size 1)=some (VI v.n):=by rw[hW1];exact Ug w _ _ _ 1 rfl
 have f5:=(Z9 (a:=(VJ fb 5)) (Hp.block fb hfl (λe=>e))).trans f5;have i7:=(Zr (a:=(VJ fb 5)) (Hp.block fb hfl (λe=>e))).trans hfz;have hz:w.heap.size+1=W1.heap.size:=acn;have GM:=Uk hst (λk e=>Hp.block k (hst.lt k e).2 (λe=>e));obtain⟨W3,hW3⟩:∃W3,W3=(W1.alloc (.cells #[.bool v.obj,VI v.n] 79)).drew:=Vx;have hnews:∀j u,[Value.bool v.obj,VI v.n][j]?=some u->W3.cell? ((VJ W1.heap.size 0).add j)=some u:=by rw[hW3];exact Us W1 [.bool v.obj,VI v.n] 79
 have z_:W3.ownsRow 0 79 2 sv n (vcs f.st.reverse):=by rw[hW3];exact GM.alloc _
 obtain⟨v2,W2,hr,hown2,hg2,_,hbl⟩:=run_append_own_at (P:=prog) W3 0 89 89 79 i0 (.agg #[.bool false,VI 0]) 2 16 underlying89 hi0 hz0 hz1 hz2 rfl Vz sv n (vcs f.st.reverse) z_ (VJ W1.heap.size 0) 1 1 [.bool v.obj,VI v.n] rfl hnews vH SE VH nO;have Kh:=HK.o.2.gs;rw[<- HN.o.1]at Kh;have hz0:w.heap.size+2=W3.heap.size:=by rw[hW3];show _=(W1.alloc _).heap.size;rw[ZJ];omega
 have O':∀k,k<w.heap.size+1->sv.ownBlock≠some k->W2.heap[k]?=W1.heap[k]?:=λk hk hn=>by
  rw[hg2.block k VH (λe=>hn e.symm),hW3];exact ZV W1 _ k VH
 have Mw:sv.ownBlock≠some fb:=λe=>by have:=(Kh _ e).2;have:=HK.o.2.gf.2;omega
 have cT:sv.ownBlock≠some w.heap.size:=λe=>by have:=(hst.lt _ e).2;omega
 have q0:=(Z9 (a:=(VJ w.heap.size 0)) (O' w.heap.size VH cT)).trans v0;have q1:=(Z9 (a:=(VJ w.heap.size 1)) (O' w.heap.size VH cT)).trans v1;have q5:=(Z9 (a:=(VJ fb 5)) (O' fb VH Mw)).trans f5;have qz:=(Zr (a:=(VJ fb 5)) (O' fb VH Mw)).trans i7;have ph:¬fb=w.heap.size:=VH;have ph:fb<W1.heap.size:=VH;obtain⟨p2,c2,hv2⟩:=Rn hown2;unfold Vl.val;go_enter func151,ntmps151;go_wp2_with fail;rw[<- hW1];clear hW1;refine Uy ?_;refine ZT (S:=(λw'=>w'.cell? (VJ w.heap.size 0)=some (.bool v.obj)/\w'.cell? (VJ w.heap.size 1)=some (VI v.n))) VE UG (λhHeld=>?_);refine pJ ?_;refine Ur 5 ?_;refine Zv (rs:=[4,6]) VE Vy ?_;refine(ZO (o:=_) rfl (λY_ Z_=>?nB) (ZO (o:=_) rfl (λY_ Z_=>?kr) ZA))
 case' nB=>
  refine Vg ?_;intro hHeld;clear Z_ Y_
  try refine UE ?_
  refine Bf ?_;intro hHeld;refine ?lf
 case' kr=>
  refine Vg ?_;intro hHeld;clear Z_ Y_
  try refine UE ?_
  refine Ul 4 λY_ Z_=>?_;refine Vg ?_;intro hHeld;clear Z_ Y_
  try refine UE ?_
  refine ?lf
 all_goals
  refine Zv (rs:=[7]) VE Vy ?_;refine ZO (o:=_) rfl (λY_ Z_=>?_) ZA;rw[ZU (by rfl),<- hW3];refine F7 (.tmp 8) (.tmp 10) 89 rfl hr ?_;subst hv2;refine Z_.o _ _ ⟨q0,q1⟩ (λhHeld=>?_);clear Z_ Y_;refine MC ?_;refine Uh 8 ?_;refine Ur 9 ?_;refine Fe ?_;intro hHeld;refine Um ?_
  go_end0
  have SR:W2.ownsRow 0 79 2 (.slice p2 (n+1) c2) (v::f.st).length (vcs (v::f.st).reverse):=by
   rw[Xf,MV,ZI,<- HN.o.2];exact hown2
  have hC2:Vt w W2 (λk=>d.sv.ownBlock=some k):=⟨hg2.os.trans (by rw[hW3];exact Hp.os),hg2.tape.trans (by rw[hW3];exact Hp.tape),hg2.output.trans (by rw[hW3];exact Hp.output),by have:=hg2.size;omega,λk hk hn=>(O' k VH (by rw[HN.o.1];exact hn)).trans (Hp.block k hk (λe=>e))⟩
  refine⟨rfl,_,HK.o.2.stack HK.o.1 _ _ hC2 SR (λk e=>?_) (λk e=>?_)⟩
  case' refine_2=>
   rcases hbl with e1|e1
   . left;rw[<- HN.o.1,<- e1];exact e
   . right;rw[e1]at e;injection e with e;omega
  rcases hbl with e1|e1
  . exact Kh k (by rw[<- e1];exact e)
  . rw[e1]at e;injection e with e;have:=HK.o.2.zl;exact⟨Zt λe2=>by have:=HK.o.1.lt k e2;omega,VH⟩
def Hr {z:Nat}{K:U0}{fb:Nat}{d:RU}{v:Vl}{r:List Vl}(hk:RK w m K)(h:SX z w K fb {f with st:=v::r} d) (hs:r.length<=1000):
 Calls prog 139 #[VG fb] w λe w'=>e=.returned v.val/\∃sv,U5 z fb w w' m K d.sv {f with st:=r} {d with sv:=sv}:=by
 have HK:Hid (RK w m K/\SX z w K fb {f with st:=v::r} d):=⟨hk,h⟩
 have f5:=h.f5;have hfl:=h.lt;have hfz:=h.Vb.free 5;have hst:=h.st;simp only[ZI,Xf,MV]at hst
 obtain⟨g,cap,hv⟩:∃g cap,d.sv=.slice (some (VJ g 0)) (r.length+1) cap:=by
  rcases hst.2 with⟨_,e⟩|⟨g,cap,cur,e,_⟩
  . omega
  . exact⟨g,cap,e⟩
 obtain⟨n,hn⟩:∃n,n=r.length:=Vx;have hvl:(vcs r.reverse).length=n*2:=by rw[Kr,X9,hn]
 rw[hv,<- hn]at hst;have Lx:=ownsRow_pop hvl hst
 have s0:w.cell? (VJ g (n*2))=some (.bool v.obj):=by
  rw[hst.cellAt (n*2) VH,ZP VH,hvl];simp[vcs]
 have s0:w.cell? (VJ g (n*2+1))=some (VI v.n):=by
  rw[hst.cellAt (n*2+1) VH,ZP VH,hvl];simp[vcs]
 have hgl:=(hst.lt g rfl).2;rw[hv,<- hn]at f5
 have hcap:n+1<=cap:=by
  rcases hst.2 with⟨e,_⟩|⟨g',cap',cur,e,_,_,hc,_⟩
  . cases e
  . injection e with _ _ e;omega
 rw[<- hn]at hs
 have HN:Hid (d.sv=.slice (some (VJ g 0)) (n+1) cap/\n=r.length/\w.ownsRow 0 79 2 (.slice (some (VJ g 0)) n cap) n (vcs r.reverse)):=⟨by rw[hv,hn],hn,Lx⟩
 clear h hk hn hst hv Lx hvl;unfold Vl.val;go_enter func139,ntmps139;go_wp2_with fail;have hz:=UN w (VJ fb 5) (.slice (some (VJ g 0)) n cap);have hp:=HK.o.2.stack HK.o.1 r (.slice (some (VJ g 0)) n cap) (Vt.refl w _) (by rw[<- HN.o.2.1];exact HN.o.2.2) (λk e=>HK.o.2.gs k (by rw[HN.o.1];exact e)) (λk e=>.inl (by rw[HN.o.1];exact e));refine ZQ (RI (z:=w.heap.size) results139 (.bool v.obj) (VI v.n) rfl ?_ ?_) rfl ⟨rfl,_,hp.below (J5 _ _ _)⟩
 all_goals
  refine(Z9 (a:=(VJ w.heap.size _)) (ZV _ _ _ (by rw[ZJ,hz];exact XA _))).trans ?_;exact Ug _ _ _ _ _ hz.symm
end Go.Proofs.Rz
namespace Go.Proofs.Rz
open ChangeShapes WideShapes ChangeAt RowKit Kn Tryz
variable {w : World}
variable {m : Im}
def ajn {K:U0}(h:RK w m K)(s sel:ByteArray):
 Calls prog 60 #[VG K.b,.string s,.string sel] w λe w'=>e=.returned (VI (m.drop s sel).1)/\SG w m K (m.drop s sel).2 w':=by
 have hok:=(yw h.ok s sel).1;have h1:=h.class s;have HR:=UQ (SG.refl h)
 cases hc:m.cls s with
 | none=>
  have hdr:m.drop s sel=(2,m):=by unfold Im.drop;rw[hc]
  rw[hdr];rw[hc]at h1;simp only[Qh]at h1;clear h hok hdr;go_enter func60,ntmps60;go_wp2_with fail;refine h1.mono ?_;rintro e w' ⟨rfl,rfl⟩;go_wp2
  go_ret
  exact O5
 | some c=>
  obtain⟨k,hk,_⟩:=RJ hc;have h2:=h.agJ hk sel;have ho:=BA (k:=k) (sel:=sel)
  cases hw:k.own sel with
  | none=>
   have hdr:m.drop s sel=(4,m):=agU;rw[hdr];rw[hc]at h1;rw[hw]at ho;have ho0:=VY.1 λe=>alx;simp only[Qh]at h1;clear h hok hdr ho;go_enter func60,ntmps60;go_wp2_with fail;refine h1.mono ?_;rintro e w' ⟨rfl,rfl⟩;go_wp2_with fail;refine h2.mono ?_;rintro e w' ⟨rfl,rfl⟩;go_wp2
   go_ret
   exact O5
  | some ws=>
   have hdr:m.drop s sel=(0,m.UY c (·.drop sel)):=agU;rw[hdr]at hok ⊢;rw[hw]at ho;refine(l9 h.ok h.im h.rel hk (LD h.ok c k hk) s sel hc (ho.2 rfl)).mono ?_;rintro e w' ⟨rfl,W,v,g,Zs,xs,I6,rfl,hb,hown,hrow⟩;exact⟨rfl,h.Om hk (·.drop sel) (k.drop sel).ms rfl hok I6 hb hown hrow⟩
def acI (l:List (Kn.W×Nat))(x:Kn.W×Nat):greatest (l++[x])=if x.1.k=103\/x.1.k=112 then max (greatest l) (x.1.n.toNat+1) else greatest l:=by
 unfold greatest;rw[Wy];rfl
def cZ {p:Option Addr}{g cap:Nat}{ws:List (Kn.W×Nat)}(hw:pG w p g ws)(hl:ws.length<=40)(hn:∀(i:Nat) (x:Kn.W×Nat),ws[i]?=some x->(x.1.k=103\/x.1.k=112)->0<=x.1.n/\x.1.n<10)(o_:∀(i:Nat) (x:Kn.W×Nat),ws[i]?=some x->x.1.k<256):
 Calls prog 102 #[.slice p ws.length cap] w λe w'=>e=.returned (VI (greatest ws:Nat))/\w'=w:=by
 have HW:Hid (pG w p g ws/\(∀(i:Nat) (x:Kn.W×Nat),ws[i]?=some x->(x.1.k=103\/x.1.k=112)->0<=x.1.n/\x.1.n<10)/\(∀(i:Nat) (x:Kn.W×Nat),ws[i]?=some x->x.1.k<256)):=⟨hw,hn,o_⟩
 obtain⟨n,hnn⟩:∃n,n=ws.length:=Vx;have HN:Hid _:=hnn;rw[<- hnn]at hl ⊢;clear hw hn o_ hnn;go_enter func102,ntmps102;go_wp2
 go_loopw [3,4] (λnv i wr=>∃j a:Nat,i=VI j/\nv=VI a/\j<=n/\a<=10/\a=greatest (ws.take j)/\wr=w) (λ_ i _=>n-(intOf i).toNat)
 case atStart=>exact⟨0,0,rfl,rfl,VH,VH,rfl,rfl⟩
 case round=>
  obtain⟨j,a,rfl,rfl,hj,ha,hag,rfl⟩:=hrel;have HA:Hid _:=hag;clear hag;by_cases hjn:j<n
  . obtain⟨x,hx⟩:∃x,ws[j]?=some x:=⟨_,Z8 agI⟩
    obtain rfl:p=some (VJ g 0):=HW.o.1.head aeV;have d0:=HW.o.1.c0 j x hx;have d1:=HW.o.1.c1 j x hx;have o_:=HW.o.2.2 j x hx;have F4:=HW.o.2.1 j x hx;have htk:ws.take (j+1)=ws.take j++[x]:=by rw[Yc,hx];rfl
    have HG:Hid (greatest (ws.take (j+1))=if x.1.k=103\/x.1.k=112 then max a (x.1.n.toNat+1) else a):=by
     have hx1:greatest (ws.take (j+1))=if x.1.k=103\/x.1.k=112 then max a (x.1.n.toNat+1) else a:=by rw[htk,acI,HA.o]
     exact hx1
    obtain⟨xk,hxk⟩:∃xk,xk=x.1.k:=Vx;obtain⟨xn,vp⟩:∃xn,xn=x.1.n:=Vx;rw[<- hxk]at d0 o_ HG F4;rw[<- vp]at d1 HG F4;have FE:(j:Int)<(n:Int):=VH;clear hx htk hxk vp;by_cases E6:xk=103\/xk=112
    . obtain⟨h0,h0⟩:=F4 E6;by_cases hge:(a:Int)<=xn
      . have HR:Hid ((xn.toNat+1:Nat)=greatest (ws.take (j+1))/\xn+1=((xn.toNat+1:Nat):Int)):=by
         have hx1:(xn.toNat+1:Nat)=greatest (ws.take (j+1))/\xn+1=((xn.toNat+1:Nat):Int):=⟨by rw[HG.o,ZU E6];omega,VH⟩
         exact hx1
        rcases E6 with rfl|rfl
        . go_wp2
          go_roundw
          case rel=>exact⟨j+1,xn.toNat+1,Uu,by rw[<- HR.o.2],VH,VH,HR.o.1,sK⟩
          case measure=>simp[intOf]<;>omega
        . go_wp2
          go_roundw
          case rel=>exact⟨j+1,xn.toNat+1,Uu,by rw[<- HR.o.2],VH,VH,HR.o.1,sK⟩
          case measure=>simp[intOf]<;>omega
      . have HR:Hid (a=greatest (ws.take (j+1))):=by
         have hx1:a=greatest (ws.take (j+1)):=by rw[HG.o,ZU E6];omega
         exact hx1
        rcases E6 with rfl|rfl
        . go_wp2
          go_roundw
          case rel=>exact adS
          case measure=>simp[intOf]<;>omega
        . go_wp2
          go_roundw
          case rel=>exact adS
          case measure=>simp[intOf]<;>omega
    . have HR:Hid (a=greatest (ws.take (j+1))):=by
       have hx1:a=greatest (ws.take (j+1)):=by rw[HG.o,ZX E6]
       exact hx1
      have n1:¬(xk:Int)=103:=λe=>E6 (.inl VH);have n1:¬(xk:Int)=112:=λe=>E6 (.inr VH);clear F4 E6;go_wp2
      go_roundw
      case rel=>exact adS
      case measure=>simp[intOf]<;>omega
  . obtain rfl:j=n:=by omega
    have HR:Hid (greatest ws=a):=by
     have hx1:greatest ws=a:=by rw[HA.o,HN.o,Yv]
     exact hx1
    go_wp2
    go_ret
    exact⟨jS,rfl⟩
def uD (g:SN)(fs:List Fr)(v:Vl)(m':Im)(K':U0):Prop:=(K'.en=0/\To g (QJ m' K'.fu v fs))\/(K'.en≠0/\To g (.stop m' K'.en))
def lJ (w:World)(m:Im)(K:U0)(g:SN)(fs:List Fr)(e:Ending)(w':World):Prop:=∃v m' K',e=.returned (Vl.val v)/\Vu w w' m K m' K'/\K'.fu<=K.fu/\uD g fs v m' K'
def FQ (d:Nat):Prop:=∀(w:World) (m:Im) (K:U0) (fs:List Fr) (to:Vl) (C_:Option Nat) (sel:ByteArray) (av:Value) (args:List Vl) (ab:Nat),RK w m K->K.en=0->K.fu<=3000->fs.length=d->(∀g∈fs,Rk m 1 g)->TF m to->(∀v∈args,TF m v)->selector (bl sel)=true->args.length=U6 (bl sel)->(∀c,C_=some c->c<m.kl.length/\m.tot c<=m.width to)->UH w av args ab->(args≠[]->K.lab ab=.no/\ab<w.heap.size)->
 Calls prog 56 #[VG K.b,to.val,VI (Qh C_),.string sel,av,VI (d:Nat)] w (lJ w m K (m.send K.fu C_ to sel args fs) fs)
def apK (z fb:Nat)(g:SN)(fs:List Fr)(w':World)(m':Im)(K':U0):Prop:=(K'.en=0/\∃f' d',SX z w' K' fb f' d'/\To g (.on m' K'.fu (f'::fs)))\/(K'.en≠0/\To g (.stop m' K'.en))
def UZ (z fb:Nat)(w:World)(K:U0)(g:SN)(fs:List Fr)(e:Ending)(w':World):Prop:=∃m' K',e=.returned (.tuple #[])/\RK w' m' K'/\Pm z fb w w' K K'/\K'.fu<=K.fu/\apK z fb g fs w' m' K'
def aoV (d:Nat):Prop:=∀(w:World) (m:Im) (K:U0) (fb:Nat) (f:Fr) (fs:List Fr) (dd:RU),RK w m K->K.en=0->K.fu<=3000->SX w.heap.size w K fb f dd->(SN.on m K.fu (f::fs)).Ok->fs.length+1=d->
 Calls prog 97 #[VG K.b,VG fb,VI (d:Nat)] w λe w'=>∃v m' K',e=.returned (Vl.val v)/\RK w' m' K'/\Pm w.heap.size fb w w' K K'/\K'.fu<=K.fu/\uD (.on m K.fu (f::fs)) fs v m' K'
def uQ (m:Im)(n:Nat)(sel:ByteArray):∀f c,Im.up {m with looks:=n} sel f c=m.up sel f c
 | 0,_=>rfl
 | _+1,none=>rfl
 | f+1,some c=>by
  show (match m.own c sel with
   | some ws=>some (c,ws)
   | none=>Im.up {m with looks:=n} sel f (m.kl[c]?.bind (·.above)))=(match m.own c sel with
   | some ws=>some (c,ws)
   | none=>m.up sel f (m.kl[c]?.bind (·.above)))
  rw[uQ m n sel f]
def FV (m:Im)(n:Nat)(sel:ByteArray)(c:Option Nat):Im.find {m with looks:=n} sel c=m.find sel c:=uQ m n sel _ c
def RK.ahr {K:U0}(h:RK w m K)(c:Option Nat)(hc:∀x,c=some x->x<m.kl.length)(sel:ByteArray):Calls prog 95 #[VG K.b,VI (Qh c),.string sel] w λe w'=>e=.returned (VI (Qh ((m.find sel c).map (·.1))))/\w'=w:=agk h.ok h.im h.rel c hc sel (LD h.ok)
def RK.found {K:U0}(h:RK w m K){c:Nat}{sel:ByteArray}{ws:List (Kn.W×Nat)}(ho:m.own c sel=some ws):∃(k:Kl) (i:Nat) (g Zs mg RM:Nat) (q:Option Addr) (hh cc:Nat),m.kl[c]?=some k/\A8 k.ms sel=(i:Nat)/\i<k.ms.length/\K.vc=.slice (some (VJ g 0)) K.cl.length Zs/\g<w.heap.size/\w.cell? (VJ g (c*4+3))=some (.slice (some (VJ mg 0)) k.ms.length RM)/\mg<w.heap.size/\w.cell? (VJ mg (i*2+1))=some (.slice q ws.length cc)/\w.cell? (VJ mg (i*2))=some (.string sel)/\pG w q hh ws/\(1<=ws.length->K.Q hh)/\c<K.cl.length:=by
 obtain⟨k,x,hk,hx,hxs,hxw⟩:=Oz ho;have hc:=(Z7.1 hk).1;obtain⟨g,Zs,hv,hat⟩:=h.vc_
 obtain⟨y,hy⟩:∃y,K.cl[c]?=some y:=⟨_,Z8 (by rw[h.rel.len];exact hc)⟩
 obtain⟨_,_,_,mp,RM,hmv,R2⟩:=h.rel.rel c k y hk hy;have c3:=hat.c3 c y hy;rw[lq hk]at ho;unfold Kl.own at ho
 cases hf:k.ms.find? (λx=>x.sel==sel) with
 | none=>rw[hf]at ho;cases ho
 | some u=>
  rw[hf]at ho;simp at ho
  cases hi:k.ms.findIdx? (λx=>x.sel==sel) with
  | none=>
   have:=YI.1 hi u (Xw hf);have h2:=Xr hf;rw[h2]at this;cases this
  | some i=>
   obtain⟨hil,hip,hib⟩:=YZ.1 hi
   have hiu:k.ms[i]?=some u:=by
    have e1:=List.find?_eq_some_iff_getElem.1 hf;obtain⟨_,j,hj,dv,hjb⟩:=e1
    have:i=j:=by
     rcases Xg i j with e|e|e
     . have:=hjb i e;rw[hip]at this;cases this
     . exact e
     . have h2:=hib j e;rw[dv]at h2;have h4:=Xr hf;exact absurd h4 h2
    subst this;rw[Z8 hj,dv]
   have dy:u.sel=sel:=by
    have h2:=Xr hf;exact(SK _ _).1 h2
   obtain⟨mg,rfl,hQ,hlt,hget⟩:=R2 VH;obtain⟨d0,q,hh,cc,d1,d2,d3⟩:=hget i u hiu;rw[hmv]at c3;rw[ho]at d1 d2 d3;rw[dy]at d0;refine⟨k,i,g,Zs,mg,RM,q,hh,cc,hk,?_,hil,hv,hat.lt (by have:=h.rel.len;omega),c3,hlt,d1,d0,d2,d3,by rw[h.rel.len];exact hc⟩;unfold A8;rw[hi]
def aas {ws:List (Kn.W×Nat)}{args slots:Nat}(h:Lp ws args slots)(h10:slots<=10):∀(i:Nat) (x:Kn.W×Nat),ws[i]?=some x->(x.1.k=103\/x.1.k=112)->0<=x.1.n/\x.1.n<10:=λi x hx hk=>by
 have hlt:=(Z7.1 hx).1;have hw:EG ws i=x.1:=ql;have hn:=h.num i hlt;unfold SC TG at hn;rw[hw]at hn;have h1:=VY.1 λe=>hn (.inr ⟨hk,e⟩);have h0:=(h.shp i x hx).low (by rcases hk with e|e<;>simp[e]);omega
def jP {ws:List (Kn.W×Nat)}{args slots:Nat}(h:Lp ws args slots):∀(i:Nat) (x:Kn.W×Nat),ws[i]?=some x->x.1.k<256:=λi x hx=>by
 have:=(h.fine i x hx).kind;simp only[kinds,ZM,Zx,YE]at this;omega
def aiE {K:U0}(h:RK w m K)(s sel to:ByteArray):
 Calls prog 62 #[VG K.b,.string s,.string sel,.string to] w λe w'=>e=.returned (VI (m.copy s sel to).1)/\SG w m K (m.copy s sel to).2 w':=by
 have hok:=(xC h.ok s sel to).1;have h1:=h.class s;have h2:=h.class to;have HH:Hid _:=h;have HR:Hid (SG w m K m w):=SG.refl h;obtain⟨r,hdr⟩:∃r,m.copy s sel to=r:=Vx;rw[hdr]at hok ⊢;unfold Im.copy at hdr
 cases hc:m.cls s with
 | none=>
  rw[hc]at hdr h1;simp only at hdr;subst hdr;simp only[Qh]at h1;obtain⟨tn,htn⟩:∃tn,tn=Qh (m.cls to):=Vx;rw[<- htn]at h2;clear h hok htn;go_enter func62,ntmps62;go_wp2_with fail;refine h1.mono ?_;rintro e w' ⟨rfl,rfl⟩;go_wp2_with fail;refine h2.mono ?_;rintro e w' ⟨rfl,rfl⟩;go_wp2
  go_ret
  exact O5
 | some c=>
  rw[hc]at hdr h1;simp only[Qh]at h1
  cases ht2:m.cls to with
  | none=>
   rw[ht2]at hdr h2;simp only at hdr;subst hdr;simp only[Qh]at h2;clear h hok;go_enter func62,ntmps62;go_wp2_with fail;refine h1.mono ?_;rintro e w' ⟨rfl,rfl⟩;go_wp2_with fail;refine h2.mono ?_;rintro e w' ⟨rfl,rfl⟩;go_wp2
   go_ret
   exact O5
  | some t=>
   rw[ht2]at hdr h2;simp only[Qh]at h2;simp only at hdr;obtain⟨k,hk,_⟩:=RJ hc;have h3:=h.agJ hk sel;have ho:=BA (k:=k) (sel:=sel);rw[<- lq hk]at ho
   cases hw:m.own c sel with
   | none=>
    rw[hw]at hdr ho;simp only at hdr;subst hdr;have ho0:A8 k.ms sel<0:=VY.1 λe=>alx;clear h hok ho;go_enter func62,ntmps62;go_wp2_with fail;refine h1.mono ?_;rintro e w' ⟨rfl,rfl⟩;go_wp2_with fail;refine h2.mono ?_;rintro e w' ⟨rfl,rfl⟩;go_wp2_with fail;refine h3.mono ?_;rintro e w' ⟨rfl,rfl⟩;go_wp2
    go_ret
    exact O5
   | some ws=>
    rw[hw]at hdr;simp only at hdr;obtain⟨k',i,g,Zs,mg,RM,q,hh,cc,hk',hoi,hil,hv,hg,c3,r9,d1,d1,NF,xt,hcl⟩:=h.found hw;rw[hk]at hk';injection hk' with hk';subst hk';rw[hoi]at h3;have H_:=IZ h.ok hw;have htl:=Cm ht2;have Kj:=JJ h.ok c;have Lw:=LD h.ok c k hk;have L4:(K.cl.length:Int)<=12:=by rw[h.rel.len];have:=h.ok.few;omega
    refine adV ?_;intro Pu x6 Vn;have c0:=h.c0;rw[hv]at c0;have hlt:=h.Vb.lt;obtain⟨nm,E_⟩:∃nm,nm=k.ms.length:=Vx;rw[<- E_]at c3 x6 Vn;obtain⟨W,hW⟩:∃W,W=w.alloc (.cells #[.string sel,.slice q ws.length cc] 180):=Vx;have hB:Below w.heap.size w W:=by rw[hW];exact(ZR _ w).alloc UM _
    have hst:=Vu.below h hB;have x0:W.cell? (VJ w.heap.size 0)=some (.string sel):=by rw[hW];exact Ug _ _ _ _ _ rfl
    have x0:W.cell? (VJ w.heap.size 1)=some (.slice q ws.length cc):=by rw[hW];exact Ug _ _ _ _ _ rfl
    have hwl:w.heap.size<W.heap.size:=by rw[hW];simp
    have xN:=NF.below UM hB;have hgr:=cZ (cap:=cc) xN H_.2.len (aas H_.2 Kj) (jP H_.2);have hsl:=hst.rk.slots htl
    obtain⟨kt,o6⟩:∃kt,m.kl[t]?=some kt:=⟨_,Z8 htl⟩
    have hput:=abb hst.rk.ok hst.rk.im hst.rk.rel o6 (LD h.ok t kt o6) ⟨sel,ws⟩ q cc ⟨rfl,q,hh,cc,rfl,xN,xt⟩
    have HS:Hid (Vu w W m K m K/\m.kl[t]?=some kt):=⟨hst,o6⟩
    have j3:=JJ h.ok t;obtain⟨gr,ur⟩:∃gr,gr=greatest ws:=Vx;obtain⟨tt,eb⟩:∃tt,tt=m.tot t:=Vx;rw[<- ur]at hgr hdr;rw[<- eb]at hsl j3 hdr;simp only at hput;clear h hst NF xN hB H_ o6 hw ho hcl Lw ur eb;by_cases hgt:tt<gr
    . rw[ZU hgt]at hdr;subst hdr;clear hok hput;go_enter func62,ntmps62;go_wp2_with fail;refine h1.mono ?_;refine Sl ?_;go_wp2_with fail;refine h2.mono ?_;refine Sl ?_;go_wp2_with fail;refine h3.mono ?_;refine Sl ?_;go_wp2_with fail;rw[<- hW];clear hW;refine hgr.mono ?_;refine Sl ?_;go_wp2_with fail;refine CB ?_;go_wp2
      go_ret
      exact⟨rfl,K,HS.o.1,rfl,rfl⟩
    . rw[ZX hgt]at hdr;subst hdr;have HO:Hid _:=hok;clear hok;go_enter func62,ntmps62;go_wp2_with fail;refine h1.mono ?_;refine Sl ?_;go_wp2_with fail;refine h2.mono ?_;refine Sl ?_;go_wp2_with fail;refine h3.mono ?_;refine Sl ?_;go_wp2_with fail;rw[<- hW];clear hW;refine hgr.mono ?_;refine Sl ?_;go_wp2_with fail;refine CB ?_;go_wp2_with fail;refine hput.mono ?_;rintro e w' ⟨rfl,W2,v,g2,vy,xs,I6,rfl,hb,hown,hrow⟩;obtain⟨K',hs2,hf,he⟩:=HS.o.1.rk.Om HS.o.2 (·.put ⟨sel,ws⟩) _ rfl HO.o I6 hb hown hrow
      have HX:Hid (SG w m K (m.UY t (·.put ⟨sel,ws⟩)) (W2.setCell (VJ g2 (t*4+3)) v)):=⟨K',HS.o.1.trans hs2,hf,he⟩
      clear I6 hb hown hrow hs2 hf he hput;go_wp2
      go_ret
      exact⟨rfl,HX.o⟩
def ait {K:U0}(h:RK w m K)(s t:ByteArray):
 Calls prog 61 #[VG K.b,.string s,.string t] w λe w'=>e=.returned (VI (m.move s t).1)/\SG w m K (m.move s t).2 w':=by
 have hok:=(xA h.ok s t).1;have h1:=h.class s;have h2:=h.class t;have HH:Hid _:=h;have HR:=UQ (SG.refl h);obtain⟨r,hdr⟩:∃r,m.move s t=r:=Vx;rw[hdr]at hok ⊢;unfold Im.move at hdr;by_cases hbad:∃c a,m.cls s=some c/\m.cls t=some a/\2<=c
 . obtain⟨c,a,hc,ha,hc2⟩:=hbad;rw[hc,ha]at hdr;simp only at hdr;rw[ZX VH]at hdr;rw[hc]at h1;rw[ha]at h2;simp only[Qh]at h1 h2;obtain⟨k,hk,_⟩:=RJ hc;have hcl:=Cm hc;have hal:=Cm ha;obtain⟨g,Zs,hv,hat⟩:=h.vc_
   obtain⟨y,hy⟩:∃y,K.cl[c]?=some y:=⟨_,Z8 (by rw[h.rel.len];exact hcl)⟩
   obtain⟨_,hab,hown,_⟩:=h.rel.rel c k y hk hy;obtain⟨u,hu,hul,Ao⟩:=h.ok.up c k hk VH;rw[hu]at hown;simp only[ZG,YX]at hown;have htk:m.tot c=k.tot:=by unfold Im.tot;rw[hk];rfl
   rw[<- htk]at hown Ao;have hup:(m.kl[c]?.bind (·.above)).getD 0=u:=by rw[hk];simp[hu]
   rw[hup]at hdr;have c0:=h.c0;rw[hv]at c0;have hlt:=h.Vb.lt;have hg:=hat.lt (by rw[h.rel.len];omega);have o1:=hat.c1 c y hy;have o1:=hat.c2 c y hy;rw[hown]at o1;have hown2:=h.own;rw[hv]at hown2;have gf:=hown2.frozenAt (c*4+1);clear hown2;obtain⟨rk,hr1,hr2⟩:=h.ok.rank
   have vR:Hid (als w (some (VJ g 0)) g K.cl/\Ri w m K.Q K.cl/\U3 m):=⟨hat,h.rel,h.ok⟩
   have Pu:(c:Int)<(K.cl.length:Int):=by rw[h.rel.len];omega
   have HL:=UQ h.rel.len;have hD:=Vu.below h (ZR _ w).drew;have hsa:=hD.rk.slots hal;have hsc:=hD.rk.slots hcl;have ta:=JJ h.ok a;have tc:=JJ h.ok c
   have HX:Hid (m.kl[c]?=some k/\K.vc=.slice (some (VJ g 0)) K.cl.length Zs/\a<m.kl.length/\(m.kl[c]?.bind (·.above)).getD 0=u):=⟨hk,hv,hal,hup⟩
   obtain⟨na,hna⟩:∃x,x=m.tot a:=Vx;obtain⟨nc,hnc⟩:∃x,x=m.tot c:=Vx;obtain⟨nu,lE⟩:∃x,x=m.tot u:=Vx;rw[<- hna]at hsa ta hdr;rw[<- hnc]at hsc tc Ao o1;rw[<- lE]at hdr Ao o1
   have HT:Hid (na=m.tot a/\nu=m.tot u):=⟨hna,lE⟩
   clear hnc
   obtain⟨ow,rfl⟩:∃ow,nc=nu+ow:=⟨nc-nu,VH⟩
   have e2:(((nu+ow:Nat):Int)-(nu:Nat))=(ow:Nat):=VH;rw[e2]at o1;rw[XK]at hsc;clear e2;have HD:Hid _:=hdr;have HO:Hid _:=hok;clear h hat hk hdr hok hna lE hD hab hup hu hown htk hy hul hv;go_enter func61,ntmps61;go_wp2_with fail;refine h1.mono ?_;refine Sl ?_;go_wp2_with fail;refine h2.mono ?_;refine Sl ?_;go_wp2_with fail
   go_loopg [9] (m.kl.length+1) (λgk cv wr=>∃d:Option Nat,cv=VI (Qh d)/\(∀x,d=some x->x<m.kl.length)/\m.under c gk d=m.under c (m.kl.length+1) (some a)/\(∀x,d=some x->rk x<gk)/\wr=w)
   case atStart=>exact⟨some a,rfl,λx e=>by injection e with e;subst e;exact HX.o.2.2.1,rfl,λx _=>agw,rfl⟩
   case round=>
    obtain⟨d,rfl,hd,hun,Pc,rfl⟩:=hrel
    cases d with
    | none=>
     have hfn:m.under c (m.kl.length+1) (some a)=false:=by rw[<- hun];cases gk<;>rfl
     have hD:=HD.o;rw[ZX (by rw[hfn];simp)]at hD;simp only[Qh];clear hun Pc hd hfn HD;by_cases hne:na=nu
     . rw[ZX (by simp[hne])]at hD;have RT:=UQ hD.symm;subst hne;have hwr:IntKind.i64.wrap ((na:Int)+(ow:Int))=(na:Int)+(ow:Int):=Ar;clear hD;go_wp2_with fail;refine ai8 ?_;intro hHeld Y_ Z_;rintro e w3 ⟨rfl,rfl⟩
       try go_wp2_with fail
       refine Z_.go λhHeld=>?_;clear Z_ Y_;refine La ?_;refine Ul 14 λY_ Z_=>?_;go_simp;refine hsc.mono ?_;rintro e w3 ⟨rfl,rfl⟩
       try go_wp2_with fail
       refine Z_.go λhHeld=>?_;clear Z_ Y_
       try refine UE ?_
       refine Ur 15 ?_;refine Nr ?_
       try simp only[hwr]
       go_wp2
       go_ret
       have i_:=HO.o;rw[RT.o]at i_ ⊢;obtain⟨K',hst,hf,he⟩:=HH.o.akw HX.o.1 HX.o.2.2.1 VH (by rw[HX.o.2.2.2,<- HT.o.1,<- HT.o.2]) i_ HX.o.2.1;exact⟨rfl,K',hst.trans (Vu.below hst.rk (ZR _ _).drew),hf,he⟩
     . rw[ZU (by simp[hne])]at hD;subst hD;have hwr:IntKind.i64.wrap ((na:Int)+(ow:Int))=(na:Int)+(ow:Int):=Ar;have ya:¬(na:Int)+(ow:Int)=(nu:Int)+(ow:Int):=VH;go_wp2_with fail;refine ai8 ?_;intro hHeld Y_ Z_;rintro e w3 ⟨rfl,rfl⟩
       try go_wp2_with fail
       refine Z_.go λhHeld=>?_;clear Z_ Y_;refine La ?_;refine Ul 14 λY_ Z_=>?_;go_simp;refine hsc.mono ?_;rintro e w3 ⟨rfl,rfl⟩
       try go_wp2_with fail
       refine Z_.go λhHeld=>?_;clear Z_ Y_
       try refine UE ?_
       refine Ur 15 ?_;refine Nr ?_
       try simp only[hwr]
       go_wp2
       go_ret
       exact⟨rfl,SG.below HH.o (ZR _ _).drew⟩
    | some x=>
     have hx:=hd x rfl
     obtain⟨gj,rfl⟩:∃gj,gk=gj+1:=⟨gk-1,by have:=Pc x rfl;omega⟩
     obtain⟨kx,Bi⟩:∃kx,m.kl[x]?=some kx:=⟨_,Z8 hx⟩
     obtain⟨yx,hyx⟩:∃yx,K.cl[x]?=some yx:=⟨_,Z8 (by rw[HL.o];exact hx)⟩
     have d1:=vR.o.1.c1 x yx hyx;have hab:=(vR.o.2.1.rel x kx yx Bi hyx).2.1;rw[hab]at d1
     have hu:m.under c (gj+1) (some x)=(decide (x=c)||m.under c gj kx.above):=by
      show (decide (x=c)||m.under c gj (m.kl[x]?.bind (·.above)))=_;rw[Bi];rfl
     rw[hu]at hun;have hxi:(x:Int)<(K.cl.length:Int):=by rw[HL.o];omega
     have HK:Hid (m.kl[x]?=some kx/\rk x<gj+1):=⟨Bi,Pc x rfl⟩
     simp only[Qh];clear hd Pc Bi hyx hab hu;by_cases fN:x=c
     . subst fN;have hD:=HD.o;rw[ZU (by rw[<- hun];simp)]at hD;subst hD;clear hun;go_wp2
       go_ret
       exact O5
     . have aqh:¬(x:Int)=(c:Int):=by omega
       have HU:Hid (m.under c gj kx.above=m.under c (m.kl.length+1) (some a)):=by
        have hx1:m.under c gj kx.above=m.under c (m.kl.length+1) (some a):=by rw[<- hun,XQ fN];rfl
        exact hx1
       clear hun;go_wp2
       go_roundg gj
       case measure=>omega
       case rel=>
        refine⟨kx.above,?_,λu hu=>?_,HU.o,λu hu=>?_,?_⟩
        . cases kx.above<;>rfl
        . by_cases h0:x=0
          . obtain⟨ms,hm0⟩:=vR.o.2.2.any;have:=HK.o.1;rw[h0,hm0]at this;injection this with this;rw[<- this]at hu;cases hu
          . obtain⟨a',ha',hal,_⟩:=vR.o.2.2.up x kx HK.o.1 h0;rw[hu]at ha';exact acv
        . have:=hr2 x kx u HK.o.1 hu;have:=HK.o.2;omega
        . first|rfl|trivial
 . have hr2:r=(2,m):=by
    rw[<- hdr]
    cases hc:m.cls s with
    | none=>rfl
    | some c=>
     cases ha:m.cls t with
     | none=>rfl
     | some a=>
      have:=Nat.not_le.1 λe=>hbad ⟨c,a,hc,ha,e⟩;simp only;rw[ZU this]
   subst hr2
   have hcc:Qh (m.cls s)<2\/Qh (m.cls t)<0:=by
    cases hc:m.cls s with
    | none=>left;simp[Qh]
    | some c=>
     cases ha:m.cls t with
     | none=>right;simp[Qh]
     | some a=>
      have:=Nat.not_le.1 λe=>hbad ⟨c,a,hc,ha,e⟩;left;simp only[Qh];omega
   obtain⟨n1,Z1⟩:∃x,x=Qh (m.cls s):=Vx;obtain⟨n2,W7⟩:∃x,x=Qh (m.cls t):=Vx;rw[<- Z1]at h1 hcc;rw[<- W7]at h2 hcc;clear h hok hdr hbad Z1 W7;by_cases hlt2:n1<2
   . go_enter func61,ntmps61;go_wp2_with fail;refine h1.mono ?_;rintro e w' ⟨rfl,rfl⟩;go_wp2_with fail;refine h2.mono ?_;rintro e w' ⟨rfl,rfl⟩;go_wp2
     go_ret
     exact O5
   . have hlt3:=hcc.resolve_left hlt2;go_enter func61,ntmps61;go_wp2_with fail;refine h1.mono ?_;rintro e w' ⟨rfl,rfl⟩;go_wp2_with fail;refine h2.mono ?_;rintro e w' ⟨rfl,rfl⟩;go_wp2
     go_ret
     exact O5
def ae5 {K:U0}(h:RK w m K)(s sel src:ByteArray)(hs1:sel.size<=maxLen)(hs2:src.size<=maxLen):
 Calls prog 59 #[VG K.b,.string s,.string sel,.string src] w λe w'=>∃(r a:Int) (m':Im),e=.returned (.tuple #[VI r,VI a])/\Ua m s sel src r a m'/\SG w m K m' w':=by
 have h1:=h.class s;have HH:Hid _:=h
 cases hc:m.cls s with
 | none=>
  rw[hc]at h1;simp only[Qh]at h1
  have HM:Hid (Ua m s sel src 2 0 m):=by
   have hx1:Ua m s sel src 2 0 m:=by unfold Ua;rw[hc];exact vg
   exact hx1
  clear h;go_enter func59,ntmps59;go_wp2_with fail;refine h1.mono ?_;rintro e w' ⟨rfl,rfl⟩;go_wp2
  go_ret2
  exact⟨2,0,m,rfl,HM.o,SG.refl HH.o⟩
 | some c=>
  rw[hc]at h1;simp only[Qh]at h1;obtain⟨k,hk,_⟩:=RJ hc;have hcl:=Cm hc;have hn:=JJ h.ok c;obtain⟨n,hnn⟩:∃n,n=m.tot c:=Vx;rw[<- hnn]at hn
  have HN:Hid (n=m.tot c/\m.kl[c]?=some k/\c<m.kl.length):=⟨hnn,hk,hcl⟩
  have HM:Hid (∀r a,Ti (bl sel) (bl src) n r a->Ua m s sel src r a (if r=0 then m.UY c (·.put ⟨sel,(Vh (bl src)).1⟩) else m)):=by
   have hx1:∀r a,Ti (bl sel) (bl src) n r a->Ua m s sel src r a (if r=0 then m.UY c (·.put ⟨sel,(Vh (bl src)).1⟩) else m):=λr a hr=>by
    unfold Ua;rw[hc];exact⟨by rw[<- hnn];exact hr,rfl⟩
   exact hx1
  clear h hk hnn hcl;go_enter func59,ntmps59;go_wp2_with fail;refine h1.mono ?_;refine Sl ?_;go_wp2_with fail;refine(Pj sel _ hs1).mono ?_;refine Sl ?_;cases U_:selector (bl sel)
  . go_wp2
    go_ret2
    exact⟨1,0,m,rfl,HM.o 1 0 (.inl ⟨U_,rfl,rfl⟩),SG.refl HH.o⟩
  . by_cases Rc:120<src.size
    . go_wp2_with fail;refine(oC src _ Rc hs2).mono ?_;rintro e w' ⟨rfl,rfl⟩;go_wp2
      go_ret2
      exact⟨5,0,m,rfl,HM.o 5 0 (.inr (.inl ⟨U_,by rw[VB];exact Rc,rfl,rfl⟩)),SG.refl HH.o⟩
    . go_wp2_with fail;refine(dW src _ VH).mono ?_;rintro e w1 ⟨v,rfl,hown,hb1⟩;have SM:Hid _:=hb1;rcases zK (bl src) with hw|⟨j,hj,hw⟩
      . rw[hw];have hlts:=(hown hw).lt;obtain⟨p,g,cap,rfl,hat⟩:=acL (hown hw)
        have HG:Hid (1<=(Vh (bl src)).1.length->w.heap.size<=g/\g<w1.heap.size):=by
         have hx1:1<=(Vh (bl src)).1.length->w.heap.size<=g/\g<w1.heap.size:=λe=>hlts g (by rw[hat.head e];rfl);exact hx1
        clear hlts;have HW:Hid _:=hat;have nr:Hid _:=hw;have hwl:=Ic (bl src);have zg:=UQ (Jb (bl src));have fS:=UQ ((by omega:src.size<=120));clear hw hat hown hb1 Rc;obtain⟨ws,hws⟩:∃ws,(Vh (bl src)).1=ws:=Vx;have Al:Hid _:=hws;rw[hws]at HW hwl zg HG;rw[hws];clear hws;obtain⟨q3,q8,Pd,qa⟩:=Nu U_;have hst:=Vu.still HH.o SM.o (λk=>k=g/\1<=ws.length) (λk e=>by rw[e.1];exact HG.o e.2);obtain⟨K1,Sp⟩:∃K1:U0,K1={K with lab:=λk=>if k=g/\1<=ws.length then .still else K.lab k}:=Vx;rw[<- Sp]at hst
        have HS:Hid (Vu w w1 m K m K1/\K1.fu=K.fu/\K1.en=K.en/\K1.b=K.b/\(1<=ws.length->K1.Q g)):=by
         have hx1:Vu w w1 m K m K1/\K1.fu=K.fu/\K1.en=K.en/\K1.b=K.b/\(1<=ws.length->K1.Q g):=⟨hst,by rw[Sp],by rw[Sp],by rw[Sp],λe=>by rw[Sp];exact ZU ⟨rfl,e⟩⟩
         exact hx1
        have hsl:=hst.rk.slots HN.o.2.2;rw[<- HN.o.1,HS.o.2.2.2.1]at hsl;clear Sp hst;go_wp2_with fail;refine(LC sel _ q8 VH Pd).mono ?_;rintro e w1 ⟨rfl,hw⟩;replace hw:=hw.symm;subst hw;obtain⟨ar,har⟩:∃ar,U6 (bl sel)=ar:=Vx;have jz:Hid _:=har;rw[har]at qa;rw[har];clear har q3 q8 Pd;go_wp2_with fail;refine hsl.mono ?_;rintro e w1 ⟨rfl,hw⟩;replace hw:=hw.symm;subst hw;go_wp2_with fail;refine(fits_any ws p g cap ar n _ hwl qa hn HW.o zg.o).mono ?_;rintro e w1 ⟨er,i,rfl,hfit,hb1⟩;have Jx:=UQ hfit;have z_:=Vu.below HS.o.1.rk hb1
        have FA:Hid (Vu w w1 m K m K1/\RK w1 m K1):=⟨HS.o.1.trans z_,z_.rk⟩
        have nk:=UQ (HW.o.below UM hb1)
        have PB:Hid (∀e' a',((∃j x,i=((j:Nat):Int)/\ws[j]?=some x/\e'=er/\a'=((x.2:Nat):Int))\/(i=-1/\e'=0/\a'=0))->Ti (bl sel) (bl src) n e' a'):=by
         have hx1:∀e' a',((∃j x,i=((j:Nat):Int)/\ws[j]?=some x/\e'=er/\a'=((x.2:Nat):Int))\/(i=-1/\e'=0/\a'=0))->Ti (bl sel) (bl src) n e' a':=λe' a' hh=>
          .inr (.inr (.inr ⟨U_,by rw[VB];exact fS.o,nr.o,er,i,by rw[Al.o,jz.o];exact Jx.o,by rw[Al.o];exact hh⟩))
         exact hx1
        clear z_ hsl;rcases sG hfit with rfl|⟨j,hj,rfl⟩
        . clear hfit hb1;have hput:=abb FA.o.2.ok FA.o.2.im FA.o.2.rel HN.o.2.1 (LD FA.o.2.ok c k HN.o.2.1) ⟨sel,ws⟩ p cap ⟨rfl,p,g,cap,rfl,nk.o,HS.o.2.2.2.2⟩;rw[HS.o.2.2.2.1]at hput;simp only at hput;have Vn:=PB.o 0 0 (.inr ⟨by trivial,rfl,rfl⟩);have hres:=HM.o 0 0 Vn;rw[ZU rfl,Al.o]at hres
          have HO:Hid (U3 (m.UY c (·.put ⟨sel,ws⟩))/\Ua m s sel src 0 0 (m.UY c (·.put ⟨sel,ws⟩))):=⟨(jc HH.o.ok hres).1,hres⟩
          clear Vn hres;go_wp2_with fail;refine hput.mono ?_;rintro e w' ⟨rfl,W2,v,g2,vy,xs,I6,rfl,hb,hown,hrow⟩;obtain⟨K',hs2,hf,he⟩:=FA.o.2.Om HN.o.2.1 (·.put ⟨sel,ws⟩) _ rfl HO.o.1 I6 hb hown hrow
          have HX:Hid (SG w m K (m.UY c (·.put ⟨sel,ws⟩)) (W2.setCell (VJ g2 (c*4+3)) v)):=⟨K',FA.o.1.trans hs2,hf.trans HS.o.2.1,he.trans HS.o.2.2.1⟩
          clear I6 hb hown hrow hs2 hf he hput;go_wp2
          go_ret2
          exact⟨0,0,_,rfl,HO.o.2,HX.o⟩
        . clear hfit hb1
          obtain⟨x,hx⟩:∃x,ws[j]?=some x:=⟨_,Z8 hj⟩
          obtain rfl:p=some (VJ g 0):=nk.o.head VH;have d5:=nk.o.c5 j x hx;have HX:Hid _:=hx;have FE:(j:Int)<(ws.length:Int):=VH;clear hx;go_wp2_with fail
          go_quiet (fail)
          go_wp2
          go_ret2
          have Vn:=PB.o er x.2 alD;have hres:=HM.o er x.2 Vn
          have hne:er≠0:=by
           rcases Jx.o with⟨j',_,ea,_,_,h1,h7⟩|⟨_,h6,_⟩
           . by_cases ha:TJ ws ar j'
             . have:=h1 ha;omega
             . have:=h7 ha;omega
           . omega
          rw[ZX hne]at hres;exact⟨er,x.2,m,rfl,hres,K1,FA.o.1.trans (Vu.below FA.o.2 uq),HS.o.2.1,HS.o.2.2.1⟩
      . rw[hw];clear hown;go_wp2
        go_ret2
        exact⟨5,j,m,rfl,HM.o 5 j (.inr (.inr (.inl ⟨U_,G8,by rw[hw];omega,rfl,by rw[hw]⟩))),SG.below HH.o SM.o⟩
end Go.Proofs.Rz
namespace Go.Proofs.Rz
open ChangeShapes WideShapes ChangeAt RowKit Kn Tryz
def U4 (x:Kn.W×Nat):Array Value:=#[.int .u8 x.1.k,VI x.1.n,.string (VF x.1.sel),.string (VF x.1.a),.string (VF x.1.b),VI (x.2:Nat)]
variable {w : World}
variable {m : Im}
variable {f : Fr}
def Qk {z:Nat}{K:U0}{fb:Nat}{d:RU}(hk:RK w m K)(h:SX z w K fb f d)(o:Obj):Off (w.alloc o) K fb d.sv w.heap.size:=
 ⟨Vy,λe=>by have:=h.lt;omega,λe=>by have:=(h.st.lt _ e).2;omega,hk.QF UM⟩
def U5.refl {z:Nat}{K:U0}{fb:Nat}{d:RU}(hk:RK w m K)(h:SX z w K fb f d):U5 z fb w w m K d.sv f d:=⟨hk,h,Pm.refl _ _ _ _,λp hp=>⟨hp,rfl⟩⟩
variable {w' : World}
def U5.new {z fb:Nat}{K:U0}{sv:Value}{d:RU}(h:U5 z fb w w' m K sv f d)(o:Obj):U5 z fb w (w'.alloc o) m K sv f d:=h.below (UF _ _)
variable {fs : List Fr}
def U5.word {z fb:Nat}{K:U0}{sv:Value}{d:RU}{g:SN}(h:U5 z fb w w' m K sv f d)(hen:K.en=0)(hg:g=.on m K.fu (f::fs)):UZ z fb w K g fs (.returned (.tuple #[])) w':=
 ⟨m,K,rfl,h.rk,h.run,ZN _,.inl ⟨hen,f,d,h.fr,by rw[hg];exact To.refl _⟩⟩
def UW {z:Nat}{K:U0}{fb:Nat}{d:RU}(hk:RK w m K)(h:SX z w K fb f d)(x:Kn.W×Nat):∃W,W=w.alloc (.cells (U4 x) 188)/\U5 z fb w W m K d.sv f d/\Off W K fb d.sv w.heap.size/\W.heap[w.heap.size]?=some (.cells (U4 x) 188):=
 ⟨_,rfl,(U5.refl hk h).new _,Qk hk h _,(Z4 w _).1⟩
def Vp {p:Nat}{a b:Value}{t:TypeId}(h:w.heap[p]?=some (.cells #[a,b] t)):w.cell? (VJ p 0)=some a/\w.cell? (VJ p 1)=some b:=by
 simp only[World.cell?,h];exact KP
def akZ {z:Nat}{K:U0}{fb:Nat}{d:RU}(fs:List Fr)(D:Int)(hk:RK w m K)(hen:K.en=0)(h:SX z w K fb f d)(hs:f.st.length<=900)(n:Int)(sl xa xb:List UInt8)(xi:Nat):
 Calls prog 140 #[VG K.b,VG fb,.agg (U4 (⟨110,n,sl,xa,xb⟩,xi)),VI D] w (UZ z fb w K (VA m K.fu ⟨110,n,sl,xa,xb⟩ f fs) fs):=by
 obtain⟨W,hW,hF,hO,hb⟩:=UW hk h (⟨110,n,sl,xa,xb⟩,xi);change W=w.alloc (.cells #[.int .u8 110,VI n,.string (VF sl),.string (VF xa),.string (VF xb),VI (xi:Nat)] 188) at hW;change Calls _ _ #[VG K.b,VG fb,.agg #[.int .u8 110,VI n,.string (VF sl),.string (VF xa),.string (VF xb),VI (xi:Nat)],VI D] _ _;refine NK ?_;intro HH;have HF:Hid (U5 z fb w W m K d.sv f d/\Off W K fb d.sv w.heap.size/\W.heap[w.heap.size]?=some (.cells (U4 (⟨110,n,sl,xa,xb⟩,xi)) 188)):=SH;have hp:=PK hF.rk hF.fr VH ⟨false,n⟩;unfold Vl.val at hp;clear hk h hF hO hb hen;go_enter func140,ntmps140;go_wp2_with fail;refine kS ?_;rintro e w' ⟨rfl,Hd,hF2⟩;have QP:Hid _:=HF.o.1.trans hF2;clear hF2 hp hW;go_wp2
 go_end0
 exact QP.o.word HH.o.2 rfl
def aeR {z:Nat}{K:U0}{fb:Nat}{d:RU}(fs:List Fr)(D:Int)(hk:RK w m K)(hen:K.en=0)(h:SX z w K fb f d)(hs:f.st.length<=900)(n:Int)(sl xa xb:List UInt8)(xi:Nat):
 Calls prog 140 #[VG K.b,VG fb,.agg (U4 (⟨109,n,sl,xa,xb⟩,xi)),VI D] w (UZ z fb w K (VA m K.fu ⟨109,n,sl,xa,xb⟩ f fs) fs):=by
 obtain⟨W,hW,hF,hO,hb⟩:=UW hk h (⟨109,n,sl,xa,xb⟩,xi);change W=w.alloc (.cells #[.int .u8 109,VI n,.string (VF sl),.string (VF xa),.string (VF xb),VI (xi:Nat)] 188) at hW;change Calls _ _ #[VG K.b,VG fb,.agg #[.int .u8 109,VI n,.string (VF sl),.string (VF xa),.string (VF xb),VI (xi:Nat)],VI D] _ _;refine NK ?_;intro HH;have HF:Hid (U5 z fb w W m K d.sv f d/\Off W K fb d.sv w.heap.size/\W.heap[w.heap.size]?=some (.cells (U4 (⟨109,n,sl,xa,xb⟩,xi)) 188)):=SH;have hp:=PK hF.rk hF.fr VH f.self;unfold Vl.val at hp;have f2:=h.f2;have f2:=h.f3;have hfl:=h.lt;clear hk h hF hO hb hen;go_enter func140,ntmps140;go_wp2_with fail;refine kS ?_;rintro e w' ⟨rfl,Hd,hF2⟩;have QP:Hid _:=HF.o.1.trans hF2;clear hF2 hp hW;go_wp2
 go_end0
 exact QP.o.word HH.o.2 rfl
def akA {z:Nat}{K:U0}{fb:Nat}{d:RU}(fs:List Fr)(D:Int)(hk:RK w m K)(hen:K.en=0)(h:SX z w K fb f d)(hs:f.st.length<=900)(n:Int)(sl xa xb:List UInt8)(xi:Nat)(i:Nat)(hi:n=i)(h3:f.args.length<=3)(v:Vl)(hv:f.args[i]?=some v):
 Calls prog 140 #[VG K.b,VG fb,.agg (U4 (⟨97,n,sl,xa,xb⟩,xi)),VI D] w (UZ z fb w K (VA m K.fu ⟨97,n,sl,xa,xb⟩ f fs) fs):=by
 obtain⟨W,hW,hF,hO,hb⟩:=UW hk h (⟨97,n,sl,xa,xb⟩,xi);change W=w.alloc (.cells #[.int .u8 97,VI n,.string (VF sl),.string (VF xa),.string (VF xb),VI (xi:Nat)] 188) at hW;change Calls _ _ #[VG K.b,VG fb,.agg #[.int .u8 97,VI n,.string (VF sl),.string (VF xa),.string (VF xb),VI (xi:Nat)],VI D] _ _;refine NK ?_;intro HH;have HF:Hid (U5 z fb w W m K d.sv f d/\Off W K fb d.sv w.heap.size/\W.heap[w.heap.size]?=some (.cells (U4 (⟨97,n,sl,xa,xb⟩,xi)) 188)):=SH;have hne:f.args≠[]:=λe=>qN;have hD:=hF.below (ZR _ W).drew;have hp:=PK hD.rk hD.fr VH v;have f4:=hF.fr.f4;have oT:=hF.fr.ga hne;have hzl:=hF.fr.zl;obtain⟨ap,cap,W8,_⟩:=hF.fr.args;have hargs:=hF.fr.args;rw[W8]at hargs f4;obtain⟨o,hap,hget⟩:=KL hargs hne;obtain⟨a0,a1⟩:=hget i v hv;subst hap;have hil:=(Z7.1 hv).1;have aqe:(i:Int)<(f.args.length:Int):=VH;have hal:=ZY oT.2.1 hzl
 have HV:Hid (f.args[i]?=some v/\d.av=.slice (some (VJ d.ab o)) f.args.length cap):=⟨hv,W8⟩
 subst hi;have p1:W.cell? (VJ w.heap.size 1)=some (VI (i:Nat)):=by simp only[World.cell?,hb];rfl
 have HO:Hid (Off W.drew K fb d.sv d.ab/\Off W.drew K fb d.sv w.heap.size/\U5 z fb w W.drew m K d.sv f d):=⟨⟨hal,oT.2.2,λe=>by have:=(hF.fr.gs _ e).2;omega,oT.1⟩,⟨hO.lt,hO.nf,hO.ns,hO.nl⟩,hD⟩
 unfold Vl.val at hp;clear hargs hget oT W8 hil hv hne hD;clear hk h hF hO hb hen;go_enter func140,ntmps140;go_wp2_with fail;rw[<- hW];clear hW;refine Uy ?_;refine ZT (S:=(λw'=>w'.cell? (VJ fb 4)=some (.slice (some (VJ d.ab o)) f.args.length cap)/\w'.cell? (VJ d.ab (o+i*2))=some (.bool v.obj)/\w'.cell? (VJ d.ab (o+i*2+1))=some (VI v.n)/\w'.cell? (VJ w.heap.size 1)=some (VI (i:Nat)))) VE UG (λhHeld=>?_);refine zr1 ?_;refine Uh 7 ?_;refine Ur 8 ?_;refine Ul 9 λY_ Z_=>?_;go_simp;refine hp.mono ?_;rintro e w' ⟨rfl,Hd,hF2⟩;have s4:w'.cell? (VJ fb 4)=some (.slice (some (VJ d.ab o)) f.args.length cap):=hF2.fr.f4.trans (by rw[<- HV.o.2]);have s4:=(Z9 (a:=(VJ d.ab (o+i*2))) (hF2.off _ HO.o.1).2).trans a0;have s4:=(Z9 (a:=(VJ d.ab (o+i*2+1))) (hF2.off _ HO.o.1).2).trans a1;have s4:=(Z9 (a:=(VJ w.heap.size 1)) (hF2.off _ HO.o.2.1).2).trans p1;have QP:Hid _:=HO.o.2.2.trans hF2;clear hF2 hp
 try go_wp2_with fail
 refine Z_.go λhHeld=>?_;clear Z_ Y_;refine Um ?_;go_wp2
 go_end0
 refine QP.o.word HH.o.2 ?_;simp[VA,HV.o.1]
def agN {z:Nat}{K:U0}{fb:Nat}{d:RU}(fs:List Fr)(D:Int)(hk:RK w m K)(hen:K.en=0)(h:SX z w K fb f d)(hs:f.st.length<=900)(n:Int)(sl xa xb:List UInt8)(xi:Nat)(i j:Nat)(o:Ob)(v:Vl)(hi:f.self.n=i)(hj:n=j)(ho:m.obs[i]?=some o)(hv:o.slots[j]?=some v):
 Calls prog 140 #[VG K.b,VG fb,.agg (U4 (⟨103,n,sl,xa,xb⟩,xi)),VI D] w (UZ z fb w K (VA m K.fu ⟨103,n,sl,xa,xb⟩ f fs) fs):=by
 obtain⟨W,hW,hF,hO,hb⟩:=UW hk h (⟨103,n,sl,xa,xb⟩,xi);change W=w.alloc (.cells #[.int .u8 103,VI n,.string (VF sl),.string (VF xa),.string (VF xb),VI (xi:Nat)] 188) at hW;change Calls _ _ #[VG K.b,VG fb,.agg #[.int .u8 103,VI n,.string (VF sl),.string (VF xa),.string (VF xb),VI (xi:Nat)],VI D] _ _;refine NK ?_;intro HH;have HF:Hid (U5 z fb w W m K d.sv f d/\Off W K fb d.sv w.heap.size/\W.heap[w.heap.size]?=some (.cells (U4 (⟨103,n,sl,xa,xb⟩,xi)) 188)):=SH;have hD:=hF.below (ZR _ W).drew;have hp:=PK hD.rk hD.fr VH v;have f3:=hF.fr.f3;rw[hi]at f3;obtain⟨g,cap,hR⟩:=hF.rk.ob_ ho;have hxo:=hk.ok.obj o (ZK ho);have o1:=hR.c1;have c1:=hF.rk.c1;rw[hR.v]at c1;have hil:=(Z7.1 ho).1;have hjl:=(Z7.1 hv).1;refine Jz ?_;intro R6;have tT:(j:Int)<(o.slots.length:Int):=VH;obtain⟨s0,s0⟩:=hR.sc j v hv
 have HV:Hid (f.self.n=i/\m.obs[i]?=some o/\o.slots[j]?=some v/\K.vo=.slice (some (VJ g 0)) m.obs.length cap):=⟨hi,ho,hv,hR.v⟩
 subst hj;have p1:W.cell? (VJ w.heap.size 1)=some (VI (j:Nat)):=by simp only[World.cell?,hb];rfl
 have HO:Hid (Off W.drew K fb d.sv w.heap.size/\U5 z fb w W.drew m K d.sv f d):=⟨⟨hO.lt,hO.nf,hO.ns,hO.nl⟩,hD⟩
 unfold Vl.val at hp;clear hR hxo hil hjl hv ho hi hD;clear hk h hF hO hb hen;go_enter func140,ntmps140;go_wp2_with fail;rw[<- hW];clear hW;refine Uy ?_;refine ZT (S:=(λw'=>w'.cell? (VJ fb 3)=some (VI (i:Nat))/\w'.cell? (VJ K.b 1)=some (.slice (some (VJ g 0)) m.obs.length cap)/\w'.cell? (VJ g (i*2+1))=some (.slice (some (VJ (K.ob i) 0)) o.slots.length o.slots.length)/\w'.cell? (VJ (K.ob i) (j*2))=some (.bool v.obj)/\w'.cell? (VJ (K.ob i) (j*2+1))=some (VI v.n)/\w'.cell? (VJ w.heap.size 1)=some (VI (j:Nat)))) VE UG (λhHeld=>?_);refine KG ?_;refine iO ?_;refine Uh 15 ?_;refine Ur 16 ?_;refine Ul 17 λY_ Z_=>?_;go_simp;refine hp.mono ?_;rintro e w' ⟨rfl,Hd,hF2⟩;obtain⟨g',cap',hR2⟩:=hF2.rk.ob_ HV.o.2.1;have e1:=hR2.v.symm.trans HV.o.2.2.2;simp only[Value.slice.injEq,Y2,Addr.mk.injEq,VK,true_and]at e1;rw[e1.1,e1.2]at hR2
 have q3:w'.cell? (VJ fb 3)=some (VI (i:Nat)):=(by rw[<- HV.o.1];exact hF2.fr.f3)
 have q3:w'.cell? (VJ K.b 1)=some (.slice (some (VJ g 0)) m.obs.length cap):=(by rw[<- HV.o.2.2.2];exact hF2.rk.c1)
 have q3:=hR2.c1;obtain⟨q3,q3⟩:=hR2.sc j v HV.o.2.2.1;have q3:=(Z9 (a:=(VJ w.heap.size 1)) (hF2.off _ HO.o.1).2).trans p1;have QP:Hid _:=HO.o.2.trans hF2;clear hF2 hp hR2
 try go_wp2_with fail
 refine Z_.go λhHeld=>?_;clear Z_ Y_;refine Um ?_;go_wp2
 go_end0
 refine QP.o.word HH.o.2 ?_;simp[VA,HV.o.1,HV.o.2.1,HV.o.2.2.1]
def agu {z:Nat}{K:U0}{fb:Nat}{d:RU}(fs:List Fr)(D:Int)(hk:RK w m K)(hen:K.en=0)(h:SX z w K fb f d)(hs:f.st.length<=900)(n:Int)(sl xa xb:List UInt8)(xi:Nat)(i:Nat)(hi:n=i):
 Calls prog 140 #[VG K.b,VG fb,.agg (U4 (⟨62,n,sl,xa,xb⟩,xi)),VI D] w (UZ z fb w K (VA m K.fu ⟨62,n,sl,xa,xb⟩ f fs) fs):=by
 obtain⟨W,hW,hF,hO,hb⟩:=UW hk h (⟨62,n,sl,xa,xb⟩,xi);change W=w.alloc (.cells #[.int .u8 62,VI n,.string (VF sl),.string (VF xa),.string (VF xb),VI (xi:Nat)] 188) at hW;change Calls _ _ #[VG K.b,VG fb,.agg #[.int .u8 62,VI n,.string (VF sl),.string (VF xa),.string (VF xb),VI (xi:Nat)],VI D] _ _;refine NK ?_;intro HH;have HF:Hid (U5 z fb w W m K d.sv f d/\Off W K fb d.sv w.heap.size/\W.heap[w.heap.size]?=some (.cells (U4 (⟨62,n,sl,xa,xb⟩,xi)) 188)):=SH;have hfl:=h.lt;have f6:=h.f6;have hfz:=h.Vb.free 6;subst hi;have hg:=h.set (f':={f with pc:=i}) (d':=d) hk 6 (VI (i:Nat)) rfl rfl rfl rfl rfl rfl rfl h.st h.gs
 have HG:Hid (U5 z fb w (w.setCell (VJ fb 6) (VI (i:Nat))) m K d.sv {f with pc:=i} d):=by
  have hx1:U5 z fb w (w.setCell (VJ fb 6) (VI (i:Nat))) m K d.sv {f with pc:=i} d:=⟨hg.2,hg.1,Ii akQ,λp hp=>⟨⟨by rw[UN];exact hp.lt,hp.nf,hp.ns,hp.nl⟩,ZW _ _ _ _ (λe=>hp.nf e)⟩⟩
  exact hx1
 clear hg;clear hk h hF hO hb hen;go_enter func140,ntmps140;go_wp2_with fail
 go_end0
 exact(HG.o.new _).word HH.o.2 rfl
def akk {z:Nat}{K:U0}{fb:Nat}{d:RU}(fs:List Fr)(D:Int)(hk:RK w m K)(hen:K.en=0)(v:Vl)(r:List Vl)(h:SX z w K fb {f with st:=v::r} d) (n:Int) (sl xa xb:List UInt8) (xi:Nat) (hr:r.length<=900):
 Calls prog 140 #[VG K.b,VG fb,.agg (U4 (⟨111,n,sl,xa,xb⟩,xi)),VI D] w (UZ z fb w K (VA m K.fu ⟨111,n,sl,xa,xb⟩ {f with st:=v::r} fs) fs):=by
 obtain⟨W,hW,hF,hO,hb⟩:=UW hk h (⟨111,n,sl,xa,xb⟩,xi);change W=w.alloc (.cells #[.int .u8 111,VI n,.string (VF sl),.string (VF xa),.string (VF xb),VI (xi:Nat)] 188) at hW;change Calls _ _ #[VG K.b,VG fb,.agg #[.int .u8 111,VI n,.string (VF sl),.string (VF xa),.string (VF xb),VI (xi:Nat)],VI D] _ _;refine NK ?_;intro HH;have HF:Hid (U5 z fb w W m K d.sv {f with st:=v::r} d/\Off W K fb d.sv w.heap.size/\W.heap[w.heap.size]?=some (.cells (U4 (⟨111,n,sl,xa,xb⟩,xi)) 188)):=SH;have hp:=Hr hF.rk hF.fr VH;unfold Vl.val at hp;clear hk h hF hO hb hen;go_enter func140,ntmps140;go_wp2_with fail;refine kS ?_;rintro e w' ⟨rfl,Hd,hF2⟩;have QP:Hid _:=HF.o.1.trans hF2;clear hF2 hp hW;go_wp2
 go_end0
 exact QP.o.word HH.o.2 rfl
def aaw {z:Nat}{K:U0}{fb:Nat}{d:RU}(fs:List Fr)(D:Int)(hk:RK w m K)(hen:K.en=0){vn:Int}{r:List Vl}(hr:r.length<=900)(h:SX z w K fb {f with st:=⟨true,vn⟩::r} d) (n:Int) (sl xa xb:List UInt8) (xi:Nat):
 Calls prog 140 #[VG K.b,VG fb,.agg (U4 (⟨63,n,sl,xa,xb⟩,xi)),VI D] w (UZ z fb w K (VA m K.fu ⟨63,n,sl,xa,xb⟩ {f with st:=⟨true,vn⟩::r} fs) fs):=by
 refine alq ?_;intro W hF hO hb hW;have HF:Hid (U5 z fb w W m K d.sv {f with st:=⟨true,vn⟩::r} d/\Off W K fb d.sv w.heap.size/\W.heap[w.heap.size]?=some (.cells (U4 (⟨63,n,sl,xa,xb⟩,xi)) 188)):=SH;refine zG ?_;intro hp;clear hk h hF hO hb hen;go_enter func140,ntmps140;go_wp2_with fail;refine EF ?_;intro w1 P' S_;have hoff:=S_.off _ HF.o.2.1;have hpb:=hoff.2.trans HF.o.2.2;have G_:=HF.o.1.trans S_;have HA:Hid _:=G_;have hbl:=G_.rk.Vb.lt;have c4:=G_.rk.c4;have cf:=λo=>G_.rk.Vb.free o;have hE:=G_.rk.end_ 3;have HE:Hid _:=hE;clear hp S_ G_ hW hE hoff hpb;go_wp2_with fail
 go_end0
 have hs2:=Vu.below HE.o.rk (UF _ (.cells #[.bool true,VI vn] 79));exact⟨m,_,rfl,hs2.rk,(HA.o.run.trans (HE.o.run z fb)).trans (hs2.run z fb),ZN _,.inr ⟨by show (3:Int)≠0;omega,by simp only[VA];exact To.refl _⟩⟩
def nS {z:Nat}{K:U0}{fb:Nat}{d:RU}(fs:List Fr)(D:Int)(hk:RK w m K)(hen:K.en=0){vn:Int}(hv:¬vn=0){r:List Vl}(hr:r.length<=900)(h:SX z w K fb {f with st:=⟨false,vn⟩::r} d) (n:Int) (sl xa xb:List UInt8) (xi:Nat):
 Calls prog 140 #[VG K.b,VG fb,.agg (U4 (⟨63,n,sl,xa,xb⟩,xi)),VI D] w (UZ z fb w K (VA m K.fu ⟨63,n,sl,xa,xb⟩ {f with st:=⟨false,vn⟩::r} fs) fs):=by
 refine alq ?_;intro W hF hO hb hW;refine NK ?_;intro HH;have HF:Hid (U5 z fb w W m K d.sv {f with st:=⟨false,vn⟩::r} d/\Off W K fb d.sv w.heap.size/\W.heap[w.heap.size]?=some (.cells (U4 (⟨63,n,sl,xa,xb⟩,xi)) 188)):=SH;refine zG ?_;intro hp;clear hk h hF hO hb hen;go_enter func140,ntmps140;go_wp2_with fail;refine EF ?_;intro w1 P' S_;have hoff:=S_.off _ HF.o.2.1;have hpb:=hoff.2.trans HF.o.2.2;have G_:=HF.o.1.trans S_;have HA:Hid _:=G_;have T':¬w.heap.size=fb:=hoff.1.nf;clear hp S_ G_ hW hoff hpb;go_wp2_with fail
 go_end0
 refine(HA.o.new _).word HH.o.2 ?_;simp[VA,hv]
def lM {z:Nat}{K:U0}{fb:Nat}{d:RU}(fs:List Fr)(D:Int)(hk:RK w m K)(hen:K.en=0){r:List Vl}(hr:r.length<=900)(h:SX z w K fb {f with st:=⟨false,0⟩::r} d) (n:Int) (sl xa xb:List UInt8) (xi:Nat) (i:Nat) (hi:n=i):
 Calls prog 140 #[VG K.b,VG fb,.agg (U4 (⟨63,n,sl,xa,xb⟩,xi)),VI D] w (UZ z fb w K (VA m K.fu ⟨63,n,sl,xa,xb⟩ {f with st:=⟨false,0⟩::r} fs) fs):=by
 refine alq ?_;intro W hF hO hb hW;refine NK ?_;intro HH;have HF:Hid (U5 z fb w W m K d.sv {f with st:=⟨false,0⟩::r} d/\Off W K fb d.sv w.heap.size/\W.heap[w.heap.size]?=some (.cells (U4 (⟨63,n,sl,xa,xb⟩,xi)) 188)):=SH;subst hi;refine zG ?_;intro hp;clear hk h hF hO hb hen;go_enter func140,ntmps140;go_wp2_with fail;refine EF ?_;intro w1 P' S_;have hoff:=S_.off _ HF.o.2.1;have hpb:=hoff.2.trans HF.o.2.2;have hpl:=hoff.1.lt;have p1:w1.cell? (VJ w.heap.size 1)=some (VI (i:Nat)):=by simp only[World.cell?,hpb];rfl
 have G_:=HF.o.1.trans S_;have HA:Hid _:=G_;have hfl:=G_.fr.lt;have f6:=G_.fr.f6;have hfz:=G_.fr.Vb.free 6;have hg:=G_.fr.set (f':={f with st:=r,pc:=i}) (d':={d with sv:=P'}) G_.rk 6 (VI (i:Nat)) rfl rfl rfl rfl rfl rfl rfl G_.fr.st G_.fr.gs
 have HG:Hid (U5 z fb w1 (w1.setCell (VJ fb 6) (VI (i:Nat))) m K P' {f with st:=r,pc:=i} {d with sv:=P'}):=by
  have hx1:U5 z fb w1 (w1.setCell (VJ fb 6) (VI (i:Nat))) m K P' {f with st:=r,pc:=i} {d with sv:=P'}:=⟨hg.2,hg.1,Ii ((Vt.refl w1 _).setCell _ _ Dx),λp hp=>⟨⟨by rw[UN];exact hp.lt,hp.nf,hp.ns,hp.nl⟩,ZW _ _ _ _ (λe=>hp.nf e)⟩⟩
  exact hx1
 clear hp S_ G_ hW hoff hpb hg;go_wp2_with fail
 go_end0
 refine((HA.o.trans HG.o).new _).word HH.o.2 ?_;simp[VA]
def abR {z:Nat}{K:U0}{fb:Nat}{d:RU}(fs:List Fr)(D:Int)(hk:RK w m K)(hen:K.en=0){v:Vl}{r:List Vl}(hr:r.length<=900)(h:SX z w K fb {f with st:=v::r} d) (n:Int) (sl xa xb:List UInt8) (xi:Nat) (i j:Nat) (o:Ob) (hi:f.self.n=i) (hj:n=j) (ho:m.obs[i]?=some o) (hjl:j<o.slots.length) (hm:U3 {m with obs:=m.obs.modify i (λo=>{o with slots:=o.slots.set j v})}):
 Calls prog 140 #[VG K.b,VG fb,.agg (U4 (⟨112,n,sl,xa,xb⟩,xi)),VI D] w (UZ z fb w K (VA m K.fu ⟨112,n,sl,xa,xb⟩ {f with st:=v::r} fs) fs):=by
 obtain⟨W,hW,hF,hO,hb⟩:=UW hk h (⟨112,n,sl,xa,xb⟩,xi);change W=w.alloc (.cells #[.int .u8 112,VI n,.string (VF sl),.string (VF xa),.string (VF xb),VI (xi:Nat)] 188) at hW;change Calls _ _ #[VG K.b,VG fb,.agg #[.int .u8 112,VI n,.string (VF sl),.string (VF xa),.string (VF xb),VI (xi:Nat)],VI D] _ _;refine NK ?_;intro HH;have HF:Hid (U5 z fb w W m K d.sv {f with st:=v::r} d/\Off W K fb d.sv w.heap.size/\W.heap[w.heap.size]?=some (.cells (U4 (⟨112,n,sl,xa,xb⟩,xi)) 188)):=SH;subst hj;refine zG ?_;intro hp;clear hk h hF hO hb hen;go_enter func140,ntmps140;go_wp2_with fail;refine EF ?_;intro w1 P' S_;refine ahY ?_;intro G_ ho1 k_
 have hoff:=(S_.off _ HF.o.2.1)
 have hpb:=(ZV w1 (.cells #[.bool v.obj,VI v.n] 79) _ hoff.1.lt).trans (hoff.2.trans HF.o.2.2);obtain⟨W2,hW2⟩:∃W2,W2=w1.alloc (.cells #[.bool v.obj,VI v.n] 79):=Vx;rw[<- hW2]at G_ ho1 k_ hpb;have p1:W2.cell? (VJ w.heap.size 1)=some (VI (j:Nat)):=by simp only[World.cell?,hpb];rfl
 have v0:=(Vp k_).1;have v0:=(Vp k_).2;have f3:=G_.fr.f3;rw[hi]at f3;obtain⟨g,cap,hR⟩:=G_.rk.ob_ ho;have hxo:=G_.rk.ok.obj o (ZK ho);have o1:=hR.c1;have c1:=G_.rk.c1;rw[hR.v]at c1;have hil:=(Z7.1 ho).1;refine Jz ?_;intro R6;have tT:(j:Int)<(o.slots.length:Int):=VH;have sf:=λo=>hR.s.free o
 obtain⟨v',hv'⟩:∃v',o.slots[j]?=some v':=⟨_,Z8 hjl⟩
 obtain⟨s0,s0⟩:=hR.sc j v' hv';have hlab:=(G_.rk.slot i o ho).2;have n1:¬K.ob i=K.b:=λe=>by rw[e,G_.rk.lh]at hlab;cases hlab
 have n1:¬K.ob i=g:=λe=>by rw[e,G_.rk.lo g (by rw[hR.v];rfl)]at hlab;cases hlab
 have n1:¬K.ob i=fb:=λe=>by rw[e,G_.fr.gf.1]at hlab;cases hlab
 have n1:¬K.ob i=w.heap.size:=λe=>by rw[e,HF.o.2.1.nl]at hlab;cases hlab
 have n1:¬K.ob i=w1.heap.size:=λe=>by rw[e,ho1.nl]at hlab;cases hlab
 have hst:=G_.rk.store ho hjl v hm
 have HS:Hid (Vu W2 ((W2.setCell (VJ (K.ob i) (j*2)) (.bool v.obj)).setCell (VJ (K.ob i) (j*2+1)) (VI v.n)) m K {m with obs:=m.obs.modify i (λo=>{o with slots:=o.slots.set j v})} K/\U5 z fb w W2 m K d.sv {f with st:=r} {d with sv:=P'}):=⟨hst,G_⟩
 have HV:Hid _:=hi;clear hp S_ G_ hW hoff hpb hR hxo hil ho hv' hst hm hjl hi hlab ho1 k_;go_wp2_with fail;rw[<- hW2];clear hW2;refine Uy ?_;refine ZT (S:=(λw'=>w'.cell? (VJ K.b 1)=some (.slice (some (VJ g 0)) m.obs.length cap)/\w'.cell? (VJ g (i*2+1))=some (.slice (some (VJ (K.ob i) 0)) o.slots.length o.slots.length)/\w'.cell? (VJ fb 3)=some (VI (i:Nat))/\w'.cell? (VJ w.heap.size 1)=some (VI (j:Nat))/\w'.cell? (VJ w1.heap.size 0)=some (.bool v.obj)/\w'.cell? (VJ w1.heap.size 1)=some (VI v.n))) VE UG (λhHeld=>?_);refine KG ?_;refine iO ?_;refine Ur 15 ?_;refine Ul 16 λY_ Z_=>?_;refine Vg ?_;intro hHeld;clear Z_ Y_;refine Um ?_
 go_end0
 have hx:=HS.o.1.trans (Vu.below HS.o.1.rk (ZR _ _).drew);exact⟨_,K,rfl,hx.rk,HS.o.2.run.trans (hx.run z fb),ZN _,.inl ⟨HH.o.2,{f with st:=r},_,HS.o.2.fr.step hx,by simp only[VA,HV.o];exact To.refl _⟩⟩
def UZ.pre {z fb:Nat}{w W w':World}{K:U0}{g:SN}{e:Ending}(h:Pm z fb w W K K)(h2:UZ z fb W K g fs e w'):UZ z fb w K g fs e w':=by
 obtain⟨m',K',e1,h3,h4,h5,h6⟩:=h2;exact⟨m',K',e1,h3,h.trans h4,h5,h6⟩
def J4 {z:Nat}{K:U0}{fb:Nat}{d:RU}(fs:List Fr)(hk:RK w m K)(hen:K.en=0){k:Nat}(hkk:k=43\/k=45\/k=42\/k=60){bo:Bool}{an bn:Int}{r:List Vl}(hr:r.length<=900)(h:SX z w K fb {f with st:=⟨bo,bn⟩::⟨true,an⟩::r} d) (n:Int) (sl xa xb:List UInt8) (xi:Nat):
 Calls prog 152 #[VG K.b,VG fb,.agg (U4 (⟨k,n,sl,xa,xb⟩,xi))] w (UZ z fb w K (VA m K.fu ⟨k,n,sl,xa,xb⟩ {f with st:=⟨bo,bn⟩::⟨true,an⟩::r} fs) fs):=by
 refine ahE ?_;intro W hF hO hb hW;have HF:Hid (U5 z fb w W m K d.sv {f with st:=⟨bo,bn⟩::⟨true,an⟩::r} d/\Off W K fb d.sv w.heap.size/\W.heap[w.heap.size]?=some (.cells (U4 (⟨k,n,sl,xa,xb⟩,xi)) 188)):=SH;refine qG ?_;intro hp;clear hk h hF hO hb hen;go_enter func152,ntmps152;go_wp2_with fail;refine EF ?_;intro w1 P' S_;refine ajK ?_;intro G_ ho1 k_;have hx1:=(S_.below (UF _ (.cells #[.bool bo,VI bn] 79))).off _ HF.o.2.1;obtain⟨W2,hW2⟩:∃W2,W2=w1.alloc (.cells #[.bool bo,VI bn] 79):=Vx;rw[<- hW2]at G_ ho1 k_ hx1;refine ni ?_;intro hp2 HA HO HX;clear hp S_ G_ ho1 hW hx1;go_wp2_with fail;refine alO ?_;intro w1 P' S_ Z6 hk2;refine ahJ ?_;intro hpb pk HQ k4 kf hbl HE;clear hp2 S_ Z6 hW2 hk2 k_ hpb;go_wp2_with fail
 go_end0
 have hs2:=Vu.below HE.o.rk (UF _ (.cells #[.bool true,VI an] 79));exact amk
def Kz {z:Nat}{K:U0}{fb:Nat}{d:RU}(fs:List Fr)(hk:RK w m K)(hen:K.en=0){k:Nat}(hkk:k=43\/k=45\/k=42\/k=60){an bn:Int}{r:List Vl}(hr:r.length<=900)(h:SX z w K fb {f with st:=⟨true,bn⟩::⟨false,an⟩::r} d) (n:Int) (sl xa xb:List UInt8) (xi:Nat):
 Calls prog 152 #[VG K.b,VG fb,.agg (U4 (⟨k,n,sl,xa,xb⟩,xi))] w (UZ z fb w K (VA m K.fu ⟨k,n,sl,xa,xb⟩ {f with st:=⟨true,bn⟩::⟨false,an⟩::r} fs) fs):=by
 refine ahE ?_;intro W hF hO hb hW;have HF:Hid (U5 z fb w W m K d.sv {f with st:=⟨true,bn⟩::⟨false,an⟩::r} d/\Off W K fb d.sv w.heap.size/\W.heap[w.heap.size]?=some (.cells (U4 (⟨k,n,sl,xa,xb⟩,xi)) 188)):=SH;refine qG ?_;intro hp;clear hk h hF hO hb hen;go_enter func152,ntmps152;go_wp2_with fail;refine EF ?_;intro w1 P' S_;have G_:=(HF.o.1.trans S_).new (.cells #[.bool true,VI bn] 79);have ho1:=Qk S_.rk S_.fr (.cells #[.bool true,VI bn] 79);have k_:(w1.alloc (.cells #[.bool true,VI bn] 79)).heap[w1.heap.size]?=some (.cells #[.bool true,VI bn] 79):=(Z4 w1 _).1;have hx1:=(S_.below (UF _ (.cells #[.bool true,VI bn] 79))).off _ HF.o.2.1;obtain⟨W2,hW2⟩:∃W2,W2=w1.alloc (.cells #[.bool true,VI bn] 79):=Vx;rw[<- hW2]at G_ ho1 k_ hx1;refine ni ?_;intro hp2 HA HO HX;clear hp S_ G_ ho1 hW hx1;go_wp2_with fail;refine alO ?_;intro w1 P' S_ Z6 hk2;have c0:=(Vp hk2).1;have hl2:=(S_.off _ HO.o).1.lt;refine ahJ ?_;intro hpb pk HQ k4 kf hbl HE;clear hp2 S_ Z6 hW2 hk2 k_ hpb;go_wp2_with fail
 go_end0
 have hs2:=Vu.below HE.o.rk (UF _ (.cells #[.bool false,VI an] 79));exact amk
def adT {z:Nat}{K:U0}{fb:Nat}{d:RU}(fs:List Fr)(hk:RK w m K)(hen:K.en=0)  {an bn:Int}{r:List Vl}(hr:r.length<=900)(h:SX z w K fb {f with st:=⟨false,bn⟩::⟨false,an⟩::r} d) (n:Int) (sl xa xb:List UInt8) (xi:Nat):
 Calls prog 152 #[VG K.b,VG fb,.agg (U4 (⟨43,n,sl,xa,xb⟩,xi))] w (UZ z fb w K (VA m K.fu ⟨43,n,sl,xa,xb⟩ {f with st:=⟨false,bn⟩::⟨false,an⟩::r} fs) fs):=by
 obtain⟨W,hW,hF,hO,hb⟩:=UW hk h (⟨43,n,sl,xa,xb⟩,xi);change W=w.alloc (.cells #[.int .u8 43,VI n,.string (VF sl),.string (VF xa),.string (VF xb),VI (xi:Nat)] 188) at hW;change Calls _ _ #[VG K.b,VG fb,.agg #[.int .u8 43,VI n,.string (VF sl),.string (VF xa),.string (VF xb),VI (xi:Nat)]] _ _;refine NK ?_;intro HH;have HF:Hid (U5 z fb w W m K d.sv {f with st:=⟨false,bn⟩::⟨false,an⟩::r} d/\Off W K fb d.sv w.heap.size/\W.heap[w.heap.size]?=some (.cells (U4 (⟨43,n,sl,xa,xb⟩,xi)) 188)):=SH;refine qG ?_;intro hp;clear hk h hF hO hb hen;go_enter func152,ntmps152;go_wp2_with fail;refine abN ?_;intro w1 P' S_ G_ ho1 k_ hx1;obtain⟨W2,hW2⟩:∃W2,W2=w1.alloc (.cells #[.bool false,VI bn] 79):=Vx;rw[<- hW2]at G_ ho1 k_ hx1;refine ni ?_;intro hp2 HA HO HX;clear hp S_ G_ ho1 hW hx1;go_wp2_with fail;refine AU ?_;intro w1 P' S_ Z6 hk2 _ c0;refine afA ?_;intro hl2 hpb hpl;have pk:w1.cell? (VJ w.heap.size 0)=some (.int .u8 43):=by simp only[World.cell?,hpb];rfl
 have Vi:=Z6.new (.cells #[.bool false,VI an] 79);have Wf:=PK Vi.rk Vi.fr Ei ⟨false,Go.RowKit.wrap64 (an+bn)⟩;have HB:Hid _:=Vi;unfold Vl.val at Wf;clear hp2 S_ Z6 hW2 hk2 k_ Vi hpb;go_wp2_with fail;refine wM ?_;intro w1 P' S_ HC;clear Wf S_;go_wp2
 go_end0
 exact abq
def abE {z:Nat}{K:U0}{fb:Nat}{d:RU}(fs:List Fr)(hk:RK w m K)(hen:K.en=0)  {an bn:Int}{r:List Vl}(hr:r.length<=900)(h:SX z w K fb {f with st:=⟨false,bn⟩::⟨false,an⟩::r} d) (n:Int) (sl xa xb:List UInt8) (xi:Nat):
 Calls prog 152 #[VG K.b,VG fb,.agg (U4 (⟨45,n,sl,xa,xb⟩,xi))] w (UZ z fb w K (VA m K.fu ⟨45,n,sl,xa,xb⟩ {f with st:=⟨false,bn⟩::⟨false,an⟩::r} fs) fs):=by
 obtain⟨W,hW,hF,hO,hb⟩:=UW hk h (⟨45,n,sl,xa,xb⟩,xi);change W=w.alloc (.cells #[.int .u8 45,VI n,.string (VF sl),.string (VF xa),.string (VF xb),VI (xi:Nat)] 188) at hW;change Calls _ _ #[VG K.b,VG fb,.agg #[.int .u8 45,VI n,.string (VF sl),.string (VF xa),.string (VF xb),VI (xi:Nat)]] _ _;refine NK ?_;intro HH;have HF:Hid (U5 z fb w W m K d.sv {f with st:=⟨false,bn⟩::⟨false,an⟩::r} d/\Off W K fb d.sv w.heap.size/\W.heap[w.heap.size]?=some (.cells (U4 (⟨45,n,sl,xa,xb⟩,xi)) 188)):=SH;refine qG ?_;intro hp;clear hk h hF hO hb hen;go_enter func152,ntmps152;go_wp2_with fail;refine abN ?_;intro w1 P' S_ G_ ho1 k_ hx1;obtain⟨W2,hW2⟩:∃W2,W2=w1.alloc (.cells #[.bool false,VI bn] 79):=Vx;rw[<- hW2]at G_ ho1 k_ hx1;refine ni ?_;intro hp2 HA HO HX;clear hp S_ G_ ho1 hW hx1;go_wp2_with fail;refine AU ?_;intro w1 P' S_ Z6 hk2 _ c0;refine afA ?_;intro hl2 hpb hpl;have pk:w1.cell? (VJ w.heap.size 0)=some (.int .u8 45):=by simp only[World.cell?,hpb];rfl
 have Vi:=Z6.new (.cells #[.bool false,VI an] 79);have Wf:=PK Vi.rk Vi.fr Ei ⟨false,Go.RowKit.wrap64 (an-bn)⟩;have HB:Hid _:=Vi;unfold Vl.val at Wf;clear hp2 S_ Z6 hW2 hk2 k_ Vi hpb;go_wp2_with fail;refine wM ?_;intro w1 P' S_ HC;clear Wf S_;go_wp2
 go_end0
 exact abq
def ab3 {z:Nat}{K:U0}{fb:Nat}{d:RU}(fs:List Fr)(hk:RK w m K)(hen:K.en=0)  {an bn:Int}{r:List Vl}(hr:r.length<=900)(h:SX z w K fb {f with st:=⟨false,bn⟩::⟨false,an⟩::r} d) (n:Int) (sl xa xb:List UInt8) (xi:Nat):
 Calls prog 152 #[VG K.b,VG fb,.agg (U4 (⟨42,n,sl,xa,xb⟩,xi))] w (UZ z fb w K (VA m K.fu ⟨42,n,sl,xa,xb⟩ {f with st:=⟨false,bn⟩::⟨false,an⟩::r} fs) fs):=by
 obtain⟨W,hW,hF,hO,hb⟩:=UW hk h (⟨42,n,sl,xa,xb⟩,xi);change W=w.alloc (.cells #[.int .u8 42,VI n,.string (VF sl),.string (VF xa),.string (VF xb),VI (xi:Nat)] 188) at hW;change Calls _ _ #[VG K.b,VG fb,.agg #[.int .u8 42,VI n,.string (VF sl),.string (VF xa),.string (VF xb),VI (xi:Nat)]] _ _;refine NK ?_;intro HH;have HF:Hid (U5 z fb w W m K d.sv {f with st:=⟨false,bn⟩::⟨false,an⟩::r} d/\Off W K fb d.sv w.heap.size/\W.heap[w.heap.size]?=some (.cells (U4 (⟨42,n,sl,xa,xb⟩,xi)) 188)):=SH;refine qG ?_;intro hp;clear hk h hF hO hb hen;go_enter func152,ntmps152;go_wp2_with fail;refine abN ?_;intro w1 P' S_ G_ ho1 k_ hx1;obtain⟨W2,hW2⟩:∃W2,W2=w1.alloc (.cells #[.bool false,VI bn] 79):=Vx;rw[<- hW2]at G_ ho1 k_ hx1;refine ni ?_;intro hp2 HA HO HX;clear hp S_ G_ ho1 hW hx1;go_wp2_with fail;refine AU ?_;intro w1 P' S_ Z6 hk2 _ c0;refine afA ?_;intro hl2 hpb hpl;have pk:w1.cell? (VJ w.heap.size 0)=some (.int .u8 42):=by simp only[World.cell?,hpb];rfl
 have Vi:=Z6.new (.cells #[.bool false,VI an] 79);have Wf:=PK Vi.rk Vi.fr Ei ⟨false,Go.RowKit.wrap64 (an*bn)⟩;have HB:Hid _:=Vi;unfold Vl.val at Wf;clear hp2 S_ Z6 hW2 hk2 k_ Vi hpb;go_wp2_with fail;refine wM ?_;intro w1 P' S_ HC;clear Wf S_;go_wp2
 go_end0
 exact abq
def kC {z:Nat}{K:U0}{fb:Nat}{d:RU}(fs:List Fr)(hk:RK w m K)(hen:K.en=0)  {an bn:Int}(hlt:an<bn){r:List Vl}(hr:r.length<=900)(h:SX z w K fb {f with st:=⟨false,bn⟩::⟨false,an⟩::r} d) (n:Int) (sl xa xb:List UInt8) (xi:Nat):
 Calls prog 152 #[VG K.b,VG fb,.agg (U4 (⟨60,n,sl,xa,xb⟩,xi))] w (UZ z fb w K (VA m K.fu ⟨60,n,sl,xa,xb⟩ {f with st:=⟨false,bn⟩::⟨false,an⟩::r} fs) fs):=by
 refine alY ?_;intro W hF hO hb hW HH HF hp;clear hk h hF hO hb hen;go_enter func152,ntmps152;go_wp2_with fail;refine abN ?_;intro w1 P' S_ G_ ho1 k_ hx1;obtain⟨W2,hW2⟩:∃W2,W2=w1.alloc (.cells #[.bool false,VI bn] 79):=Vx;rw[<- hW2]at G_ ho1 k_ hx1;refine ni ?_;intro hp2 HA HO HX;clear hp S_ G_ ho1 hW hx1;go_wp2_with fail;refine AU ?_;intro w1 P' S_ Z6 hk2 _ c0;refine ahK ?_;intro hl2 hpb hpl pk Vi;have Wf:=PK Vi.rk Vi.fr Ei ⟨false,1⟩;have HB:Hid _:=Vi;unfold Vl.val at Wf;clear hp2 S_ Z6 hW2 hk2 k_ Vi hpb;go_wp2_with fail;refine wM ?_;intro w1 P' S_ HC;clear Wf S_;go_wp2
 go_end0
 refine HC.o.word HH.o.2 ?_;simp[VA,vG,hlt]
def jM {z:Nat}{K:U0}{fb:Nat}{d:RU}(fs:List Fr)(hk:RK w m K)(hen:K.en=0)  {an bn:Int}(hlt:¬an<bn){r:List Vl}(hr:r.length<=900)(h:SX z w K fb {f with st:=⟨false,bn⟩::⟨false,an⟩::r} d) (n:Int) (sl xa xb:List UInt8) (xi:Nat):
 Calls prog 152 #[VG K.b,VG fb,.agg (U4 (⟨60,n,sl,xa,xb⟩,xi))] w (UZ z fb w K (VA m K.fu ⟨60,n,sl,xa,xb⟩ {f with st:=⟨false,bn⟩::⟨false,an⟩::r} fs) fs):=by
 refine alY ?_;intro W hF hO hb hW HH HF hp;clear hk h hF hO hb hen;go_enter func152,ntmps152;go_wp2_with fail;refine abN ?_;intro w1 P' S_ G_ ho1 k_ hx1;obtain⟨W2,hW2⟩:∃W2,W2=w1.alloc (.cells #[.bool false,VI bn] 79):=Vx;rw[<- hW2]at G_ ho1 k_ hx1;refine ni ?_;intro hp2 HA HO HX;clear hp S_ G_ ho1 hW hx1;go_wp2_with fail;refine AU ?_;intro w1 P' S_ Z6 hk2 _ c0;refine ahK ?_;intro hl2 hpb hpl pk Vi;refine abh ?_;intro Wf HB;clear hp2 S_ Z6 hW2 hk2 k_ Vi hpb;go_wp2_with fail;refine wM ?_;intro w1 P' S_ HC;clear Wf S_;go_wp2
 go_end0
 refine HC.o.word HH.o.2 ?_;simp[VA,vG,hlt]
end Go.Proofs.Rz
namespace Go.Proofs.Rz
open ChangeShapes WideShapes ChangeAt RowKit Kn Tryz
def Le (z fb:Nat)(w:World)(K:U0)(er:Int)(m':Im)(f':Fr)(e:Ending)(w':World):Prop:=e=.returned (VI er)/\∃K' d',RK w' m' K'/\Pm z fb w w' K K'/\K'.fu=K.fu/\K'.en=K.en/\SX z w' K' fb f' d'
variable {m m' : Im}
variable {f : Fr}
def U5.Ut {z fb:Nat}{w W w':World}{K:U0}{sv:Value}{d:RU}(h:U5 z fb w W m K sv f d)(h2:SG W m K m' w'):∃K' d',RK w' m' K'/\Pm z fb w w' K K'/\K'.fu=K.fu/\K'.en=K.en/\SX z w' K' fb f d':=by
 obtain⟨K',hs,hf,he⟩:=h2;exact⟨K',d,hs.rk,h.run.trans (hs.run z fb),hf,he,h.fr.step hs⟩
variable {w : World}
def ad4 {z:Nat}{K:U0}{fb:Nat}{d:RU}(hk:RK w m K)  (h:SX z w K fb f d)(n:Int)(sl xa xb:List UInt8)(xi:Nat):
 Calls prog 154 #[VG K.b,VG fb,.agg (U4 (⟨120,n,sl,xa,xb⟩,xi))] w (Le z fb w K ((m.drop (VF xa) (VF sl)).1) ((m.drop (VF xa) (VF sl)).2) (f)):=by
 obtain⟨W,hW,hF,hO,hb⟩:=UW hk h (⟨120,n,sl,xa,xb⟩,xi);change W=w.alloc (.cells #[.int .u8 120,VI n,.string (VF sl),.string (VF xa),.string (VF xb),VI (xi:Nat)] 188) at hW;change Calls _ _ #[VG K.b,VG fb,.agg #[.int .u8 120,VI n,.string (VF sl),.string (VF xa),.string (VF xb),VI (xi:Nat)]] _ _;have HF:Hid (U5 z fb w W m K d.sv f d/\Off W K fb d.sv w.heap.size/\W.heap[w.heap.size]?=some (.cells (U4 (⟨120,n,sl,xa,xb⟩,xi)) 188)):=SH;have hp:=ajn hF.rk (VF xa) (VF sl);clear hk h hF hO hb;go_enter func154,ntmps154;go_wp2_with fail;refine kS ?_;rintro e w' ⟨rfl,hR⟩;have HR:Hid _:=HF.o.1.Ut hR;clear hR hp hW;go_wp2
 go_ret
 exact O5
def aew {z:Nat}{K:U0}{fb:Nat}{d:RU}(hk:RK w m K)  (h:SX z w K fb f d)(n:Int)(sl xa xb:List UInt8)(xi:Nat):
 Calls prog 154 #[VG K.b,VG fb,.agg (U4 (⟨118,n,sl,xa,xb⟩,xi))] w (Le z fb w K ((m.move (VF xa) (VF xb)).1) ((m.move (VF xa) (VF xb)).2) (f)):=by
 obtain⟨W,hW,hF,hO,hb⟩:=UW hk h (⟨118,n,sl,xa,xb⟩,xi);change W=w.alloc (.cells #[.int .u8 118,VI n,.string (VF sl),.string (VF xa),.string (VF xb),VI (xi:Nat)] 188) at hW;change Calls _ _ #[VG K.b,VG fb,.agg #[.int .u8 118,VI n,.string (VF sl),.string (VF xa),.string (VF xb),VI (xi:Nat)]] _ _;have HF:Hid (U5 z fb w W m K d.sv f d/\Off W K fb d.sv w.heap.size/\W.heap[w.heap.size]?=some (.cells (U4 (⟨118,n,sl,xa,xb⟩,xi)) 188)):=SH;have hp:=ait hF.rk (VF xa) (VF xb);clear hk h hF hO hb;go_enter func154,ntmps154;go_wp2_with fail;refine kS ?_;rintro e w' ⟨rfl,hR⟩;have HR:Hid _:=HF.o.1.Ut hR;clear hR hp hW;go_wp2
 go_ret
 exact O5
def aer {z:Nat}{K:U0}{fb:Nat}{d:RU}(hk:RK w m K)  (h:SX z w K fb f d)(n:Int)(sl xa xb:List UInt8)(xi:Nat):
 Calls prog 154 #[VG K.b,VG fb,.agg (U4 (⟨99,n,sl,xa,xb⟩,xi))] w (Le z fb w K ((m.copy (VF xa) (VF sl) (VF xb)).1) ((m.copy (VF xa) (VF sl) (VF xb)).2) (f)):=by
 obtain⟨W,hW,hF,hO,hb⟩:=UW hk h (⟨99,n,sl,xa,xb⟩,xi);change W=w.alloc (.cells #[.int .u8 99,VI n,.string (VF sl),.string (VF xa),.string (VF xb),VI (xi:Nat)] 188) at hW;change Calls _ _ #[VG K.b,VG fb,.agg #[.int .u8 99,VI n,.string (VF sl),.string (VF xa),.string (VF xb),VI (xi:Nat)]] _ _;have HF:Hid (U5 z fb w W m K d.sv f d/\Off W K fb d.sv w.heap.size/\W.heap[w.heap.size]?=some (.cells (U4 (⟨99,n,sl,xa,xb⟩,xi)) 188)):=SH;have hp:=aiE hF.rk (VF xa) (VF sl) (VF xb);clear hk h hF hO hb;go_enter func154,ntmps154;go_wp2_with fail;refine kS ?_;rintro e w' ⟨rfl,hR⟩;have HR:Hid _:=HF.o.1.Ut hR;clear hR hp hW;go_wp2
 go_ret
 exact O5
def mQ {z:Nat}{K:U0}{fb:Nat}{d:RU}(hk:RK w m K){vn:Int}{r:List Vl}(hr:r.length<=900)(h:SX z w K fb {f with st:=⟨false,vn⟩::r} d) (n:Int) (sl xa xb:List UInt8) (xi:Nat):
 Calls prog 154 #[VG K.b,VG fb,.agg (U4 (⟨98,n,sl,xa,xb⟩,xi))] w (Le z fb w K (1) (m) ({f with st:=⟨false,vn⟩::r})):=by
 refine ahw ?_;intro W hF hO hb hW;have HF:Hid (U5 z fb w W m K d.sv {f with st:=⟨false,vn⟩::r} d/\Off W K fb d.sv w.heap.size/\W.heap[w.heap.size]?=some (.cells (U4 (⟨98,n,sl,xa,xb⟩,xi)) 188)):=SH;refine zG ?_;intro hp;clear hk h hF hO hb;go_enter func154,ntmps154;go_wp2_with fail;refine EF ?_;intro w1 P' S_;have G_:=(HF.o.1.trans S_).new (.cells #[.bool false,VI vn] 79);have ho1:=Qk S_.rk S_.fr (.cells #[.bool false,VI vn] 79);have k_:(w1.alloc (.cells #[.bool false,VI vn] 79)).heap[w1.heap.size]?=some (.cells #[.bool false,VI vn] 79):=(Z4 w1 _).1;obtain⟨W2,hW2⟩:∃W2,W2=w1.alloc (.cells #[.bool false,VI vn] 79):=Vx;rw[<- hW2]at G_ ho1 k_;have hp2:=PK G_.rk G_.fr Ei ⟨false,vn⟩;have HA:Hid _:=G_;have HO:Hid _:=ho1;unfold Vl.val at hp2;clear hp S_ G_ ho1 hW;go_wp2_with fail;refine alO ?_;intro w1 P' S_ Z6 hk2;have c0:=(Vp hk2).1;have HR:Hid _:=Z6.Ut (SG.refl Z6.rk);clear hp2 S_ Z6 hW2 hk2 k_;go_wp2
 go_ret
 exact O5
def alQ {z:Nat}{K:U0}{fb:Nat}{d:RU}(hk:RK w m K){vn:Int}{r:List Vl}(hr:r.length<=900)(h:SX z w K fb {f with st:=⟨true,vn⟩::r} d) (n:Int) (sl xa xb:List UInt8) (xi:Nat):
 Calls prog 154 #[VG K.b,VG fb,.agg (U4 (⟨98,n,sl,xa,xb⟩,xi))] w (Le z fb w K ((m.be vn (VF xa)).1) ((m.be vn (VF xa)).2) ({f with st:=⟨true,vn⟩::r})):=by
 refine ahw ?_;intro W hF hO hb hW;have HF:Hid (U5 z fb w W m K d.sv {f with st:=⟨true,vn⟩::r} d/\Off W K fb d.sv w.heap.size/\W.heap[w.heap.size]?=some (.cells (U4 (⟨98,n,sl,xa,xb⟩,xi)) 188)):=SH;refine zG ?_;intro hp;clear hk h hF hO hb;go_enter func154,ntmps154;go_wp2_with fail;refine EF ?_;intro w1 P' S_;have G_:=(HF.o.1.trans S_).new (.cells #[.bool true,VI vn] 79);have ho1:=Qk S_.rk S_.fr (.cells #[.bool true,VI vn] 79);have k_:(w1.alloc (.cells #[.bool true,VI vn] 79)).heap[w1.heap.size]?=some (.cells #[.bool true,VI vn] 79):=(Z4 w1 _).1;have hx1:=(S_.below (UF _ (.cells #[.bool true,VI vn] 79))).off _ HF.o.2.1;obtain⟨W2,hW2⟩:∃W2,W2=w1.alloc (.cells #[.bool true,VI vn] 79):=Vx;rw[<- hW2]at G_ ho1 k_ hx1;have hp2:=PK G_.rk G_.fr Ei ⟨true,vn⟩;have HA:Hid _:=G_;have HO:Hid _:=ho1;have HX:Hid _:=hx1;unfold Vl.val at hp2;clear hp S_ G_ ho1 hW hx1;go_wp2_with fail;refine AU ?_;intro w1 P' S_ Z6 hk2 _ c0;have hpb:=((S_.off _ HX.o.1).2.trans HX.o.2).trans HF.o.2.2;have p3:w1.cell? (VJ w.heap.size 3)=some (.string (VF xa)):=by simp only[World.cell?,hpb];rfl
 have Ss:=rbe Z6.rk vn (VF xa);have HQ:Hid _:=Z6;clear hp2 S_ Z6 hW2 hk2 k_ hpb;go_wp2_with fail;refine Ss.mono ?_;rintro e w1 ⟨rfl,hR⟩;have HR:Hid _:=HQ.o.Ut hR;clear hR Ss;go_wp2
 go_ret
 exact O5
def aeY {z:Nat}{K:U0}{fb:Nat}{d:RU}(hk:RK w m K)(hs:f.st.length<=900)(h:SX z w K fb f d)(n:Int)(sl xa xb:List UInt8)(xi:Nat):
 Calls prog 154 #[VG K.b,VG fb,.agg (U4 (⟨119,n,sl,xa,xb⟩,xi))] w (Le z fb w K ((m.make (VF xa)).2.1) ((m.make (VF xa)).2.2) ({f with st:=(m.make (VF xa)).1::f.st})):=by
 obtain⟨W,hW,hF,hO,hb⟩:=UW hk h (⟨119,n,sl,xa,xb⟩,xi);change W=w.alloc (.cells #[.int .u8 119,VI n,.string (VF sl),.string (VF xa),.string (VF xb),VI (xi:Nat)] 188) at hW;change Calls _ _ #[VG K.b,VG fb,.agg #[.int .u8 119,VI n,.string (VF sl),.string (VF xa),.string (VF xb),VI (xi:Nat)]] _ _;have HF:Hid (U5 z fb w W m K d.sv f d/\Off W K fb d.sv w.heap.size/\W.heap[w.heap.size]?=some (.cells (U4 (⟨119,n,sl,xa,xb⟩,xi)) 188)):=SH;have hp:=ajN hF.rk (VF xa);obtain⟨v,hv⟩:∃v,v=(m.make (VF xa)).1:=Vx;obtain⟨er,her⟩:∃v,v=(m.make (VF xa)).2.1:=Vx;obtain⟨mm,hmm⟩:∃v,v=(m.make (VF xa)).2.2:=Vx;rw[<- hv,<- her,<- hmm]at hp ⊢;unfold Vl.val at hp;clear hk h hF hO hb;go_enter func154,ntmps154;go_wp2_with fail;refine kS ?_;rintro e w1 ⟨rfl,hR⟩;obtain⟨K1,d1,r1,r2,r3,r4,r5⟩:=HF.o.1.Ut hR;have hs2:=Vu.below r1 (UF w1 (.cells #[.bool v.obj,VI v.n] 79));have hp2:=PK hs2.rk (r5.step hs2) VH v
 have HR:Hid (Pm z fb w (w1.alloc (.cells #[.bool v.obj,VI v.n] 79)) K K1/\K1.fu=K.fu/\K1.en=K.en):=⟨r2.trans (hs2.run z fb),r3,r4⟩
 unfold Vl.val at hp2;clear hR hp hW hv her hmm r1 r2 r3 r4 r5 hs2;go_wp2_with fail;refine hp2.mono ?_;rintro e w1 ⟨rfl,Hd,hF2⟩;have HX:Hid _:=hF2;clear hF2 hp2;go_wp2
 go_ret
 exact⟨rfl,K1,_,HX.o.rk,HR.o.1.trans HX.o.run,HR.o.2.1,HR.o.2.2,HX.o.fr⟩
def aby {K:U0}(h:RK w m K)(v:Vl)(hv:TF m v):
 Calls prog 57 #[VG K.b,v.val] w λe w'=>e=.returned (VI (Qh (m.of v)))/\Below w.heap.size w w':=by
 obtain⟨vo,vn⟩:=v;have HB:Hid (Below w.heap.size w (w.alloc (.cells #[.bool vo,VI vn] 79))):=UF _ _;unfold Vl.val
 cases vo with
 | false=>
  have hof:m.of ⟨false,vn⟩=some 1:=rfl;rw[hof];clear h;go_enter func57,ntmps57;go_wp2
  go_ret
  exact⟨rfl,HB.o⟩
 | true=>
  obtain⟨i,x,hi,hx,hi2,hil⟩:=Rj (hv.2 rfl);simp only at hi hi2;subst hi;obtain⟨g,cap,hF⟩:=h.ob_ hx
  have hof:m.of ⟨true,(i:Nat)⟩=some x.cls:=by
   unfold Im.of;rw[ZU rfl];simp only[Zp,hx];rfl
  rw[hof];have o0:=hF.c0;have c1:=h.c1;rw[hF.v]at c1;refine Jz ?_;intro R6;have hg1:=hF.Vb.lt;have hlt:=h.Vb.lt;clear h hF hx hof hv;go_enter func57,ntmps57;go_wp2_with fail
  go_quiet (fail)
  go_wp2
  go_ret
  exact⟨rfl,⟨HB.o.os,HB.o.tape,HB.o.output,HB.o.size,HB.o.block⟩⟩
def U5.put {z fb:Nat}{w W:World}{K:U0}{sv:Value}{d:RU}(h:U5 z fb w W m K sv f d){p:Nat}(hp:Off W K fb d.sv p)(hz:z<=p)(hw:w.heap.size<=p)(o:Nat)(v:Value):U5 z fb w (W.setCell (VJ p o) v) m K sv f d:=by
 have hoth:∀k,k≠p->(W.setCell (VJ p o) v).heap[k]?=W.heap[k]?:=λk e=>ZW W _ v k (λx=>e x);have hsz:=UN W (VJ p o) v;have hF:=h.fr;refine⟨h.rk.frame ((Vt.refl W _).setCell _ _ (λ_=>hp.nl)),⟨(hoth fb (λe=>hp.nf e.symm)).trans hF.blk,hF.ws.same (by rw[hsz];exact ZN _) (λe=>hoth _ (λx=>?_)),hF.wq,hF.args.same (λe=>hoth _ (λx=>?_)),hF.ga,Uk hF.st (λk e=>hoth k (λx=>hp.ns (by rw[e,x]))),hF.gf,hF.gs,by rw[hsz];exact hF.zl⟩,h.run.trans (Ii ((Vt.refl W _).setCell _ _ (λ_=>.inr ⟨hz,hp.nl⟩))),λq hq=>?_⟩
 . have h1:K.lab d.wh=.still:=hF.wq e;rw[x,hp.nl]at h1;cases h1
 . have:=(hF.ga e).2.1;omega
 . have h1:=h.off q hq;have zr:q≠p:=λe=>by have:=hq.lt;omega
   exact⟨⟨by rw[hsz];exact h1.1.lt,h1.1.nf,h1.1.ns,h1.1.nl⟩,(hoth q zr).trans h1.2⟩
def Off.set {K:U0}{fb p:Nat}{sv:Value}(h:Off w K fb sv p)(a:Addr)(v:Value):Off (w.setCell a v) K fb sv p:=⟨by rw[UN];exact h.lt,h.nf,h.ns,h.nl⟩
def drop_cons {l:List Vl}{c:Nat}(h:c<l.length):∃v,l.drop c=v::l.drop (c+1)/\l[c]?=some v:=⟨_,Yx h,Z8 h⟩
def alv (o:Option Nat):abv o=Qh o:=by cases o<;>rfl
def dG {st:List Vl}{c:Nat}{v:Vl}(g:Nat)(hv:st[c]?=some v):(List.replicate (g+1) Vl.zero++(st.take c).reverse).set g v=List.replicate g Vl.zero++(st.take (c+1)).reverse:=by
 rw[Yc,hv,List.replicate_succ'];simp
structure Ask (z fb:Nat)(w X:World)(m:Im)(K:U0)(sv:Value)(f:Fr)(d:RU)(args:List Vl)(x:Kn.W×Nat):Prop where
 fp:U5 z fb w X m K sv f d
 oa:Off X K fb d.sv (w.heap.size+1)
 ba:X.heap[w.heap.size+1]?=some (.cells (vcs args).toArray 79)
 op:Off X K fb d.sv w.heap.size
 bp:X.heap[w.heap.size]?=some (.cells (U4 x) 188)
def Ask.post {z fb:Nat}{w X X':World}{K:U0}{sv:Value}{f f2:Fr}{d d2:RU}{args:List Vl}{x:Kn.W×Nat}(h:Ask z fb w X m K sv f d args x)(h2:U5 z fb X X' m K d.sv f2 d2):Ask z fb w X' m K sv f2 d2 args x:=
 ⟨h.fp.trans h2,(h2.off _ h.oa).1,(h2.off _ h.oa).2.trans h.ba,(h2.off _ h.op).1,(h2.off _ h.op).2.trans h.bp⟩
def Ask.below {z fb:Nat}{w X X':World}{K:U0}{sv:Value}{d:RU}{args:List Vl}{x:Kn.W×Nat}(h:Ask z fb w X m K sv f d args x)(hb:Below X.heap.size X X'):Ask z fb w X' m K sv f d args x:=h.post ((U5.refl h.fp.rk h.fp.fr).below hb)
def Ask.put {z fb:Nat}{w X:World}{K:U0}{sv:Value}{d:RU}{args:List Vl}{x:Kn.W×Nat}(h:Ask z fb w X m K sv f d args x){p:Nat}(hp:Off X K fb d.sv p)(hz:z<=p)(hw:w.heap.size+2<=p)(o:Nat)(v:Value):Ask z fb w (X.setCell (VJ p o) v) m K sv f d args x:=
 ⟨h.fp.put hp hz VH o v,h.oa.set _ _,(ZW _ _ _ _ (by show w.heap.size+1≠p;omega)).trans h.ba,h.op.set _ _,(ZW _ _ _ _ (by show w.heap.size≠p;omega)).trans h.bp⟩
def Ask.args {z fb:Nat}{w X:World}{K:U0}{sv:Value}{d:RU}{args:List Vl}{x:Kn.W×Nat}(h:Ask z fb w X m K sv f d args x){N:Nat}(hN:args.length=N):UH X (.slice (some (VJ (w.heap.size+1) 0)) N N) args (w.heap.size+1):=by
 refine⟨_,_,by rw[hN],λ_=>⟨_,rfl,rfl,λj u hu=>?_⟩⟩;rw[XJ,YU];simp only[World.cell?,h.ba];simpa using hu
variable {w' : World}
variable {fs : List Fr}
def UZ.sent {z fb:Nat}{w X X':World}{K K':U0}{sv:Value}{d:RU}{g:SN}{v:Vl}(h:U5 z fb w X m K sv f d)(hs:Vu X X' m K m' K')(Rm:K'.fu<=K.fu)(he:uD g (f::fs) v m' K'){Hd:Value}{d2:RU}(h2:U5 z fb X' w' m' K' Hd {f with st:=v::f.st} d2):UZ z fb w K g fs (.returned (.tuple #[])) w':=
 ⟨m',K',rfl,h2.rk,(h.run.trans (hs.run z fb)).trans h2.run,Rm,he.imp (λe=>⟨e.1,_,_,h2.fr,e.2⟩) (λe=>e)⟩
def akx {z:Nat}{K:U0}{fb:Nat}{d:RU}(fs:List Fr)(D N:Nat)(hS:FQ D)(hk:RK w m K)(hen:K.en=0)(Pp:K.fu<=3000)(h:SX z w K fb f d)(hN:N<=3)(hs:f.st.length<=900)(sl xa xb:List UInt8)(xi:Nat)(hk0:Kl)(L7:m.kl[f.home]?=some hk0)(to:Vl)(r:List Vl)(hst:f.st.drop N=to::r)(X_:TF m to)(I':∀g∈({f with st:=r}::fs),Rk m 1 g) (hD:fs.length+1=D) (hargs:∀v∈(f.st.take N).reverse,TF m v) (U_:selector sl=true) (hal:N=U6 sl):
 Calls prog 153 #[VG K.b,VG fb,.agg (U4 (⟨115,(N:Nat),sl,xa,xb⟩,xi)),VI (D:Nat)] w (UZ z fb w K (m.send K.fu (m.of to) to (VF sl) (f.st.take N).reverse ({f with st:=r}::fs)) fs):=by
 have hmk:=Ba N VH;change Calls _ _ #[VG K.b,VG fb,.agg #[.int .u8 115,VI (N:Nat),.string (VF sl),.string (VF xa),.string (VF xb),VI (xi:Nat)],VI (D:Nat)] _ _;obtain⟨W0,hW0,Vc,Br,hb0⟩:=UW hk h (⟨115,(N:Nat),sl,xa,xb⟩,xi);change W0=w.alloc (.cells #[.int .u8 115,VI (N:Nat),.string (VF sl),.string (VF xa),.string (VF xb),VI (xi:Nat)] 188) at hW0;refine anz ?_;intro hz0 Gd S_ hb1 hb2;obtain⟨W,hW⟩:∃W,W=W0.alloc (.cells (vcs (List.replicate N Vl.zero)).toArray 79):=Vx;rw[<- hW]at Gd S_ hb1 hb2;rw[hz0]at Gd hb1;refine am5 ?_;intro yr HS HL HI p6
 have HT:Hid (f.st.drop N=to::r/\TF m to/\∀g∈({f with st:=r}::fs),Rk m 1 g):=⟨hst,X_,I'⟩
 have HW:Hid (U5 z fb w W m K d.sv f d/\Off W K fb d.sv (w.heap.size+1)/\W.heap[w.heap.size+1]?=some (.cells (vcs (List.replicate N Vl.zero)).toArray 79)/\Off W K fb d.sv w.heap.size/\W.heap[w.heap.size]?=some (.cells (U4 (⟨115,(N:Nat),sl,xa,xb⟩,xi)) 188)):=⟨S_,Gd,hb1,yr,hb2⟩
 rw[hW0]at hW;clear hk h Vc Br hb0 hz0 hW0 S_ Gd hb1 yr hb2 hS hen hD hargs U_ hal hs hst X_ I' L7;go_enter func153,ntmps153;go_wp2_with fail;rw[<- hW];clear hW hmk
 go_loopg [9] N (λgk iv wr=>iv=VI ((gk:Int)-1)/\gk<=N/\∃sv,U5 z fb w wr m K d.sv {f with st:=f.st.drop (N-gk)} {d with sv:=sv}/\Off wr K fb sv (w.heap.size+1)/\wr.heap[w.heap.size+1]?=some (.cells (vcs (List.replicate gk Vl.zero++(f.st.take (N-gk)).reverse)).toArray 79)/\Off wr K fb sv w.heap.size/\wr.heap[w.heap.size]?=some (.cells (U4 (⟨115,(N:Nat),sl,xa,xb⟩,xi)) 188))
 case atStart=>exact⟨Uu,ZN _,d.sv,by rw[Y0];exact HW.o.1,HW.o.2.1,by rw[Y0];simpa using HW.o.2.2.1,HW.o.2.2.2.1,HW.o.2.2.2.2⟩
 case round=>
  obtain⟨rfl,de,sv,hF,FSq,Mv,Da,E3⟩:=hrel
  cases gk with
  | zero=>
   have Vc:=hF;rw[Nat.sub_zero]at Vc Mv;simp only[List.replicate_zero,Yg]at Mv
   have hA:Ask z fb w wr m K d.sv {f with st:=f.st.drop N} {d with sv:=sv} (f.st.take N).reverse (⟨115,(N:Nat),sl,xa,xb⟩,xi):=⟨Vc,FSq,Mv,Da,E3⟩
   refine aiD ?_;intro hT hA1 IA hwT _ g2;obtain⟨X,hX⟩:∃X,X=wr.alloc (.cells #[.bool f.self.obj,VI f.self.n] 79):=Vx;rw[<- hX]at hT hA1 IA;refine ah6 ?_;intro f1 cg Fm hcv hat hk1 hk2 hk3 y hy d1 c0 Pu hA2
   have pk:X.drew.cell? (VJ w.heap.size 0)=some (.int .u8 115):=by
    show X.cell? (VJ w.heap.size 0)=_;simp only[World.cell?,hA1.bp];rfl
   have FO:Hid (Ask z fb w X.drew m K d.sv {f with st:=f.st.drop N} {d with sv:=sv} (f.st.take N).reverse (⟨115,(N:Nat),sl,xa,xb⟩,xi)/\Off X.drew K fb sv wr.heap.size/\X.drew.heap[wr.heap.size]?=some (.cells #[.bool f.self.obj,VI f.self.n] 79)/\w.heap.size+2<=wr.heap.size):=⟨hA2,⟨hT.lt,hT.nf,hT.ns,hT.nl⟩,IA,hwT⟩
   have hdr:=HT.o.1;have q9:=hA2;rw[hdr]at q9;have hp:=Hr (f:=f) q9.fp.rk q9.fp.fr (by have h8:=HL.o.2.1;have h8:=YV List.length hdr;simp at h8;omega);unfold Vl.val at hp;rw[hdr]at FO;clear q9 hdr hF Vc FSq Mv Da E3 hA hA1 hA2 hT IA hat hy hcv;go_wp2_with fail;rw[<- hX];clear hX;refine Uy ?_;refine ajk ?_;intro hHeld;refine KG ?_;refine Ur 11 ?_;refine Nr ?_;clear c0 d1 f1;go_wp2_with fail;refine hp.mono ?_;rintro e w2 ⟨rfl,Hd,Vc⟩;have hB:=FO.o.1.post Vc;have uk:=Vc.off _ FO.o.2.1;have Cu:=uk.2.trans FO.o.2.2.1;have d9:z<=wr.heap.size:=sJ;have hB2:=(hB.put uk.1 d9 FO.o.2.2.2 0 (.bool to.obj)).put (uk.1.set _ _) d9 FO.o.2.2.2 1 (VI to.n);have t0:=(Vp Cu).1;have t1:=(Vp Cu).2;have tf:∀o,w2.frozen? (VJ wr.heap.size o)=false:=λo=>UL.free ⟨_,_,Cu⟩ o;have bS:=uk.1.lt;obtain⟨y0,y1⟩:=RQ t0 t1 (.bool to.obj) (VI to.n);obtain⟨X2,SU⟩:∃X2,X2=(w2.setCell (VJ wr.heap.size 0) (.bool to.obj)).setCell (VJ wr.heap.size 1) (VI to.n):=Vx;have tj:wr.heap.size<X2.heap.size:=by rw[SU,UN,UN];exact bS
   rw[<- SU]at hB2 y0 y1;have hof:=aby hB2.fp.rk to HT.o.2.1;have Uv:Hid _:=hB2;unfold Vl.val at hof;clear Vc hB uk Cu hB2 hp pk;go_wp2_with fail;rw[<- SU];clear SU t0 t1 tf;refine hof.mono ?_;rintro e w2 ⟨rfl,hb0⟩;have hB2:=Uv.o.below hb0;have i6:=(hb0.cell (p:=(VJ wr.heap.size 0)) tj).trans y0;have i6:=(hb0.cell (p:=(VJ wr.heap.size 1)) tj).trans y1;have ps:w2.cell? (VJ w.heap.size 2)=some (.string (VF sl)):=by simp only[World.cell?,hB2.bp];rfl
   have w_:=HS.o w2 m K ({f with st:=r}::fs) to ((m.of to)) (VF sl) (.slice (some (VJ (w.heap.size+1) 0)) N N) (f.st.take N).reverse (w.heap.size+1) hB2.fp.rk HI.o.2.1 Pp HI.o.2.2.1 HT.o.2.2 HT.o.2.1 HI.o.2.2.2.1 HI.o.2.2.2.2.1 ajp (IL HI.o.1.ok HT.o.2.1) (hB2.args ahq) (λ_=>⟨hB2.oa.nl,hB2.oa.lt⟩);have Uv:Hid _:=hB2;unfold Vl.val at w_;clear hb0 hB2 hof y0 y1;go_wp2_with fail;refine w_.mono ?_;rintro e w4 ⟨v,m',K',rfl,hst,Rm,d_⟩;have hs5:=hst.trans (Vu.below hst.rk aeh);have H0:=Uv.o.fp.fr.step hs5;have A0:=PK hs5.rk H0 (by have:=HL.o.2.1;simp only;have h8:=YV List.length HT.o.1;simp at h8;omega) v
   have H5:Hid (Vu w2 (w4.alloc (.cells #[.bool v.obj,VI v.n] 79)) m K m' K'/\K'.fu<=K.fu/\uD (m.send K.fu (m.of to) to (VF sl) (f.st.take N).reverse ({f with st:=r}::fs)) ({f with st:=r}::fs) v m' K'):=⟨hs5,Rm,d_⟩
   unfold Vl.val at A0 ⊢;clear w_ hst Rm d_ hs5 H0;go_wp2_with fail;refine A0.mono ?_;rintro e w2 ⟨rfl,Hd,EQ⟩;have HX:=UQ (UZ.sent Uv.o.fp H5.o.1 H5.o.2.1 H5.o.2.2 EQ);clear EQ A0;go_wp2
   go_end0
   exact HX.o
  | succ g=>
   obtain⟨v,hv1,hv2⟩:=drop_cons (l:=f.st) (c:=N-(g+1)) (by have:=HL.o.1;omega);have Vc:=hF;rw[hv1]at Vc;have hp:=Hr (f:=f) Vc.rk Vc.fr aiL
   have HG:Hid (U5 z fb w wr m K d.sv {f with st:=v::f.st.drop (N-(g+1)+1)} {d with sv:=sv}/\Off wr K fb sv (w.heap.size+1)/\wr.heap[w.heap.size+1]?=some (.cells (vcs (List.replicate (g+1) Vl.zero++(f.st.take (N-(g+1))).reverse)).toArray 79)/\Off wr K fb sv w.heap.size/\wr.heap[w.heap.size]?=some (.cells (U4 (⟨115,(N:Nat),sl,xa,xb⟩,xi)) 188)/\f.st[N-(g+1)]?=some v):=⟨Vc,FSq,Mv,Da,E3,hv2⟩
   have sR:(((g+1:Nat):Int)-1)=(g:Nat):=VH;rw[sR];have hgn:(g:Int)<(N:Int):=VH;unfold Vl.val at hp;clear hF Vc FSq Mv Da E3 hv1 hv2 sR;go_wp2_with fail;refine hp.mono ?_;rintro e w2 ⟨rfl,Hd,S_⟩;refine ajf ?_;intro Jn hop hb u hu DH;have q0:w2.cell? (VJ (w.heap.size+1) (g*2))=some (.bool u.obj):=by simp only[World.cell?,hb];simpa using DH.1
   have q0:w2.cell? (VJ (w.heap.size+1) (g*2+1))=some (VI u.n):=by simp only[World.cell?,hb];simpa using DH.2
   have qf:∀o,w2.frozen? (VJ (w.heap.size+1) o)=false:=λo=>UL.free ⟨_,_,hb⟩ o
   have oY:=(((HG.o.1.trans S_).put Jn.1 sJ VH (g*2) (.bool v.obj)).put (Jn.1.set _ _) sJ VH (g*2+1) (VI v.n))
   have Od:((w2.setCell (VJ (w.heap.size+1) (g*2)) (.bool v.obj)).setCell (VJ (w.heap.size+1) (g*2+1)) (VI v.n)).heap[w.heap.size+1]?=some (.cells (vcs (List.replicate g Vl.zero++(f.st.take (N-g)).reverse)).toArray 79):=by
    exact aoe
   have ua:((w2.setCell (VJ (w.heap.size+1) (g*2)) (.bool v.obj)).setCell (VJ (w.heap.size+1) (g*2+1)) (VI v.n)).heap[w.heap.size]?=some (.cells (U4 (⟨115,(N:Nat),sl,xa,xb⟩,xi)) 188):=((ZW _ _ _ _ (by show w.heap.size≠w.heap.size+1;omega)).trans (ZW _ _ _ _ (by show w.heap.size≠w.heap.size+1;omega))).trans (hop.2.trans HG.o.2.2.2.2.1)
   have HR:Hid (∃sv,U5 z fb w ((w2.setCell (VJ (w.heap.size+1) (g*2)) (.bool v.obj)).setCell (VJ (w.heap.size+1) (g*2+1)) (VI v.n)) m K d.sv {f with st:=f.st.drop (N-g)} {d with sv:=sv}/\Off ((w2.setCell (VJ (w.heap.size+1) (g*2)) (.bool v.obj)).setCell (VJ (w.heap.size+1) (g*2+1)) (VI v.n)) K fb sv (w.heap.size+1)/\((w2.setCell (VJ (w.heap.size+1) (g*2)) (.bool v.obj)).setCell (VJ (w.heap.size+1) (g*2+1)) (VI v.n)).heap[w.heap.size+1]?=some (.cells (vcs (List.replicate g Vl.zero++(f.st.take (N-g)).reverse)).toArray 79)/\Off ((w2.setCell (VJ (w.heap.size+1) (g*2)) (.bool v.obj)).setCell (VJ (w.heap.size+1) (g*2+1)) (VI v.n)) K fb sv w.heap.size/\((w2.setCell (VJ (w.heap.size+1) (g*2)) (.bool v.obj)).setCell (VJ (w.heap.size+1) (g*2+1)) (VI v.n)).heap[w.heap.size]?=some (.cells (U4 (⟨115,(N:Nat),sl,xa,xb⟩,xi)) 188)):=⟨Hd,ajx,(Jn.1.set _ _).set _ _,Od,(hop.1.set _ _).set _ _,ua⟩
   clear S_ Jn hop hb hu DH oY Od ua hp;go_wp2
   go_roundg g
   case measure=>omega
   case rel=>exact⟨Uu,VH,HR.o⟩
def af6 {z:Nat}{K:U0}{fb:Nat}{d:RU}(fs:List Fr)(D N:Nat)(hS:FQ D)(hk:RK w m K)(hen:K.en=0)(Pp:K.fu<=3000)(h:SX z w K fb f d)(hN:N<=3)(hs:f.st.length<=900)(sl xa xb:List UInt8)(xi:Nat)(hk0:Kl)(L7:m.kl[f.home]?=some hk0)(hNl:N<=f.st.length)(UI:TF m f.self)(hab:∀c,m.kl[f.home]?.bind (·.above)=some c->c<m.kl.length/\m.tot c<=m.width f.self)(I':∀g∈({f with st:=f.st.drop N}::fs),Rk m 1 g) (hD:fs.length+1=D) (hargs:∀v∈(f.st.take N).reverse,TF m v) (U_:selector sl=true) (hal:N=U6 sl):
 Calls prog 153 #[VG K.b,VG fb,.agg (U4 (⟨94,(N:Nat),sl,xa,xb⟩,xi)),VI (D:Nat)] w (UZ z fb w K (m.send K.fu (m.kl[f.home]?.bind (·.above)) f.self (VF sl) (f.st.take N).reverse ({f with st:=f.st.drop N}::fs)) fs):=by
 have hmk:=Ba N VH;change Calls _ _ #[VG K.b,VG fb,.agg #[.int .u8 94,VI (N:Nat),.string (VF sl),.string (VF xa),.string (VF xb),VI (xi:Nat)],VI (D:Nat)] _ _;obtain⟨W0,hW0,Vc,Br,hb0⟩:=UW hk h (⟨94,(N:Nat),sl,xa,xb⟩,xi);change W0=w.alloc (.cells #[.int .u8 94,VI (N:Nat),.string (VF sl),.string (VF xa),.string (VF xb),VI (xi:Nat)] 188) at hW0;refine anz ?_;intro hz0 Gd S_ hb1 hb2;obtain⟨W,hW⟩:∃W,W=W0.alloc (.cells (vcs (List.replicate N Vl.zero)).toArray 79):=Vx;rw[<- hW]at Gd S_ hb1 hb2;rw[hz0]at Gd hb1;refine am5 ?_;intro yr HS HL HI p6;have HT:Hid _:=I';have HFV:=UQ UI;have o5:Hid _:=hab
 have HW:Hid (U5 z fb w W m K d.sv f d/\Off W K fb d.sv (w.heap.size+1)/\W.heap[w.heap.size+1]?=some (.cells (vcs (List.replicate N Vl.zero)).toArray 79)/\Off W K fb d.sv w.heap.size/\W.heap[w.heap.size]?=some (.cells (U4 (⟨94,(N:Nat),sl,xa,xb⟩,xi)) 188)):=⟨S_,Gd,hb1,yr,hb2⟩
 rw[hW0]at hW;clear hk h Vc Br hb0 hz0 hW0 S_ Gd hb1 yr hb2 hS hen hD hargs U_ hal hs UI hab I' L7 hNl;go_enter func153,ntmps153;go_wp2_with fail;rw[<- hW];clear hW hmk
 go_loopg [9] N (λgk iv wr=>iv=VI ((gk:Int)-1)/\gk<=N/\∃sv,U5 z fb w wr m K d.sv {f with st:=f.st.drop (N-gk)} {d with sv:=sv}/\Off wr K fb sv (w.heap.size+1)/\wr.heap[w.heap.size+1]?=some (.cells (vcs (List.replicate gk Vl.zero++(f.st.take (N-gk)).reverse)).toArray 79)/\Off wr K fb sv w.heap.size/\wr.heap[w.heap.size]?=some (.cells (U4 (⟨94,(N:Nat),sl,xa,xb⟩,xi)) 188))
 case atStart=>exact⟨Uu,ZN _,d.sv,by rw[Y0];exact HW.o.1,HW.o.2.1,by rw[Y0];simpa using HW.o.2.2.1,HW.o.2.2.2.1,HW.o.2.2.2.2⟩
 case round=>
  obtain⟨rfl,de,sv,hF,FSq,Mv,Da,E3⟩:=hrel
  cases gk with
  | zero=>
   have Vc:=hF;rw[Nat.sub_zero]at Vc Mv;simp only[List.replicate_zero,Yg]at Mv
   have hA:Ask z fb w wr m K d.sv {f with st:=f.st.drop N} {d with sv:=sv} (f.st.take N).reverse (⟨94,(N:Nat),sl,xa,xb⟩,xi):=⟨Vc,FSq,Mv,Da,E3⟩
   refine aiD ?_;intro hT hA1 IA hwT _ g2;obtain⟨X,hX⟩:∃X,X=wr.alloc (.cells #[.bool f.self.obj,VI f.self.n] 79):=Vx;rw[<- hX]at hT hA1 IA;refine ah6 ?_;intro f1 cg Fm hcv hat hk1 hk2 hk3 y hy d1 c0 Pu hA2
   have pk:X.drew.cell? (VJ w.heap.size 0)=some (.int .u8 94):=by
    show X.cell? (VJ w.heap.size 0)=_;simp only[World.cell?,hA1.bp];rfl
   have FO:Hid (Ask z fb w X.drew m K d.sv {f with st:=f.st.drop N} {d with sv:=sv} (f.st.take N).reverse (⟨94,(N:Nat),sl,xa,xb⟩,xi)/\Off X.drew K fb sv wr.heap.size/\X.drew.heap[wr.heap.size]?=some (.cells #[.bool f.self.obj,VI f.self.n] 79)/\w.heap.size+2<=wr.heap.size):=⟨hA2,⟨hT.lt,hT.nf,hT.ns,hT.nl⟩,IA,hwT⟩
   have i6:=(Vp (w:=X.drew) IA).1;have y13:=(Vp (w:=X.drew) IA).2
   have ps:X.drew.cell? (VJ w.heap.size 2)=some (.string (VF sl)):=by
    show X.cell? (VJ w.heap.size 2)=_;simp only[World.cell?,hA1.bp];rfl
   have hcn:Qh (m.kl[f.home]?.bind (·.above))=Qh hk1.above:=by rw[hk2];rfl
   clear hF Vc FSq Mv Da E3 hA hA1 hA2 hT IA hat hy hcv;go_wp2_with fail;rw[<- hX];clear hX;refine Uy ?_;refine ajk ?_;intro hHeld;refine KG ?_;refine Ur 11 ?_;refine Nr ?_;clear c0 d1 f1;go_wp2_with fail;have j_:=FO.o.1;have w_:=HS.o X.drew m K ({f with st:=f.st.drop N}::fs) f.self ((m.kl[f.home]?.bind (·.above))) (VF sl) (.slice (some (VJ (w.heap.size+1) 0)) N N) (f.st.take N).reverse (w.heap.size+1) j_.fp.rk HI.o.2.1 Pp HI.o.2.2.1 HT.o HFV.o HI.o.2.2.2.1 HI.o.2.2.2.2.1 ajp o5.o (j_.args ahq) (λ_=>⟨j_.oa.nl,j_.oa.lt⟩);have VM:Hid _:=j_;rw[hcn]at w_;unfold Vl.val at w_;clear j_ i6 y13 ps;refine w_.mono ?_;rintro e w4 ⟨v,m',K',rfl,hst,Rm,d_⟩;have hs5:=hst.trans (Vu.below hst.rk aeh);have H0:=VM.o.fp.fr.step hs5;have A0:=PK hs5.rk H0 (by have:=HL.o.2.1;simp only;simp;omega) v
   have H5:Hid (Vu X.drew (w4.alloc (.cells #[.bool v.obj,VI v.n] 79)) m K m' K'/\K'.fu<=K.fu/\uD (m.send K.fu (m.kl[f.home]?.bind (·.above)) f.self (VF sl) (f.st.take N).reverse ({f with st:=f.st.drop N}::fs)) ({f with st:=f.st.drop N}::fs) v m' K'):=⟨hs5,Rm,d_⟩
   unfold Vl.val at A0 ⊢;clear w_ hst Rm d_ hs5 H0;go_wp2_with fail;refine A0.mono ?_;rintro e w4 ⟨rfl,j5,EQ⟩;have HX:=UQ (UZ.sent VM.o.fp H5.o.1 H5.o.2.1 H5.o.2.2 EQ);clear EQ A0;go_wp2
   go_end0
   exact HX.o
  | succ g=>
   obtain⟨v,hv1,hv2⟩:=drop_cons (l:=f.st) (c:=N-(g+1)) (by have:=HL.o.1;omega);have Vc:=hF;rw[hv1]at Vc;have hp:=Hr (f:=f) Vc.rk Vc.fr aiL
   have HG:Hid (U5 z fb w wr m K d.sv {f with st:=v::f.st.drop (N-(g+1)+1)} {d with sv:=sv}/\Off wr K fb sv (w.heap.size+1)/\wr.heap[w.heap.size+1]?=some (.cells (vcs (List.replicate (g+1) Vl.zero++(f.st.take (N-(g+1))).reverse)).toArray 79)/\Off wr K fb sv w.heap.size/\wr.heap[w.heap.size]?=some (.cells (U4 (⟨94,(N:Nat),sl,xa,xb⟩,xi)) 188)/\f.st[N-(g+1)]?=some v):=⟨Vc,FSq,Mv,Da,E3,hv2⟩
   have sR:(((g+1:Nat):Int)-1)=(g:Nat):=VH;rw[sR];have hgn:(g:Int)<(N:Int):=VH;unfold Vl.val at hp;clear hF Vc FSq Mv Da E3 hv1 hv2 sR;go_wp2_with fail;refine hp.mono ?_;rintro e w4 ⟨rfl,j5,S_⟩;refine ajf ?_;intro Jn hop hb u hu DH;have q0:w4.cell? (VJ (w.heap.size+1) (g*2))=some (.bool u.obj):=by simp only[World.cell?,hb];simpa using DH.1
   have q0:w4.cell? (VJ (w.heap.size+1) (g*2+1))=some (VI u.n):=by simp only[World.cell?,hb];simpa using DH.2
   have qf:∀o,w4.frozen? (VJ (w.heap.size+1) o)=false:=λo=>UL.free ⟨_,_,hb⟩ o
   have oY:=(((HG.o.1.trans S_).put Jn.1 sJ VH (g*2) (.bool v.obj)).put (Jn.1.set _ _) sJ VH (g*2+1) (VI v.n))
   have Od:((w4.setCell (VJ (w.heap.size+1) (g*2)) (.bool v.obj)).setCell (VJ (w.heap.size+1) (g*2+1)) (VI v.n)).heap[w.heap.size+1]?=some (.cells (vcs (List.replicate g Vl.zero++(f.st.take (N-g)).reverse)).toArray 79):=by
    exact aoe
   have ua:((w4.setCell (VJ (w.heap.size+1) (g*2)) (.bool v.obj)).setCell (VJ (w.heap.size+1) (g*2+1)) (VI v.n)).heap[w.heap.size]?=some (.cells (U4 (⟨94,(N:Nat),sl,xa,xb⟩,xi)) 188):=((ZW _ _ _ _ (by show w.heap.size≠w.heap.size+1;omega)).trans (ZW _ _ _ _ (by show w.heap.size≠w.heap.size+1;omega))).trans (hop.2.trans HG.o.2.2.2.2.1)
   have HR:Hid (∃sv,U5 z fb w ((w4.setCell (VJ (w.heap.size+1) (g*2)) (.bool v.obj)).setCell (VJ (w.heap.size+1) (g*2+1)) (VI v.n)) m K d.sv {f with st:=f.st.drop (N-g)} {d with sv:=sv}/\Off ((w4.setCell (VJ (w.heap.size+1) (g*2)) (.bool v.obj)).setCell (VJ (w.heap.size+1) (g*2+1)) (VI v.n)) K fb sv (w.heap.size+1)/\((w4.setCell (VJ (w.heap.size+1) (g*2)) (.bool v.obj)).setCell (VJ (w.heap.size+1) (g*2+1)) (VI v.n)).heap[w.heap.size+1]?=some (.cells (vcs (List.replicate g Vl.zero++(f.st.take (N-g)).reverse)).toArray 79)/\Off ((w4.setCell (VJ (w.heap.size+1) (g*2)) (.bool v.obj)).setCell (VJ (w.heap.size+1) (g*2+1)) (VI v.n)) K fb sv w.heap.size/\((w4.setCell (VJ (w.heap.size+1) (g*2)) (.bool v.obj)).setCell (VJ (w.heap.size+1) (g*2+1)) (VI v.n)).heap[w.heap.size]?=some (.cells (U4 (⟨94,(N:Nat),sl,xa,xb⟩,xi)) 188)):=⟨j5,ajx,(Jn.1.set _ _).set _ _,Od,(hop.1.set _ _).set _ _,ua⟩
   clear S_ Jn hop hb hu DH oY Od ua hp;go_wp2
   go_roundg g
   case measure=>omega
   case rel=>exact⟨Uu,VH,HR.o⟩
def acU {z:Nat}{K:U0}{fb:Nat}{d:RU}(fs:List Fr)(D:Int)(hk:RK w m K)(h:SX z w K fb f d)(n:Int)(sl xa xb:List UInt8)(xi:Nat)(g:SN)
 (hc:Calls prog 152 #[VG K.b,VG fb,.agg (U4 (⟨43,n,sl,xa,xb⟩,xi))] (w.alloc (.cells (U4 (⟨43,n,sl,xa,xb⟩,xi)) 188)) (UZ z fb (w.alloc (.cells (U4 (⟨43,n,sl,xa,xb⟩,xi)) 188)) K g fs)):
 Calls prog 140 #[VG K.b,VG fb,.agg (U4 (⟨43,n,sl,xa,xb⟩,xi)),VI D] w (UZ z fb w K g fs):=by
 obtain⟨W,hW,hF,hO,hb⟩:=UW hk h (⟨43,n,sl,xa,xb⟩,xi);rw[<- hW]at hc;change W=w.alloc (.cells #[.int .u8 43,VI n,.string (VF sl),.string (VF xa),.string (VF xb),VI (xi:Nat)] 188) at hW;change Calls _ _ #[VG K.b,VG fb,.agg #[.int .u8 43,VI n,.string (VF sl),.string (VF xa),.string (VF xb),VI (xi:Nat)],VI D] _ _;change Calls _ _ #[VG K.b,VG fb,.agg #[.int .u8 43,VI n,.string (VF sl),.string (VF xa),.string (VF xb),VI (xi:Nat)]] _ _ at hc;have HF:Hid _:=hF;clear hk h hF hO hb;go_enter func140,ntmps140;go_wp2_with fail;refine yJ ?_;intro e w' hw HX;obtain⟨m',K',rfl,_⟩:=hw;clear hc hW;go_wp2
 go_end0
 exact HX.o
def abS {z:Nat}{K:U0}{fb:Nat}{d:RU}(fs:List Fr)(D:Int)(hk:RK w m K)(h:SX z w K fb f d)(n:Int)(sl xa xb:List UInt8)(xi:Nat)(g:SN)
 (hc:Calls prog 152 #[VG K.b,VG fb,.agg (U4 (⟨45,n,sl,xa,xb⟩,xi))] (w.alloc (.cells (U4 (⟨45,n,sl,xa,xb⟩,xi)) 188)) (UZ z fb (w.alloc (.cells (U4 (⟨45,n,sl,xa,xb⟩,xi)) 188)) K g fs)):
 Calls prog 140 #[VG K.b,VG fb,.agg (U4 (⟨45,n,sl,xa,xb⟩,xi)),VI D] w (UZ z fb w K g fs):=by
 obtain⟨W,hW,hF,hO,hb⟩:=UW hk h (⟨45,n,sl,xa,xb⟩,xi);rw[<- hW]at hc;change W=w.alloc (.cells #[.int .u8 45,VI n,.string (VF sl),.string (VF xa),.string (VF xb),VI (xi:Nat)] 188) at hW;change Calls _ _ #[VG K.b,VG fb,.agg #[.int .u8 45,VI n,.string (VF sl),.string (VF xa),.string (VF xb),VI (xi:Nat)],VI D] _ _;change Calls _ _ #[VG K.b,VG fb,.agg #[.int .u8 45,VI n,.string (VF sl),.string (VF xa),.string (VF xb),VI (xi:Nat)]] _ _ at hc;have HF:Hid _:=hF;clear hk h hF hO hb;go_enter func140,ntmps140;go_wp2_with fail;refine yJ ?_;intro e w' hw HX;obtain⟨m',K',rfl,_⟩:=hw;clear hc hW;go_wp2
 go_end0
 exact HX.o
def adL {z:Nat}{K:U0}{fb:Nat}{d:RU}(fs:List Fr)(D:Int)(hk:RK w m K)(h:SX z w K fb f d)(n:Int)(sl xa xb:List UInt8)(xi:Nat)(g:SN)
 (hc:Calls prog 152 #[VG K.b,VG fb,.agg (U4 (⟨42,n,sl,xa,xb⟩,xi))] (w.alloc (.cells (U4 (⟨42,n,sl,xa,xb⟩,xi)) 188)) (UZ z fb (w.alloc (.cells (U4 (⟨42,n,sl,xa,xb⟩,xi)) 188)) K g fs)):
 Calls prog 140 #[VG K.b,VG fb,.agg (U4 (⟨42,n,sl,xa,xb⟩,xi)),VI D] w (UZ z fb w K g fs):=by
 obtain⟨W,hW,hF,hO,hb⟩:=UW hk h (⟨42,n,sl,xa,xb⟩,xi);rw[<- hW]at hc;change W=w.alloc (.cells #[.int .u8 42,VI n,.string (VF sl),.string (VF xa),.string (VF xb),VI (xi:Nat)] 188) at hW;change Calls _ _ #[VG K.b,VG fb,.agg #[.int .u8 42,VI n,.string (VF sl),.string (VF xa),.string (VF xb),VI (xi:Nat)],VI D] _ _;change Calls _ _ #[VG K.b,VG fb,.agg #[.int .u8 42,VI n,.string (VF sl),.string (VF xa),.string (VF xb),VI (xi:Nat)]] _ _ at hc;have HF:Hid _:=hF;clear hk h hF hO hb;go_enter func140,ntmps140;go_wp2_with fail;refine yJ ?_;intro e w' hw HX;obtain⟨m',K',rfl,_⟩:=hw;clear hc hW;go_wp2
 go_end0
 exact HX.o
def ada {z:Nat}{K:U0}{fb:Nat}{d:RU}(fs:List Fr)(D:Int)(hk:RK w m K)(h:SX z w K fb f d)(n:Int)(sl xa xb:List UInt8)(xi:Nat)(g:SN)
 (hc:Calls prog 152 #[VG K.b,VG fb,.agg (U4 (⟨60,n,sl,xa,xb⟩,xi))] (w.alloc (.cells (U4 (⟨60,n,sl,xa,xb⟩,xi)) 188)) (UZ z fb (w.alloc (.cells (U4 (⟨60,n,sl,xa,xb⟩,xi)) 188)) K g fs)):
 Calls prog 140 #[VG K.b,VG fb,.agg (U4 (⟨60,n,sl,xa,xb⟩,xi)),VI D] w (UZ z fb w K g fs):=by
 obtain⟨W,hW,hF,hO,hb⟩:=UW hk h (⟨60,n,sl,xa,xb⟩,xi);rw[<- hW]at hc;change W=w.alloc (.cells #[.int .u8 60,VI n,.string (VF sl),.string (VF xa),.string (VF xb),VI (xi:Nat)] 188) at hW;change Calls _ _ #[VG K.b,VG fb,.agg #[.int .u8 60,VI n,.string (VF sl),.string (VF xa),.string (VF xb),VI (xi:Nat)],VI D] _ _;change Calls _ _ #[VG K.b,VG fb,.agg #[.int .u8 60,VI n,.string (VF sl),.string (VF xa),.string (VF xb),VI (xi:Nat)]] _ _ at hc;have HF:Hid _:=hF;clear hk h hF hO hb;go_enter func140,ntmps140;go_wp2_with fail;refine yJ ?_;intro e w' hw HX;obtain⟨m',K',rfl,_⟩:=hw;clear hc hW;go_wp2
 go_end0
 exact HX.o
def aai {z:Nat}{K:U0}{fb:Nat}{d:RU}(fs:List Fr)(D:Int)(hk:RK w m K)(h:SX z w K fb f d)(n:Int)(sl xa xb:List UInt8)(xi:Nat)(g:SN)
 (hc:Calls prog 153 #[VG K.b,VG fb,.agg (U4 (⟨115,n,sl,xa,xb⟩,xi)),VI D] (w.alloc (.cells (U4 (⟨115,n,sl,xa,xb⟩,xi)) 188)) (UZ z fb (w.alloc (.cells (U4 (⟨115,n,sl,xa,xb⟩,xi)) 188)) K g fs)):
 Calls prog 140 #[VG K.b,VG fb,.agg (U4 (⟨115,n,sl,xa,xb⟩,xi)),VI D] w (UZ z fb w K g fs):=by
 obtain⟨W,hW,hF,hO,hb⟩:=UW hk h (⟨115,n,sl,xa,xb⟩,xi);rw[<- hW]at hc;change W=w.alloc (.cells #[.int .u8 115,VI n,.string (VF sl),.string (VF xa),.string (VF xb),VI (xi:Nat)] 188) at hW;change Calls _ _ #[VG K.b,VG fb,.agg #[.int .u8 115,VI n,.string (VF sl),.string (VF xa),.string (VF xb),VI (xi:Nat)],VI D] _ _;change Calls _ _ #[VG K.b,VG fb,.agg #[.int .u8 115,VI n,.string (VF sl),.string (VF xa),.string (VF xb),VI (xi:Nat)],VI D] _ _ at hc;have HF:Hid _:=hF;clear hk h hF hO hb;go_enter func140,ntmps140;go_wp2_with fail;refine yJ ?_;intro e w' hw HX;obtain⟨m',K',rfl,_⟩:=hw;clear hc hW;go_wp2
 go_end0
 exact HX.o
def ab4 {z:Nat}{K:U0}{fb:Nat}{d:RU}(fs:List Fr)(D:Int)(hk:RK w m K)(h:SX z w K fb f d)(n:Int)(sl xa xb:List UInt8)(xi:Nat)(g:SN)
 (hc:Calls prog 153 #[VG K.b,VG fb,.agg (U4 (⟨94,n,sl,xa,xb⟩,xi)),VI D] (w.alloc (.cells (U4 (⟨94,n,sl,xa,xb⟩,xi)) 188)) (UZ z fb (w.alloc (.cells (U4 (⟨94,n,sl,xa,xb⟩,xi)) 188)) K g fs)):
 Calls prog 140 #[VG K.b,VG fb,.agg (U4 (⟨94,n,sl,xa,xb⟩,xi)),VI D] w (UZ z fb w K g fs):=by
 obtain⟨W,hW,hF,hO,hb⟩:=UW hk h (⟨94,n,sl,xa,xb⟩,xi);rw[<- hW]at hc;change W=w.alloc (.cells #[.int .u8 94,VI n,.string (VF sl),.string (VF xa),.string (VF xb),VI (xi:Nat)] 188) at hW;change Calls _ _ #[VG K.b,VG fb,.agg #[.int .u8 94,VI n,.string (VF sl),.string (VF xa),.string (VF xb),VI (xi:Nat)],VI D] _ _;change Calls _ _ #[VG K.b,VG fb,.agg #[.int .u8 94,VI n,.string (VF sl),.string (VF xa),.string (VF xb),VI (xi:Nat)],VI D] _ _ at hc;have HF:Hid _:=hF;clear hk h hF hO hb;go_enter func140,ntmps140;go_wp2_with fail;refine yJ ?_;intro e w' hw HX;obtain⟨m',K',rfl,_⟩:=hw;clear hc hW;go_wp2
 go_end0
 exact HX.o
def Hf {z:Nat}{K:U0}{fb:Nat}{f f':Fr}{d:RU}(fs:List Fr)(D:Int)(hk:RK w m K)(hen:K.en=0)(h:SX z w K fb f d)(k:Nat)(hkk:k=119\/k=98\/k=120\/k=118\/k=99)(n:Int)(sl xa xb:List UInt8)(xi:Nat)(g:SN)(er:Int)(he:er=0)(hg:g=.on m' K.fu (f'::fs))
 (hc:Calls prog 154 #[VG K.b,VG fb,.agg (U4 (⟨k,n,sl,xa,xb⟩,xi))] (w.alloc (.cells (U4 (⟨k,n,sl,xa,xb⟩,xi)) 188)) (Le z fb (w.alloc (.cells (U4 (⟨k,n,sl,xa,xb⟩,xi)) 188)) K er m' f')):
 Calls prog 140 #[VG K.b,VG fb,.agg (U4 (⟨k,n,sl,xa,xb⟩,xi)),VI D] w (UZ z fb w K g fs):=by
 obtain⟨W,hW,hF,hO,hb⟩:=UW hk h (⟨k,n,sl,xa,xb⟩,xi);rw[<- hW]at hc;change W=w.alloc (.cells #[.int .u8 (k:Nat),VI n,.string (VF sl),.string (VF xa),.string (VF xb),VI (xi:Nat)] 188) at hW;refine ajr ?_;change Calls _ _ #[VG K.b,VG fb,.agg #[.int .u8 (k:Nat),VI n,.string (VF sl),.string (VF xa),.string (VF xb),VI (xi:Nat)]] _ _ at hc;refine ank ?_;intro HF _ _ _ _ _ _ _ _ _ _ _ _ _ _ _ n110 _ _ _ _ _ _ _ _ _ _ _ _ _ _ _ Wc;clear hk h hF hO hb hen hkk;go_enter func140,ntmps140;go_wp2_with fail;rw[<- hW];refine hc.mono ?_;rintro e w' ⟨rfl,K',d',r1,r2,r3,r4,r5⟩;clear hc hW
 have HX:Hid (UZ z fb w K g fs (.returned (.tuple #[])) w'):=⟨m',K',rfl,r1,HF.o.1.run.trans r2,by rw[r3];exact ZN _,.inl ⟨r4.trans HF.o.2,f',d',r5,by rw[hg,r3];exact To.refl _⟩⟩
 clear r1 r2 r3 r4 r5 hg;subst he;go_wp2
 go_end0
 exact HX.o
def Ky {z:Nat}{K:U0}{fb:Nat}{f f':Fr}{d:RU}(fs:List Fr)(D:Int)(hk:RK w m K)(hen:K.en=0)(h:SX z w K fb f d)(k:Nat)(hkk:k=119\/k=98\/k=120\/k=118\/k=99)(n:Int)(sl xa xb:List UInt8)(xi:Nat)(g:SN)(er:Int)(he:er≠0)(hg:g=.stop m' 3)
 (hc:Calls prog 154 #[VG K.b,VG fb,.agg (U4 (⟨k,n,sl,xa,xb⟩,xi))] (w.alloc (.cells (U4 (⟨k,n,sl,xa,xb⟩,xi)) 188)) (Le z fb (w.alloc (.cells (U4 (⟨k,n,sl,xa,xb⟩,xi)) 188)) K er m' f')):
 Calls prog 140 #[VG K.b,VG fb,.agg (U4 (⟨k,n,sl,xa,xb⟩,xi)),VI D] w (UZ z fb w K g fs):=by
 obtain⟨W,hW,hF,hO,hb⟩:=UW hk h (⟨k,n,sl,xa,xb⟩,xi);rw[<- hW]at hc;change W=w.alloc (.cells #[.int .u8 (k:Nat),VI n,.string (VF sl),.string (VF xa),.string (VF xb),VI (xi:Nat)] 188) at hW;refine ajr ?_;change Calls _ _ #[VG K.b,VG fb,.agg #[.int .u8 (k:Nat),VI n,.string (VF sl),.string (VF xa),.string (VF xb),VI (xi:Nat)]] _ _ at hc;refine ank ?_;intro HF _ _ _ _ _ _ _ _ _ _ _ _ _ _ _ n110 _ _ _ _ _ _ _ _ _ _ _ _ _ _ _ Wc;clear hk h hF hO hb hen hkk;go_enter func140,ntmps140;go_wp2_with fail;rw[<- hW];refine hc.mono ?_;rintro e w' ⟨rfl,K',d',r1,r2,r3,r4,r5⟩;clear hc hW;have hE:=r1.end_ 3
 have HX:Hid (UZ z fb w K g fs (.returned (.tuple #[])) (w'.setCell (VJ K'.b 4) (VI 3))):=⟨m',_,rfl,hE.rk,(HF.o.1.run.trans r2).trans (hE.run z fb),by show K'.fu<=_;rw[r3];exact ZN _,.inr ⟨by show (3:Int)≠0;omega,by rw[hg];exact To.refl _⟩⟩
 have hbb:=r2.b;rw[hbb]at HX;have c4:=r1.c4;have cf:=λo=>r1.Vb.free o;have hl:=r1.Vb.lt;rw[hbb]at c4 cf hl;clear r1 r2 r3 r4 r5 hg hE hbb;go_wp2
 go_end0
 exact HX.o
end Go.Proofs.Rz
