import Derived.Test.YtkghmgoefiepeaaGreatDoorK
set_option linter.all false
set_option maxHeartbeats 4000000
set_option maxRecDepth 100000
namespace Go.Proofs.Rz
open ChangeShapes WideShapes ChangeAt RowKit Kn Tryz
def wrap_succ (n:Nat):Go.RowKit.wrap64 (Go.RowKit.wrap64 (n:Nat)+1)=Go.RowKit.wrap64 ((n+1:Nat):Int):=by
 unfold Go.RowKit.wrap64;omega
def oL (n:Int):Go.RowKit.wrap64 (Go.RowKit.wrap64 (n+1)+1)=Go.RowKit.wrap64 (n+2):=by
 unfold Go.RowKit.wrap64;omega
variable {w : World}
def aeL (v:Vl):UH (w.alloc (.cells #[.bool v.obj,VI v.n] 79)) (.slice (some (VJ w.heap.size 0)) 1 1) [v] w.heap.size:=by
 refine⟨_,_,rfl,λ_=>⟨_,rfl,rfl,λj u hu=>?_⟩⟩;have hb:=(Z4 w (.cells #[.bool v.obj,VI v.n] 79)).1;rw[XJ,YU];refine Iq ?_
 match j,hu with
 | 0,hu=>exact hu
 | 1,hu=>exact hu
variable {m : Im}
def sN (h:U3 m){sel:ByteArray}{C_:Option Nat}{c:Nat}{ws:List (Kn.W×Nat)}(hf:m.find sel C_=some (c,ws))(Wr:∀c,C_=some c->c<m.kl.length):c<m.kl.length/\m.own c sel=some ws:=by
 unfold Im.find at hf
 cases C_ with
 | none=>cases hf
 | some a=>
  have:=yD h _ a c ws (Wr a rfl) hf;exact⟨this.1,this.2.2⟩
def ag5 (d:Nat)(hd:d<=32)(hR:d<32->aoV (d+1)):FQ d:=by
 intro w m K fs to C_ sel av args ab h hen Pp hfl I' X_ hargs U_ hal Wr W8 hab;have Wg:Hid _:=hfl;have pn:Hid _:=hen;have mK:=(Nu U_).2.2.2
 have HI:Hid ((∀g∈fs,Rk m 1 g)/\TF m to/\(∀v∈args,TF m v)/\args.length<=3/\args.length=U6 (bl sel)/\(∀c,C_=some c->c<m.kl.length/\m.tot c<=m.width to)):=⟨I',X_,hargs,VH,hal,Wr⟩
 have hs0:=h.look (m.looks+1);rw[show ((m.looks+1:Nat):Int)=(m.looks:Int)+1 from VH]at hs0;obtain⟨W,hW⟩:∃W,W=w.setCell (VJ K.b 2) (VI (Go.RowKit.wrap64 ((m.looks:Int)+1))):=Vx;rw[<- hW]at hs0;have Ki:W.heap.size=w.heap.size:=by rw[hW,UN]
 obtain⟨X,hX⟩:∃X,X=(W.alloc (.cells #[.bool to.obj,VI to.n] 79)).alloc (.cells #[.bool false,VI 0] 79):=Vx;have hB:Below W.heap.size W X:=by rw[hX];exact((ZR _ W).alloc UM _).alloc Vy _
 have G0:X.heap.size=w.heap.size+2:=by rw[hX,<- Ki];simp
 have xj:X.heap[w.heap.size]?=some (.cells #[.bool to.obj,VI to.n] 79):=by
  rw[hX,<- Ki];exact(ZV _ _ _ Vy).trans (Z4 W _).1
 have xv:X.heap[w.heap.size+1]?=some (.cells #[.bool false,VI 0] 79):=by
  rw[hX,<- Ki];have:=(Z4 (W.alloc (.cells #[.bool to.obj,VI to.n] 79)) (.cells #[.bool false,VI 0] 79)).1;rw[ZJ]at this;exact this
 have hs1:=hs0.trans (Vu.below hs0.rk hB);rw[hW]at hX;have hw2:=wrap_succ m.looks;rw[show ((m.looks+1:Nat):Int)=(m.looks:Int)+1 from VH]at hw2;have c2:=h.c2;have cf:=λo=>h.Vb.free o;have hbl:=h.Vb.lt;have Z1:¬K.b=w.heap.size:=VH;have W7:¬w.heap.size=K.b:=VH;have Te:¬K.b=w.heap.size+1:=VH;have pQ:¬w.heap.size+1=K.b:=VH;have C7:w.heap.size+1<X.heap.size:=VH;have HH:Hid _:=h
 have sy:Hid (UH w av args ab/\(args≠[]->K.lab ab=.no/\ab<w.heap.size)):=⟨W8,hab⟩
 have Ha:=λx e=>(Wr x e).1;have hf1:=hs1.rk.ahr C_ Ha sel;rw[FV]at hf1;obtain⟨m1,hm1⟩:∃m1:Im,m1={m with looks:=m.looks+1}:=Vx;rw[<- hm1]at hs1
 cases J':m.find sel C_ with
 | some r=>
  obtain⟨c,ws⟩:=r
  have hsend:m.send K.fu C_ to sel args fs=if 32<=fs.length then .stop m1 4 else .on m1 K.fu (⟨ws,c,to,args,0,[]⟩::fs):=by
   unfold Im.send;rw[J',hm1]
  have hown:m1.own c sel=some ws:=by rw[hm1];exact(sN h.ok J' Ha).2
  rw[J']at hf1;simp only[ZG,Qh]at hf1;have HX:Hid _:=hs1
  have HA:Hid (UH X av args ab/\(args≠[]->K.lab ab=.no/\ab<X.heap.size)):=by
   have hx1:UH X av args ab/\(args≠[]->K.lab ab=.no/\ab<X.heap.size):=⟨W8.same (λe=>hs1.Ut.block _ (hab e).2 (λx=>x.1 (hab e).1)),λe=>⟨(hab e).1,ZY (hab e).2 hs1.Ut.size⟩⟩
   exact hx1
  have t0:X.cell? (VJ w.heap.size 0)=some (.bool to.obj):=by simp only[World.cell?,xj];rfl
  have t1:X.cell? (VJ w.heap.size 1)=some (VI to.n):=by simp only[World.cell?,xj];rfl
  have z0:X.cell? (VJ (w.heap.size+1) 0)=some (.bool false):=by simp only[World.cell?,xv];rfl
  have z1:X.cell? (VJ (w.heap.size+1) 1)=some (VI 0):=by simp only[World.cell?,xv];rfl
  have zf:∀o,X.frozen? (VJ (w.heap.size+1) o)=false:=λo=>UL.free ⟨_,_,xv⟩ o;have xf:∀o,X.frozen? (VJ K.b o)=false:=λo=>hs1.rk.Vb.free o;have hxb:K.b<X.heap.size:=VH;obtain⟨nt,yi⟩:∃s,s=sel:=Vx;obtain⟨av1,T8⟩:∃s,s=av:=Vx;obtain⟨Rd,PF⟩:∃s,s=args:=Vx;obtain⟨om,uc⟩:∃s,s=ab:=Vx;rw[<- T8,<- PF,<- uc]at HA;rw[<- yi]at hown;rw[<- PF]at hsend;have n9:Hid (m.send K.fu C_ to sel args fs=if 32<=fs.length then .stop m1 4 else .on m1 K.fu (⟨ws,c,to,Rd,0,[]⟩::fs)):=by rw[<- PF];exact hsend
  clear hsend;clear h hfl hen I' X_ hargs hal Wr W8 hab hs0 hs1 hB xj xv sy hm1 Ha J' PF uc hW Ki;unfold Vl.val;go_enter func56,ntmps56;go_wp2_with fail;rw[<- hX];refine hf1.mono ?_;refine Sl ?_;rw[<- T8,<- yi];clear hf1 c2 cf T8 yi;have hsend:=n9.o;obtain⟨iB,AE,T8,_⟩:=HA.o.1;subst T8;have hxw:w.heap.size+2<=X.heap.size:=VH;clear G0;by_cases C':32<=d
  . rw[ZU gZ]at hsend;have Li:(32:Int)<=(d:Int):=VH
    have HE:Hid (lJ w m K (m.send K.fu C_ to sel args fs) fs (.returned (Vl.val Vl.zero)) (((X.setCell (VJ K.b 4) (VI 4)).setCell (VJ (w.heap.size+1) 0) (.bool false)).setCell (VJ (w.heap.size+1) 1) (VI 0))):=by
     have hx1:=HX.o.trans (HX.o.rk.end_ 4);have hx2:=hx1.told (z:=w.heap.size+1) IB jg (.bool false) (VI 0);exact⟨Vl.zero,m1,_,rfl,hx2,ZN _,.inr ⟨by show (4:Int)≠0;omega,by rw[hsend];exact To.refl _⟩⟩
    have x0:(X.setCell (VJ K.b 4) (VI 4)).cell? (VJ (w.heap.size+1) 0)=some (.bool false):=(VD yO).trans z0;have x1:(X.setCell (VJ K.b 4) (VI 4)).cell? (VJ (w.heap.size+1) 1)=some (VI 0):=(VD yO).trans z1;obtain⟨x2,x3⟩:=RQ x0 x1 (.bool false) (VI 0);have c4:=HX.o.rk.c4;clear hsend hX;go_wp2;exact ZQ (RI results56 _ _ rfl x2 x3) rfl HE.o
  . rw[ZX gZ]at hsend;refine ahi ?_;intro Li hok;obtain⟨k,i,g,Zs,mg,RM,q,hh,cc,hk,hoi,hil,hv,hg,c4,r9,d1,d0,NF,xt,hcl⟩:=HX.o.rk.found hown;have rR:=Vu.below HX.o.rk (ZR _ X).drew;have Ch:=rR.rk.agJ hk nt;rw[hoi]at Ch;have Lw:=LD HX.o.rk.ok c k hk;have L4:(K.cl.length:Int)<=12:=by rw[HX.o.rk.rel.len];have:=HX.o.rk.ok.few;omega
    refine adV ?_;intro Pu x6 Vn;have c0:=HX.o.rk.c0;rw[hv]at c0;obtain⟨nm,E_⟩:∃nm,nm=k.ms.length:=Vx;rw[<- E_]at c4 x6 Vn;obtain⟨Y,hY⟩:∃Y,Y=(X.alloc (.cells #[.slice q ws.length cc,VI (c:Nat),.bool to.obj,VI to.n,(.slice iB Rd.length AE),.slice none 0 0,VI 0] 182)).drew:=Vx;have Hv:Below X.heap.size X Y:=by rw[hY];exact((ZR _ X).alloc UM _).drew
    have rT:Y.heap.size=X.heap.size+1:=by rw[hY];show (X.alloc _).heap.size=_;simp
    have uL:Y.heap[X.heap.size]?=some (.cells #[.slice q ws.length cc,VI (c:Nat),.bool to.obj,VI to.n,(.slice iB Rd.length AE),.slice none 0 0,VI 0] 182):=by rw[hY];exact(Z4 X _).1
    have xD:=HX.o.trans (Vu.below HX.o.rk Hv)
    have hfr:SX Y.heap.size Y K X.heap.size ⟨ws,c,to,Rd,0,[]⟩ ⟨.slice none 0 0,(.slice iB Rd.length AE),.slice none 0 0,q,hh,cc,om⟩:=
     ⟨uL,NF.below UM Hv,xt,HA.o.1.same (λe=>Hv.block _ (HA.o.2 e).2),λe=>by
      have h9:=(HA.o.2 e).2
      exact⟨(HA.o.2 e).1,by show om<_;omega,by show om≠_;omega⟩,YW _ _ _ _,⟨HX.o.rk.QF UM,by omega⟩,λk e=>(by cases e),ZN _⟩
    have hrun:=hR VH Y m1 K X.heap.size _ fs _ xD.rk pn.o Pp hfr hok (by rw[Wg.o])
    have HS:Hid (Vu w Y m K m1 K/\m.send K.fu C_ to sel args fs=.on m1 K.fu (⟨ws,c,to,Rd,0,[]⟩::fs)):=⟨xD,hsend⟩
    have Fl:∀k,k<X.heap.size->Y.heap[k]?=X.heap[k]?:=λk hk=>Hv.block k hk;have y0:=(Z9 (a:=(VJ (w.heap.size+1) 0)) (Fl _ C7)).trans z0;have y1:=(Z9 (a:=(VJ (w.heap.size+1) 1)) (Fl _ C7)).trans z1;have ve:∀o,Y.frozen? (VJ (w.heap.size+1) o)=false:=λo=>(Zr (a:=(VJ (w.heap.size+1) o)) (Fl _ C7)).trans (zf o)
    have HY:Hid (Y.cell? (VJ (w.heap.size+1) 0)=some (.bool false)/\Y.cell? (VJ (w.heap.size+1) 1)=some (VI 0)/\(∀o,Y.frozen? (VJ (w.heap.size+1) o)=false)/\Y.heap.size=X.heap.size+1):=⟨y0,y1,ve,rT⟩
    clear E_ hsend hok NF hfr xD Hv uL Fl hk hown hX rR Lw hoi hil hcl y0 y1 ve xt rT hv;exact zz1
 | none=>
  rw[J']at hf1;simp only[Zm,Qh]at hf1;have G3:=hs1.trans (hs1.rk.look (m.looks+2));rw[show ((m.looks+2:Nat):Int)=(m.looks:Int)+2 from VH]at G3;obtain⟨X2,SU⟩:∃X2,X2=X.setCell (VJ K.b 2) (VI (Go.RowKit.wrap64 ((m.looks:Int)+2))):=Vx;rw[<- SU]at G3;have hw2:=oL (m.looks:Int);have x2:=hs1.rk.c2;rw[show m1.looks=m.looks+1 from by rw[hm1],show ((m.looks+1:Nat):Int)=(m.looks:Int)+1 from VH]at x2;have xf:=λo=>hs1.rk.Vb.free o;obtain⟨m1,hm2⟩:∃m1:Im,m1={m with looks:=m.looks+2}:=Vx
  have hs2:Vu w X2 m K m1 K:=by
   rw[hm2];rw[hm1]at G3;exact G3
  clear G3;have hf2:=hs2.rk.ahr C_ (λx e=>by rw[hm2];exact Ha x e) Qy;rw[hm2,FV]at hf2;have ri:X2.heap.size=X.heap.size:=by rw[SU,UN]
  have C6:∀k,k≠K.b->X2.heap[k]?=X.heap[k]?:=λk e=>by rw[SU];exact ZW X _ _ k yV
  have G4:=(C6 w.heap.size (λe=>W7 e)).trans xj;have KK:=(C6 (w.heap.size+1) (λe=>pQ e)).trans xv;obtain⟨q3,q8,Pd,qa⟩:=Nu U_;have hag:=LC sel X2 q8 VH Pd;rw[<- hal]at hag;have t0:X2.cell? (VJ w.heap.size 0)=some (.bool to.obj):=by simp only[World.cell?,G4];rfl
  have t1:X2.cell? (VJ w.heap.size 1)=some (VI to.n):=by simp only[World.cell?,G4];rfl
  have z0:X2.cell? (VJ (w.heap.size+1) 0)=some (.bool false):=by simp only[World.cell?,KK];rfl
  have z1:X2.cell? (VJ (w.heap.size+1) 1)=some (VI 0):=by simp only[World.cell?,KK];rfl
  have zf:∀o,X2.frozen? (VJ (w.heap.size+1) o)=false:=λo=>UL.free ⟨_,_,KK⟩ o;have eo:∀o,X2.frozen? (VJ K.b o)=false:=λo=>hs2.rk.Vb.free o;have hxb:K.b<X2.heap.size:=VH;have x4:=hs2.rk.c4
  cases T4:m.find Qy C_ with
  | none=>
   have hsend:m.send K.fu C_ to sel args fs=.stop m1 1:=by
    unfold Im.send;rw[J',hm2];simp only;rw[T4]
   rw[T4]at hf2;simp only[Zm,Qh]at hf2;have rN:Hid _:=hs2;have l6:Hid _:=hsend;obtain⟨an,Hh⟩:∃an,an=args.length:=Vx;rw[<- Hh]at hag;have hzl:w.heap.size+1<X2.heap.size:=VH;clear h hfl hen I' X_ hargs hal Wr W8 hab hs0 hs1 hB xj xv sy hm1 Ha J' hW Ki hs2 hm2 G4 KK hsend Hh C6 T4 G0 ri q3 q8 Pd qa;unfold Vl.val;go_enter func56,ntmps56;go_wp2_with fail;rw[<- hX];refine hf1.mono ?_;refine Sl ?_;clear hf1 c2 cf hX;go_wp2_with fail;rw[<- SU];refine hf2.mono ?_;refine Sl ?_;clear hf2 SU;go_wp2_with fail;refine hag.mono ?_;refine Sl ?_;clear hag;go_wp2_with fail;have hx1:=rN.o.trans (rN.o.rk.end_ 1);refine ahl ?_;intro hx2 hx3;have x0:(X2.setCell (VJ K.b 4) (VI 1)).cell? (VJ (w.heap.size+1) 0)=some (.bool false):=(VD yO).trans z0;have x1:(X2.setCell (VJ K.b 4) (VI 1)).cell? (VJ (w.heap.size+1) 1)=some (VI 0):=(VD yO).trans z1;obtain⟨x2,x3⟩:=RQ x0 x1 (.bool false) (VI 0);refine ZQ (RI (z:=w.heap.size+1) results56 _ _ rfl ((Z9 (a:=(VJ (w.heap.size+1) 0)) iJ).trans x2) ((Z9 (a:=(VJ (w.heap.size+1) 1)) iJ).trans x3)) rfl ?_;exact⟨Vl.zero,m1,_,rfl,hx3,ZN _,.inr ⟨by show (1:Int)≠0;omega,by rw[l6.o];exact To.refl _⟩⟩
  | some r=>
   obtain⟨c,ws⟩:=r;obtain⟨Xa,AK⟩:∃Xa,Xa=X2.alloc (.cells #[.bool false,VI (args.length:Nat)] 79):=Vx;have hBa:Below X2.heap.size X2 Xa:=by rw[AK];exact(ZR _ X2).alloc UM _
   have hs3:=hs2.trans (Vu.below hs2.rk hBa);have iN:Xa.heap.size=X2.heap.size+1:=by rw[AK];simp
   have hsend:m.send K.fu C_ to sel args fs=if 32<=fs.length then .stop m1 4 else .on m1 K.fu (⟨ws,c,to,[⟨false,args.length⟩],0,[]⟩::fs):=by
    unfold Im.send;rw[J',hm2];simp only;rw[T4]
   have hown:m1.own c Qy=some ws:=by rw[hm2];exact(sN h.ok T4 Ha).2
   rw[T4]at hf2;simp only[ZG,Qh]at hf2;have hA:UH Xa (.slice (some (VJ X2.heap.size 0)) 1 1) [⟨false,args.length⟩] X2.heap.size:=by rw[AK];exact aeL ⟨false,args.length⟩
   have hka:∀k,k<X2.heap.size->Xa.heap[k]?=X2.heap[k]?:=λk hk=>hBa.block k hk;have ze:=(hka w.heap.size VH).trans G4;have Dg:=(hka (w.heap.size+1) VH).trans KK
   have HZ:Hid (X2.cell? (VJ (w.heap.size+1) 0)=some (.bool false)/\X2.cell? (VJ (w.heap.size+1) 1)=some (VI 0)/\(∀o,X2.frozen? (VJ (w.heap.size+1) o)=false)/\X2.cell? (VJ K.b 4)=some (VI K.en)/\(∀o,X2.frozen? (VJ K.b o)=false)/\K.b<X2.heap.size/\w.heap.size+1<X2.heap.size):=⟨z0,z1,zf,x4,eo,hxb,VH⟩
   clear t0 t1 z0 z1 zf x4;have rN:Hid _:=hs2;have t0:Xa.cell? (VJ w.heap.size 0)=some (.bool to.obj):=by simp only[World.cell?,ze];rfl
   have t1:Xa.cell? (VJ w.heap.size 1)=some (VI to.n):=by simp only[World.cell?,ze];rfl
   have z0:Xa.cell? (VJ (w.heap.size+1) 0)=some (.bool false):=by simp only[World.cell?,Dg];rfl
   have z1:Xa.cell? (VJ (w.heap.size+1) 1)=some (VI 0):=by simp only[World.cell?,Dg];rfl
   have zf:∀o,Xa.frozen? (VJ (w.heap.size+1) o)=false:=λo=>UL.free ⟨_,_,Dg⟩ o;have xf3:∀o,Xa.frozen? (VJ K.b o)=false:=λo=>hs3.rk.Vb.free o;have aqd:K.b<Xa.heap.size:=VH;have W7:w.heap.size+1<Xa.heap.size:=VH;have ap3:w.heap.size+2<=Xa.heap.size:=VH;have C8:Hid _:=hs3
   have oS:Hid (UH Xa (.slice (some (VJ X2.heap.size 0)) 1 1) [⟨false,args.length⟩] X2.heap.size/\(([⟨false,args.length⟩]:List Vl)≠[]->K.lab X2.heap.size=.no/\X2.heap.size<Xa.heap.size)):=by
    have hx1:UH Xa (.slice (some (VJ X2.heap.size 0)) 1 1) [⟨false,args.length⟩] X2.heap.size/\(([⟨false,args.length⟩]:List Vl)≠[]->K.lab X2.heap.size=.no/\X2.heap.size<Xa.heap.size):=⟨hA,λ_=>⟨hs2.rk.QF UM,VH⟩⟩
    exact hx1
   have n9:Hid _:=hsend;have HOW:Hid _:=hown;obtain⟨an,Hh⟩:∃an,an=args.length:=Vx;rw[<- Hh]at hag AK;have HAN:Hid _:=Hh;clear h hfl hen I' X_ hargs hal Wr W8 hab hs0 hs1 hB xj xv sy hm1 Ha J' hW Ki hs2 hs3 hm2 hBa hA hka ze Dg G4 KK hsend hown Hh C6 T4 G0 ri q3 q8 Pd qa iN;unfold Vl.val;go_enter func56,ntmps56;go_wp2_with fail;rw[<- hX];refine hf1.mono ?_;refine Sl ?_;clear hf1 c2 cf hX;go_wp2_with fail;rw[<- SU];refine hf2.mono ?_;refine Sl ?_;clear hf2 SU;go_wp2_with fail;refine hag.mono ?_;refine Sl ?_;clear hag;have hsend:=n9.o;have hown:=HOW.o;by_cases C':32<=d
   . rw[ZU gZ]at hsend;have Li:(32:Int)<=(d:Int):=VH;have l6:Hid _:=hsend;clear hsend hown t0 t1 z0 z1 zf AK;obtain⟨z0,z1,zf,x4,eo,hxb,hzl⟩:=HZ.o;go_wp2_with fail;have hx1:=rN.o.trans (rN.o.rk.end_ 4);refine ahl ?_;intro hx2 hx3;have x0:(X2.setCell (VJ K.b 4) (VI 4)).cell? (VJ (w.heap.size+1) 0)=some (.bool false):=(VD yO).trans z0;have x1:(X2.setCell (VJ K.b 4) (VI 4)).cell? (VJ (w.heap.size+1) 1)=some (VI 0):=(VD yO).trans z1;obtain⟨x2,x3⟩:=RQ x0 x1 (.bool false) (VI 0);refine ZQ (RI (z:=w.heap.size+1) results56 _ _ rfl ((Z9 (a:=(VJ (w.heap.size+1) 0)) iJ).trans x2) ((Z9 (a:=(VJ (w.heap.size+1) 1)) iJ).trans x3)) rfl ?_;exact⟨Vl.zero,m1,_,rfl,hx3,ZN _,.inr ⟨by show (4:Int)≠0;omega,by rw[l6.o];exact To.refl _⟩⟩
   . have Li:(d:Int)<32:=by omega
     go_wp2_with fail;rw[<- AK];clear AK;rw[ZX gZ]at hsend;refine ahi ?_;intro Li hok;obtain⟨k,i,g,Zs,mg,RM,q,hh,cc,hk,hoi,hil,hv,hg,c4,r9,d1,d0,NF,xt,hcl⟩:=C8.o.rk.found hown;have rR:=Vu.below C8.o.rk (ZR _ Xa).drew;have Ch:=rR.rk.agJ hk Qy;rw[hoi]at Ch;have Lw:=LD C8.o.rk.ok c k hk;have L4:(K.cl.length:Int)<=12:=by rw[C8.o.rk.rel.len];have:=C8.o.rk.ok.few;omega
     refine adV ?_;intro Pu x6 Vn;have c0:=C8.o.rk.c0;rw[hv]at c0;obtain⟨nm,E_⟩:∃nm,nm=k.ms.length:=Vx;rw[<- E_]at c4 x6 Vn;obtain⟨Y,hY⟩:∃Y,Y=(Xa.alloc (.cells #[.slice q ws.length cc,VI (c:Nat),.bool to.obj,VI to.n,(.slice (some (VJ X2.heap.size 0)) 1 1),.slice none 0 0,VI 0] 182)).drew:=Vx;have Hv:Below Xa.heap.size Xa Y:=by rw[hY];exact((ZR _ Xa).alloc UM _).drew
     have rT:Y.heap.size=Xa.heap.size+1:=by rw[hY];show (Xa.alloc _).heap.size=_;simp
     have uL:Y.heap[Xa.heap.size]?=some (.cells #[.slice q ws.length cc,VI (c:Nat),.bool to.obj,VI to.n,(.slice (some (VJ X2.heap.size 0)) 1 1),.slice none 0 0,VI 0] 182):=by rw[hY];exact(Z4 Xa _).1
     have xD:=C8.o.trans (Vu.below C8.o.rk Hv)
     have hfr:SX Y.heap.size Y K Xa.heap.size ⟨ws,c,to,[⟨false,args.length⟩],0,[]⟩ ⟨.slice none 0 0,(.slice (some (VJ X2.heap.size 0)) 1 1),.slice none 0 0,q,hh,cc,X2.heap.size⟩:=
      ⟨uL,NF.below UM Hv,xt,oS.o.1.same (λe=>Hv.block _ (oS.o.2 e).2),λe=>by
       have h9:=(oS.o.2 e).2
       exact⟨(oS.o.2 e).1,by show X2.heap.size<_;omega,by show X2.heap.size≠_;omega⟩,YW _ _ _ _,⟨C8.o.rk.QF UM,by omega⟩,λk e=>(by cases e),ZN _⟩
     have hrun:=hR VH Y m1 K Xa.heap.size _ fs _ xD.rk pn.o Pp hfr hok (by rw[Wg.o])
     have HS:Hid (Vu w Y m K m1 K/\m.send K.fu C_ to sel args fs=.on m1 K.fu (⟨ws,c,to,[⟨false,args.length⟩],0,[]⟩::fs)):=⟨xD,hsend⟩
     have Fl:∀k,k<Xa.heap.size->Y.heap[k]?=Xa.heap[k]?:=λk hk=>Hv.block k hk;have y0:=(Z9 (a:=(VJ (w.heap.size+1) 0)) (Fl _ W7)).trans z0;have y1:=(Z9 (a:=(VJ (w.heap.size+1) 1)) (Fl _ W7)).trans z1;have ve:∀o,Y.frozen? (VJ (w.heap.size+1) o)=false:=λo=>(Zr (a:=(VJ (w.heap.size+1) o)) (Fl _ W7)).trans (zf o)
     have HY:Hid (Y.cell? (VJ (w.heap.size+1) 0)=some (.bool false)/\Y.cell? (VJ (w.heap.size+1) 1)=some (VI 0)/\(∀o,Y.frozen? (VJ (w.heap.size+1) o)=false)/\Y.heap.size=Xa.heap.size+1):=⟨y0,y1,ve,rT⟩
     clear E_ hsend hok NF hfr xD Hv uL Fl hk hown Z1 rR Lw hoi hil hcl y0 y1 ve xt rT hv;exact zz1
end Go.Proofs.Rz
namespace Go.Proofs.Rz
open ChangeShapes WideShapes ChangeAt RowKit Kn Tryz
variable {w : World}
variable {m : Im}
variable {f : Fr}
def akb {z:Nat}{K:U0}{fb:Nat}{d:RU}(fs:List Fr)(D:Int)(hk:RK w m K)(hen:K.en=0){v:Vl}{r:List Vl}(hr:r.length<=900)(h:SX z w K fb {f with st:=v::r} d) (n:Int) (sl xa xb:List UInt8) (xi:Nat):
 Calls prog 140 #[VG K.b,VG fb,.agg (U4 (⟨100,n,sl,xa,xb⟩,xi)),VI D] w (UZ z fb w K (VA m K.fu ⟨100,n,sl,xa,xb⟩ {f with st:=v::r} fs) fs):=by
 obtain⟨W,hW,hF,hO,hb⟩:=UW hk h (⟨100,n,sl,xa,xb⟩,xi);change W=w.alloc (.cells #[.int .u8 100,VI n,.string (VF sl),.string (VF xa),.string (VF xb),VI (xi:Nat)] 188) at hW;change Calls _ _ #[VG K.b,VG fb,.agg #[.int .u8 100,VI n,.string (VF sl),.string (VF xa),.string (VF xb),VI (xi:Nat)],VI D] _ _;refine NK ?_;intro HH;have HF:Hid (U5 z fb w W m K d.sv {f with st:=v::r} d/\Off W K fb d.sv w.heap.size/\W.heap[w.heap.size]?=some (.cells (U4 (⟨100,n,sl,xa,xb⟩,xi)) 188)):=SH;have hp:=Hr hF.rk hF.fr VH;unfold Vl.val at hp;clear hk h hF hO hb hen;go_enter func140,ntmps140;go_wp2_with fail;refine EF ?_;intro w1 P' S_;refine ahY ?_;intro G_ ho1 k_;obtain⟨W2,hW2⟩:∃W2,W2=w1.alloc (.cells #[.bool v.obj,VI v.n] 79):=Vx;rw[<- hW2]at G_ ho1 k_;have hp2:=PK G_.rk G_.fr Ei v;have HA:Hid _:=G_;have HO:Hid _:=ho1;unfold Vl.val at hp2;clear hp S_ G_ ho1 hW;go_wp2_with fail;refine AU ?_;intro w1 P' S_ Z6 hk2 _ c0;have Wf:=PK Z6.rk Z6.fr Ea v;have HB:Hid _:=Z6;unfold Vl.val at Wf;clear hp2 S_ Z6 hW2 hk2 k_;go_wp2_with fail;refine wM ?_;intro w1 P' S_ HC;clear Wf S_;go_wp2
 go_end0
 exact HC.o.word HH.o.2 rfl
def akP {z:Nat}{K:U0}{fb:Nat}{d:RU}(fs:List Fr)(D:Int)(hk:RK w m K)(hen:K.en=0){a:Vl}{r:List Vl}(hr:r.length<=900)(h:SX z w K fb {f with st:=a::a::r} d) (n:Int) (sl xa xb:List UInt8) (xi:Nat):
 Calls prog 140 #[VG K.b,VG fb,.agg (U4 (⟨61,n,sl,xa,xb⟩,xi)),VI D] w (UZ z fb w K (VA m K.fu ⟨61,n,sl,xa,xb⟩ {f with st:=a::a::r} fs) fs):=by
 refine alA ?_;intro W hF hO hb hW HH;have HF:Hid (U5 z fb w W m K d.sv {f with st:=a::a::r} d/\Off W K fb d.sv w.heap.size/\W.heap[w.heap.size]?=some (.cells (U4 (⟨61,n,sl,xa,xb⟩,xi)) 188)):=SH;have hp:=Hr hF.rk hF.fr Ea;unfold Vl.val at hp;clear hk h hF hO hb hen;go_enter func140,ntmps140;go_wp2_with fail;refine EF ?_;intro w1 P' S_;have G_:=(HF.o.1.trans S_).new (.cells #[.bool a.obj,VI a.n] 79);have ho1:=Qk S_.rk S_.fr (.cells #[.bool a.obj,VI a.n] 79);have k_:(w1.alloc (.cells #[.bool a.obj,VI a.n] 79)).heap[w1.heap.size]?=some (.cells #[.bool a.obj,VI a.n] 79):=(Z4 w1 _).1;obtain⟨W2,hW2⟩:∃W2,W2=w1.alloc (.cells #[.bool a.obj,VI a.n] 79):=Vx;rw[<- hW2]at G_ ho1 k_;refine ael ?_;intro hp2 HA HO;clear hp S_ G_ ho1 hW;go_wp2_with fail;refine AU ?_;intro w1 P' S_ Z6 hk2 _ c0;have hl2:=(S_.off _ HO.o).1.lt;have Vi:=Z6.new (.cells #[.bool a.obj,VI a.n] 79);have Wf:=PK Vi.rk Vi.fr Ei ⟨false,1⟩;have HB:Hid _:=Vi;unfold Vl.val at Wf;clear hp2 S_ Z6 hW2 hk2 k_ Vi;go_wp2_with fail;refine wM ?_;intro w1 P' S_ HC;clear Wf S_;go_wp2
 go_end0
 refine HC.o.word HH.o.2 ?_;simp[VA,vG]
def ald {z:Nat}{K:U0}{fb:Nat}{d:RU}(fs:List Fr)(D:Int)(hk:RK w m K)(hen:K.en=0){ao bo:Bool}{an bn:Int}{r:List Vl}(hne:¬ao=bo)(hr:r.length<=900)(h:SX z w K fb {f with st:=⟨bo,bn⟩::⟨ao,an⟩::r} d) (n:Int) (sl xa xb:List UInt8) (xi:Nat):
 Calls prog 140 #[VG K.b,VG fb,.agg (U4 (⟨61,n,sl,xa,xb⟩,xi)),VI D] w (UZ z fb w K (VA m K.fu ⟨61,n,sl,xa,xb⟩ {f with st:=⟨bo,bn⟩::⟨ao,an⟩::r} fs) fs):=by
 refine alA ?_;intro W hF hO hb hW HH;have HF:Hid (U5 z fb w W m K d.sv {f with st:=⟨bo,bn⟩::⟨ao,an⟩::r} d/\Off W K fb d.sv w.heap.size/\W.heap[w.heap.size]?=some (.cells (U4 (⟨61,n,sl,xa,xb⟩,xi)) 188)):=SH;have hp:=Hr hF.rk hF.fr Ea;unfold Vl.val at hp;clear hk h hF hO hb hen;go_enter func140,ntmps140;go_wp2_with fail;refine EF ?_;intro w1 P' S_;refine ajK ?_;intro G_ ho1 k_;obtain⟨W2,hW2⟩:∃W2,W2=w1.alloc (.cells #[.bool bo,VI bn] 79):=Vx;rw[<- hW2]at G_ ho1 k_;refine ael ?_;intro hp2 HA HO;clear hp S_ G_ ho1 hW;go_wp2_with fail;refine AU ?_;intro w1 P' S_ Z6 hk2 _ c0;have hl2:=(S_.off _ HO.o).1.lt;have Vi:=Z6.new (.cells #[.bool ao,VI an] 79);refine abh ?_;intro Wf HB;clear hp2 S_ Z6 hW2 hk2 k_ Vi;go_wp2_with fail;refine wM ?_;intro w1 P' S_ HC;clear Wf S_;go_wp2
 go_end0
 refine HC.o.word HH.o.2 ?_;simp[VA,vG,hne]
def alS {z:Nat}{K:U0}{fb:Nat}{d:RU}(fs:List Fr)(D:Int)(hk:RK w m K)(hen:K.en=0){ao:Bool}{an bn:Int}{r:List Vl}(hne:¬an=bn)(hr:r.length<=900)(h:SX z w K fb {f with st:=⟨ao,bn⟩::⟨ao,an⟩::r} d) (n:Int) (sl xa xb:List UInt8) (xi:Nat):
 Calls prog 140 #[VG K.b,VG fb,.agg (U4 (⟨61,n,sl,xa,xb⟩,xi)),VI D] w (UZ z fb w K (VA m K.fu ⟨61,n,sl,xa,xb⟩ {f with st:=⟨ao,bn⟩::⟨ao,an⟩::r} fs) fs):=by
 refine alA ?_;intro W hF hO hb hW HH;have HF:Hid (U5 z fb w W m K d.sv {f with st:=⟨ao,bn⟩::⟨ao,an⟩::r} d/\Off W K fb d.sv w.heap.size/\W.heap[w.heap.size]?=some (.cells (U4 (⟨61,n,sl,xa,xb⟩,xi)) 188)):=SH;have hp:=Hr hF.rk hF.fr Ea;unfold Vl.val at hp;clear hk h hF hO hb hen;go_enter func140,ntmps140;go_wp2_with fail;refine EF ?_;intro w1 P' S_;have G_:=(HF.o.1.trans S_).new (.cells #[.bool ao,VI bn] 79);have ho1:=Qk S_.rk S_.fr (.cells #[.bool ao,VI bn] 79);have k_:(w1.alloc (.cells #[.bool ao,VI bn] 79)).heap[w1.heap.size]?=some (.cells #[.bool ao,VI bn] 79):=(Z4 w1 _).1;obtain⟨W2,hW2⟩:∃W2,W2=w1.alloc (.cells #[.bool ao,VI bn] 79):=Vx;rw[<- hW2]at G_ ho1 k_;refine ael ?_;intro hp2 HA HO;clear hp S_ G_ ho1 hW;go_wp2_with fail;refine AU ?_;intro w1 P' S_ Z6 hk2 _ c0;have hl2:=(S_.off _ HO.o).1.lt;have Vi:=Z6.new (.cells #[.bool ao,VI an] 79);refine abh ?_;intro Wf HB;clear hp2 S_ Z6 hW2 hk2 k_ Vi;go_wp2_with fail;refine wM ?_;intro w1 P' S_ HC;clear Wf S_;go_wp2
 go_end0
 refine HC.o.word HH.o.2 ?_;simp[VA,vG,hne]
def alT {z:Nat}{K:U0}{fb:Nat}{d:RU}(fs:List Fr)(D:Nat)(hS:FQ D)(hk:RK w m K)(hen:K.en=0)(Pp:K.fu<=3000)(h:SX z w K fb {f with pc:=f.pc+1} d) (hf:Rk m 0 f) (I':∀g∈fs,Rk m 1 g) (hD:fs.length+1=D) (x:Kn.W×Nat) (hx:f.ws[f.pc]?=some x) (hr:x.1.k≠114):
 Calls prog 140 #[VG K.b,VG fb,.agg (U4 x),VI (D:Nat)] w (UZ z fb w K (VA m K.fu x.1 {f with pc:=f.pc+1} fs) fs):=by
 have hm:=hk.ok;have ZZ:=hf.good.fine f.pc x hx;have N2:=hf.good.shp f.pc x hx;have hst:=xg hf hx;have hro:=rC hf hx;have hag:=y7 hf hx;have hsl:=BU hm hf hx;have o_:=ZZ.kind;have h_:f.st.length<=16:=by have:=Nq hf.at_;omega
 have zd:=λ(st':List Vl) ht hl hv=>an7 (d:=1) (st':=st') hf LW hx ht hl hv;have hW:=UW hk h x
 obtain⟨kh,hkh⟩:∃kh,m.kl[f.home]?=some kh:=⟨_,Z8 hf.home⟩
 have hab:=Fv hm hf;obtain⟨W,JN,Ys,_,_⟩:=hW;obtain⟨⟨k,n,sl,xa,xb⟩,xi⟩:=x;obtain⟨ws,home,self,args,pc,st⟩:=f;simp only at o_ hst hro hag hsl ZZ N2 h_ hr h hx hf Ys hkh hab zd ⊢;simp only[kinds,ZM,Zx,YE]at o_;rcases o_ with rfl|rfl|rfl|rfl|rfl|rfl|rfl|rfl|rfl|rfl|rfl|rfl|rfl|rfl|rfl|rfl|rfl|rfl|rfl|rfl|rfl|rfl
 . exact akZ fs D hk hen h Ei n sl xa xb xi
 . exact aeR fs D hk hen h Ei n sl xa xb xi
 . have h1:=hag rfl;have h1:=N2.low NP;simp only at h1;obtain⟨i,hi⟩:∃i:Nat,n=i:=Dv;have h3:=hf.few;simp only at h3
   obtain⟨v,hv⟩:∃v,args[i]?=some v:=⟨_,Z8 VH⟩
   exact akA fs D hk hen h Ei n sl xa xb xi i hi h3 v hv
 . obtain⟨i,j,o,e1,e2,e3,e4⟩:=hsl NP
   obtain⟨v,hv⟩:∃v,o.slots[j]?=some v:=⟨_,Z8 e4⟩
   exact agN fs D hk hen h Ei n sl xa xb xi i j o v e1 e2 e3 hv
 . have hc:=aeY Ys.rk Ei Ys.fr n sl xa xb xi;rw[JN]at hc;by_cases he:(m.make (VF xa)).2.1=0
   . exact Hf fs D hk hen h 119 Vy n sl xa xb xi _ _ he JB hc
   . exact Ky fs D hk hen h 119 Vy n sl xa xb xi _ _ he JB hc
 . obtain⟨i,j,o,e1,e2,e3,e4⟩:=hsl JQ;obtain⟨v,r,rfl⟩:=SV (l:=st) QW;have BW:=AX hm i j v (hf.st v Vy);simp only[ZI]at h_;exact abR (f:=⟨ws,home,self,args,pc+1,v::r⟩) fs D hk hen VH h n sl xa xb xi i j o e1 e2 e3 e4 BW.1
 . obtain⟨v,r,rfl⟩:=SV (l:=st) QW;simp only[ZI]at h_;exact akk (f:=⟨ws,home,self,args,pc+1,v::r⟩) fs D hk hen v r h n sl xa xb xi VH
 . obtain⟨⟨vo,vn⟩,r,rfl⟩:=SV (l:=st) QW;have h1:=ZZ.goto JQ;simp only[ZI]at h1 h_;obtain⟨i,hi⟩:∃i:Nat,n=i:=Dv
   cases vo with
   | true=>exact aaw (f:=⟨ws,home,self,args,pc+1,⟨true,vn⟩::r⟩) fs D hk hen VH h n sl xa xb xi
   | false=>
    by_cases hz:vn=0
    . subst hz;exact lM (f:=⟨ws,home,self,args,pc+1,⟨false,0⟩::r⟩) fs D hk hen VH h n sl xa xb xi i hi
    . exact nS (f:=⟨ws,home,self,args,pc+1,⟨false,vn⟩::r⟩) fs D hk hen hz VH h n sl xa xb xi
 . exact absurd rfl hr
 . obtain⟨⟨bo,bn⟩,⟨ao,an⟩,r,rfl⟩:=PW (l:=st) QW;simp only[ZI]at h_;refine acU fs D hk h n sl xa xb xi _ ?_;rw[<- JN]
   cases ao with
   | true=>exact J4 (f:=⟨ws,home,self,args,pc+1,[]⟩) fs Ys.rk hen Vy VH Ys.fr n sl xa xb xi
   | false=>
    cases bo with
    | true=>exact Kz (f:=⟨ws,home,self,args,pc+1,[]⟩) fs Ys.rk hen Vy VH Ys.fr n sl xa xb xi
    | false=>exact adT (f:=⟨ws,home,self,args,pc+1,[]⟩) fs Ys.rk hen VH Ys.fr n sl xa xb xi
 . obtain⟨⟨bo,bn⟩,⟨ao,an⟩,r,rfl⟩:=PW (l:=st) QW;simp only[ZI]at h_;refine abS fs D hk h n sl xa xb xi _ ?_;rw[<- JN]
   cases ao with
   | true=>exact J4 (f:=⟨ws,home,self,args,pc+1,[]⟩) fs Ys.rk hen Vy VH Ys.fr n sl xa xb xi
   | false=>
    cases bo with
    | true=>exact Kz (f:=⟨ws,home,self,args,pc+1,[]⟩) fs Ys.rk hen Vy VH Ys.fr n sl xa xb xi
    | false=>
     exact abE (f:=⟨ws,home,self,args,pc+1,[]⟩) fs Ys.rk hen VH Ys.fr n sl xa xb xi
 . obtain⟨⟨bo,bn⟩,⟨ao,an⟩,r,rfl⟩:=PW (l:=st) QW;simp only[ZI]at h_;refine adL fs D hk h n sl xa xb xi _ ?_;rw[<- JN]
   cases ao with
   | true=>exact J4 (f:=⟨ws,home,self,args,pc+1,[]⟩) fs Ys.rk hen Vy VH Ys.fr n sl xa xb xi
   | false=>
    cases bo with
    | true=>exact Kz (f:=⟨ws,home,self,args,pc+1,[]⟩) fs Ys.rk hen Vy VH Ys.fr n sl xa xb xi
    | false=>
     exact ab3 (f:=⟨ws,home,self,args,pc+1,[]⟩) fs Ys.rk hen VH Ys.fr n sl xa xb xi
 . obtain⟨⟨bo,bn⟩,⟨ao,an⟩,r,rfl⟩:=PW (l:=st) QW;simp only[ZI]at h_;refine ada fs D hk h n sl xa xb xi _ ?_;rw[<- JN]
   cases ao with
   | true=>exact J4 (f:=⟨ws,home,self,args,pc+1,[]⟩) fs Ys.rk hen Vy VH Ys.fr n sl xa xb xi
   | false=>
    cases bo with
    | true=>exact Kz (f:=⟨ws,home,self,args,pc+1,[]⟩) fs Ys.rk hen Vy VH Ys.fr n sl xa xb xi
    | false=>
     by_cases hlt:an<bn
     . exact kC (f:=⟨ws,home,self,args,pc+1,[]⟩) fs Ys.rk hen hlt VH Ys.fr n sl xa xb xi
     . exact jM (f:=⟨ws,home,self,args,pc+1,[]⟩) fs Ys.rk hen hlt VH Ys.fr n sl xa xb xi
 . obtain⟨⟨bo,bn⟩,⟨ao,an⟩,r,rfl⟩:=PW (l:=st) QW;simp only[ZI]at h_;by_cases ho:ao=bo
   . subst ho;by_cases hn:an=bn
     . subst hn;exact akP (f:=⟨ws,home,self,args,pc+1,[]⟩) (a:=⟨ao,an⟩) fs D hk hen VH h n sl xa xb xi
     . exact alS (f:=⟨ws,home,self,args,pc+1,[]⟩) fs D hk hen hn VH h n sl xa xb xi
   . exact ald (f:=⟨ws,home,self,args,pc+1,[]⟩) fs D hk hen ho VH h n sl xa xb xi
 . obtain⟨v,r,rfl⟩:=SV (l:=st) QW;simp only[ZI]at h_;exact akb (f:=⟨ws,home,self,args,pc+1,[]⟩) fs D hk hen VH h n sl xa xb xi
 . refine aef ?_;intro hn0 Te d_ hna;obtain⟨N,rfl⟩:∃i:Nat,n=i:=Dv;have htk:(U9 115 (N:Nat)).1.toNat=N+1:=by simp[U9]<;>omega
   have yl:(U9 115 (N:Nat)).2.toNat=1:=zb7;rw[htk]at hst;obtain⟨to,r,hs⟩:=SV (l:=st.drop N) Vo;have hlen:(st.drop N).length=r.length+1:=by rw[hs];rfl
   rw[Zh]at hlen;have X_:=hf.st to an4;refine aai fs D hk h (N:Nat) sl xa xb xi _ ?_;rw[<- JN]
   have hg:VA m K.fu ⟨115,(N:Nat),sl,xa,xb⟩ ⟨ws,home,self,args,pc+1,st⟩ fs=m.send K.fu (m.of to) to (VF sl) (st.take N).reverse (⟨ws,home,self,args,pc+1,r⟩::fs):=by
    simp[VA,hs]
   rw[hg]
   exact akx (f:=⟨ws,home,self,args,pc+1,st⟩) fs D N hS Ys.rk hen Pp Ys.fr VH Ei sl xa xb xi kh hkh to r hs X_ (λg hg=>by
    rcases ZM.1 hg with rfl|hg
    . exact zd r uI (by rw[htk,yl];omega) (λy hy=>hf.st y (Ye kR))
    . exact I' g hg) hD agt d_ VH
 . refine abX ?_;intro hn0 Te d_ hna;obtain⟨N,rfl⟩:∃i:Nat,n=i:=Dv;have htk:(U9 94 (N:Nat)).1.toNat=N:=zb7;have yl:(U9 94 (N:Nat)).2.toNat=1:=zb7;rw[htk]at hst;refine ab4 fs D hk h (N:Nat) sl xa xb xi _ ?_;rw[<- JN]
   have hg:VA m K.fu ⟨94,(N:Nat),sl,xa,xb⟩ ⟨ws,home,self,args,pc+1,st⟩ fs=m.send K.fu (m.kl[home]?.bind (·.above)) self (VF sl) (st.take N).reverse (⟨ws,home,self,args,pc+1,st.drop N⟩::fs):=by
    simp[VA]
   rw[hg]
   exact af6 (f:=⟨ws,home,self,args,pc+1,st⟩) fs D N hS Ys.rk hen Pp Ys.fr VH Ei sl xa xb xi kh hkh hst hf.self hab (λg hg=>by
    rcases ZM.1 hg with rfl|hg
    . exact zd (st.drop N) uI (by rw[htk,yl];first|done|simp) akf
    . exact I' g hg) hD agt d_ VH
 . obtain⟨⟨vo,vn⟩,r,rfl⟩:=SV (l:=st) QW;simp only[ZI]at h_
   cases vo with
   | false=>
    have hc:=mQ (f:=⟨ws,home,self,args,pc+1,[]⟩) Ys.rk VH Ys.fr n sl xa xb xi;rw[JN]at hc;exact Ky fs D hk hen h 98 Vy n sl xa xb xi _ _ Vz (by simp[VA]) hc
   | true=>
    have hc:=alQ (f:=⟨ws,home,self,args,pc+1,[]⟩) Ys.rk VH Ys.fr n sl xa xb xi;rw[JN]at hc;by_cases he:(m.be vn (VF xa)).1=0
    . exact Hf fs D hk hen h 98 Vy n sl xa xb xi _ _ he JB hc
    . exact Ky fs D hk hen h 98 Vy n sl xa xb xi _ _ he JB hc
 . have h1:=ZZ.goto NP;simp only at h1;obtain⟨i,hi⟩:∃i:Nat,n=i:=Dv;exact agu fs D hk hen h Ei n sl xa xb xi i hi
 . have hc:=ad4 Ys.rk Ys.fr n sl xa xb xi;rw[JN]at hc;by_cases he:(m.drop (VF xa) (VF sl)).1=0
   . exact Hf fs D hk hen h 120 Vy n sl xa xb xi _ _ he JB hc
   . exact Ky fs D hk hen h 120 Vy n sl xa xb xi _ _ he JB hc
 . have hc:=aew Ys.rk Ys.fr n sl xa xb xi;rw[JN]at hc;by_cases he:(m.move (VF xa) (VF xb)).1=0
   . exact Hf fs D hk hen h 118 Vy n sl xa xb xi _ _ he JB hc
   . exact Ky fs D hk hen h 118 Vy n sl xa xb xi _ _ he JB hc
 . have hc:=aer Ys.rk Ys.fr n sl xa xb xi;rw[JN]at hc;by_cases he:(m.copy (VF xa) (VF sl) (VF xb)).1=0
   . exact Hf fs D hk hen h 99 Vy n sl xa xb xi _ _ he JB hc
   . exact Ky fs D hk hen h 99 Vy n sl xa xb xi _ _ he JB hc
variable {fs : List Fr}
def SN.Ok.top {fu:Nat}(h:(SN.on m fu (f::fs)).Ok):Rk m 0 f/\(∀g∈fs,Rk m 1 g)/\fs.length+1<=32:=⟨h.2.1.1,h.2.1.2,h.2.2⟩
def RInv (z fb:Nat)(W:World)(m0:Im)(K0:U0)(f0:Fr)(fs:List Fr)(gk:Nat)(wr:World):Prop:=∃m K f d,RK wr m K/\K.en=0/\SX z wr K fb f d/\Pm z fb W wr K0 K/\(SN.on m K.fu (f::fs)).Ok/\To (.on m0 K0.fu (f0::fs)) (.on m K.fu (f::fs))/\K.fu<=K0.fu/\K.fu<gk
def NR (fb:Nat)(w:World)(m0:Im)(K0:U0)(f0:Fr)(fs:List Fr)(e:Ending)(w':World):Prop:=∃v m' K',e=.returned (Vl.val v)/\RK w' m' K'/\Pm w.heap.size fb w w' K0 K'/\K'.fu<=K0.fu/\uD (.on m0 K0.fu (f0::fs)) fs v m' K'
variable {m0 : Im}
def NR.mk {z fb:Nat}{w W X:World}{K0 K:U0}{f0:Fr}(hz:Rz w W)(hk0:RK w m0 K0)(hzz:z=W.heap.size)(Pc:RK X m K)(hr:Pm z fb W X K0 K)(Rm:K.fu<=K0.fu)(v:Vl)(he:uD (.on m0 K0.fu (f0::fs)) fs v m K)(hfb:fb<w.heap.size):NR fb w m0 K0 f0 fs (.returned (Vl.val v)) ((X.setCell (VJ w.heap.size 0) (.bool v.obj)).setCell (VJ w.heap.size 1) (VI v.n)):=by
 have hl0:=hk0.QF UM;have hl:=(hr.lab _ hz.lt).trans hl0;have hC:Vt X ((X.setCell (VJ w.heap.size 0) (.bool v.obj)).setCell (VJ w.heap.size 1) (VI v.n)) (λk=>K.lab k=.no):=((Vt.refl X _).setCell _ _ (λ_=>hl)).setCell _ _ (λ_=>hl);refine⟨v,m,K,rfl,Pc.frame hC,⟨?_,λk hk=>(hr.lab k (VW hk hz.lt)).trans rfl,hr.b⟩,Rm,he⟩
 have Hp:Vt w X (K0.Own fb w.heap.size):=(Vt.of_below hz.bel _).then hr.Ut (λk hk e=>by
  rcases e with e|e|e
  . exact .inl e
  . exact .inr (.inl e)
  . have:=hz.lt
    omega)
 exact(Hp.setCell _ _ (λe=>by have e:w.heap.size<w.heap.size:=e;omega)).setCell _ _ (λe=>by have e:w.heap.size<w.heap.size:=e;omega)
def Rz.kept {z fb:Nat}{w W X:World}{K0 K:U0}(hz:Rz w W)(hk0:RK w m0 K0)(hzz:z=W.heap.size)(hfb:fb<w.heap.size)(hr:Pm z fb W X K0 K):X.heap[w.heap.size]?=some (.cells #[.bool false,VI 0] 79):=by
 refine(hr.Ut.block _ hz.lt (λe=>?_)).trans hz.blk;rcases e with e|e|e
 . exact e.1 (hk0.QF UM)
 . omega
 . have:=hz.lt;omega
def apG (D:Nat)(hS:FQ D):aoV D:=by
 intro w m0 K0 fb f0 fs d0 hk0 rL uu h0 hok0 hD;show Calls _ _ _ _ (NR fb w m0 K0 f0 fs);obtain⟨W,hW,ep,hz⟩:=hk0.res
 have HZ:Hid (Rz w W/\RK w m0 K0/\fb<w.heap.size/\fs.length+1=D/\K0.fu<=3000):=⟨hz,hk0,h0.lt,hD,uu⟩
 have hs0:=h0.step (Vu.below hk0 hz.bel)
 have kb:SX W.heap.size W K0 fb f0 d0:=⟨hs0.blk,hs0.ws,hs0.wq,hs0.args,λe=>⟨(hs0.ga e).1,VW (hs0.ga e).2.1 hz.lt,(hs0.ga e).2.2⟩,hs0.st,⟨hs0.gf.1,VW hs0.gf.2 hz.lt⟩,λk e=>by have:=(h0.st.lt k e).2;have:=(h0.gs k e).2;omega,ZN _⟩
 obtain⟨z,hzz⟩:∃z,z=W.heap.size:=Vx;rw[<- hzz]at kb;have AI:Hid _:=hzz
 have HI:Hid (RInv z fb W m0 K0 f0 fs (K0.fu+1) W):=⟨m0,K0,f0,d0,ep,rL,kb,Pm.refl _ _ _ _,hok0,To.refl _,ZN _,XA _⟩
 have HS:Hid (FQ D):=hS;clear hk0 rL uu h0 hok0 hD ep hz kb hS hs0 hzz;go_enter func97,ntmps97;go_wp2_with fail;rw[<- hW];clear hW
 go_loopg [] (K0.fu+1) (λgk wr=>RInv z fb W m0 K0 f0 fs gk wr)
 case atStart=>exact HI.o
 case round=>
  obtain⟨m,K,f,d,hk,hen,hf,Pf,hok,X_,Rm,p9⟩:=hrel;have hbb:=Pf.b;obtain⟨hfr,I',h0⟩:=SN.Ok.top hok
  have HV:Hid (RK wr m K/\K.en=0/\SX z wr K fb f d/\Pm z fb W wr K0 K/\(SN.on m K.fu (f::fs)).Ok/\To (.on m0 K0.fu (f0::fs)) (.on m K.fu (f::fs))/\K.fu<=K0.fu/\K.fu<gk):=⟨hk,hen,hf,Pf,hok,X_,Rm,p9⟩
  have f0':=hf.f0;have f6:=hf.f6;have hfl:=hf.lt;have hfz:=λo=>hf.Vb.free o;have hbl:=hk.Vb.lt;have z9:=HZ.o.1.kept HZ.o.2.1 AI.o HZ.o.2.2.1 Pf;have hRl:=(Z5.1 z9).1;have z0:=(Vp z9).1;have z1:=(Vp z9).2;have zf:∀o,wr.frozen? (VJ w.heap.size o)=false:=λo=>UL.free ⟨_,_,z9⟩ o;have hwl:=hfr.good.len;have Mw:¬fb=w.heap.size:=aa6;have aqi:¬w.heap.size=fb:=λe=>Mw e.symm;have hnb:¬K0.b=w.heap.size:=by have:=HZ.o.2.1.Vb.lt;omega
  have j4:¬w.heap.size=K0.b:=λe=>hnb e.symm;have gA:¬fb=K0.b:=λe=>by have h0:=hf.gf.1;rw[e,<- hbb,hk.lh]at h0;cases h0
  have ez:¬K0.b=fb:=λe=>gA e.symm;rw[hbb]at hbl
  cases hx:f.ws[f.pc]? with
  | none=>
   have hge:¬(f.pc:Int)<(f.ws.length:Int):=by
    have:¬f.pc<f.ws.length:=λe=>by rw[Z8 e]at hx;cases hx
    omega
   have f6:=hf.f2;have f6:=hf.f3;have hst:stepM m K.fu (f::fs)=QJ m K.fu f.self fs:=by simp[stepM,hx]
   have HE:Hid (uD (.on m0 K0.fu (f0::fs)) fs f.self m K):=.inl ⟨hen,X_.trans (by rw[<- hst];exact To.one)⟩;obtain⟨y0,y1⟩:=RQ z0 z1 (.bool f.self.obj) (VI f.self.n);clear hk hen hf Pf hok X_ Rm p9 hx hst z9;go_wp2_with fail;refine Uy ?_;refine ag0 ?_;intro hHeld;refine FU ?_;refine Nr ?_;go_wp2_with fail;have hdr:=Vu.below HV.o.1 (ZR _ wr).drew;have hP:=NR.mk (f0:=f0) (fs:=fs) HZ.o.1 HZ.o.2.1 AI.o HV.o.1 HV.o.2.2.2.1 HV.o.2.2.2.2.2.2.1 f.self HE.o HZ.o.2.2.1;obtain⟨v',m',K',e1,e2,e3,e4,e5⟩:=hP;exact am9
  | some x=>
   have hpl:=(Z7.1 hx).1;have hpi:(f.pc:Int)<(f.ws.length:Int):=VH;have Lv:(f.ws.length:Int)<=40:=VH
   have hxk:x.1.k<256:=by
    have:=(hfr.good.fine f.pc x hx).kind;simp only[kinds,ZM,Zx,YE]at this;omega
   cases K9:K.fu with
   | zero=>
    have c3:=hk.c3;rw[hbb,K9]at c3;have c4:=hk.c4;have kf:=λo=>hk.Vb.free o;rw[hbb]at c4 kf;have hE:=hk.end_ 2;have hst:stepM m K.fu (f::fs)=.stop m 2:=by simp[stepM,hx,K9]
    have hP:=NR.mk (f0:=f0) (fs:=fs) HZ.o.1 HZ.o.2.1 AI.o hE.rk (Pf.trans (hE.run z fb)) Rm Vl.zero (.inr ⟨by show (2:Int)≠0;omega,X_.trans (by rw[<- hst];exact To.one)⟩) HZ.o.2.2.1;rw[hbb]at hP;have HP:Hid (NR fb w m0 K0 f0 fs (.returned (Vl.val Vl.zero)) (((wr.setCell (VJ K0.b 4) (VI 2)).setCell (VJ w.heap.size 0) (.bool false)).setCell (VJ w.heap.size 1) (VI 0))):=hP;have x0:(wr.setCell (VJ K0.b 4) (VI 2)).cell? (VJ w.heap.size 0)=some (.bool false):=(VD (by intro e;injection e with e;exact hnb e)).trans z0;have x1:(wr.setCell (VJ K0.b 4) (VI 2)).cell? (VJ w.heap.size 1)=some (VI 0):=(VD (by intro e;injection e with e;exact hnb e)).trans z1;obtain⟨y0,y1⟩:=RQ x0 x1 (.bool false) (VI 0);clear hk hen hf Pf hok X_ Rm p9 hx hst z9 hE hP K9;go_wp2_with fail;refine Uy ?_;refine ag0 ?_;intro hHeld;refine FU ?_;refine Nr ?_;go_wp2_with fail;obtain⟨v',m',K',e1,e2,e3,e4,e5⟩:=HP.o;exact am9
   | succ fu=>
    have c3:=hk.c3;rw[hbb,K9]at c3;have kf:=λo=>hk.Vb.free o;rw[hbb]at kf;have hw3:((fu+1:Nat):Int)-1=(fu:Nat):=VH;have hfi:((fu+1:Nat):Int)<=3000:=by have:=HZ.o.2.2.2.2;omega
    have ap9:¬((fu+1:Nat):Int)=0:=VH;have T9:=hf.ws.head VH;rw[T9]at f0';have GM:=hk.fuel fu;have z':=GM.trans (Vu.below GM.rk (ZR _ _).drew);obtain⟨K1,Sp⟩:∃K1:U0,K1={K with fu:=fu}:=Vx;rw[<- Sp,hbb]at z';obtain⟨X2,SU⟩:∃X2,X2=(wr.setCell (VJ K0.b 3) (VI (fu:Nat))).drew:=Vx;rw[<- SU]at z';have hb1:K1.b=K0.b:=by rw[Sp];exact hbb
    have he1:K1.en=0:=by rw[Sp];exact hen
    have hu1:K1.fu=fu:=by rw[Sp]
    have hf2:=hf.step z';have g0:=hf2.f0;rw[T9]at g0;have g0:=hf2.f6;have w0:=hf2.ws.c0 f.pc x hx;have w0:=hf2.ws.c1 f.pc x hx;have w0:=hf2.ws.c2 f.pc x hx;have w0:=hf2.ws.c3 f.pc x hx;have w0:=hf2.ws.c4 f.pc x hx;have w0:=hf2.ws.c5 f.pc x hx;have aqj:=hf2.lt;have bx:=hf2.ws.lt VH;have Z1:¬fb=X2.heap.size:=VH;have Z1:¬X2.heap.size=fb:=VH;have Te:¬d.wh=X2.heap.size:=VH;have Te:¬X2.heap.size=d.wh:=VH
    have HX:Hid (Vu wr X2 m K m K1/\SX z X2 K1 fb f d):=⟨z',hf2⟩
    obtain⟨X3,qu⟩:∃X3,X3=(X2.alloc (.cells #[.int .u8 x.1.k,VI x.1.n,.string (VF x.1.sel),.string (VF x.1.a),.string (VF x.1.b),VI (x.2:Nat)] 188)).drew:=Vx;have j_:Below X2.heap.size X2 X3:=by rw[qu];exact(UF _ _).drew
    have z_:=Vu.below z'.rk j_;have hf3:=hf2.step z_;have Wf:X3.heap[X2.heap.size]?=some (.cells (U4 x) 188):=by rw[qu];exact(Z4 X2 _).1
    have B_:=hf3.set (f':={f with pc:=f.pc+1}) (d':=d) z_.rk 6 (VI ((f.pc+1:Nat):Int)) rfl rfl rfl rfl rfl rfl rfl hf3.st hf3.gs;have vd:((f.pc+1:Nat):Int)=(f.pc:Int)+1:=VH;rw[vd]at B_;obtain⟨X4,B8⟩:∃X4,X4=X3.setCell (VJ fb 6) (VI ((f.pc:Int)+1)):=Vx;have hr4:Pm z fb X3 X4 K1 K1:=by rw[B8];exact Ii ((Vt.refl X3 _).setCell _ _ Dx)
    rw[<- B8]at B_;have Lz:X4.heap[X2.heap.size]?=some (.cells (U4 x) 188):=by rw[B8];exact(ZW _ _ _ _ (λe=>Z1 e)).trans Wf
    have S2:=((Pf.trans (z'.run z fb)).trans (z_.run z fb)).trans hr4;have v0:X3.cell? (VJ X2.heap.size 0)=some (.int .u8 x.1.k):=by simp only[World.cell?,Wf];rfl
    have v1:X3.cell? (VJ X2.heap.size 1)=some (VI x.1.n):=by simp only[World.cell?,Wf];rfl
    have v1:X3.cell? (VJ X2.heap.size 2)=some (.string (VF x.1.sel)):=by simp only[World.cell?,Wf];rfl
    have v1:X3.cell? (VJ X2.heap.size 3)=some (.string (VF x.1.a)):=by simp only[World.cell?,Wf];rfl
    have v1:X3.cell? (VJ X2.heap.size 4)=some (.string (VF x.1.b)):=by simp only[World.cell?,Wf];rfl
    have v1:X3.cell? (VJ X2.heap.size 5)=some (VI (x.2:Nat)):=by simp only[World.cell?,Wf];rfl
    have hvl:=(Z5.1 Wf).1;have h0:=hf3.f6;have h3z:=hf3.Vb.free 6;have h3l:=hf3.lt
    have H4:Hid (RK X4 m K1/\SX z X4 K1 fb {f with pc:=f.pc+1} d/\Pm z fb W X4 K0 K1):=⟨B_.2,B_.1,S2⟩
    have hstep:stepM m K.fu (f::fs)=VA m K1.fu x.1 {f with pc:=f.pc+1} fs:=by rw[hu1];simp[stepM,hx,K9]
    have RW:Hid (To (.on m0 K0.fu (f0::fs)) (VA m K1.fu x.1 {f with pc:=f.pc+1} fs)/\(VA m K1.fu x.1 {f with pc:=f.pc+1} fs).Ok/\K1.fu<=K0.fu/\K1.fu+1<gk/\K1.en=0/\K1.b=K0.b/\K1.fu<=3000):=by
     have hx1:To (.on m0 K0.fu (f0::fs)) (VA m K1.fu x.1 {f with pc:=f.pc+1} fs)/\(VA m K1.fu x.1 {f with pc:=f.pc+1} fs).Ok/\K1.fu<=K0.fu/\K1.fu+1<gk/\K1.en=0/\K1.b=K0.b/\K1.fu<=3000:=⟨X_.trans (by rw[<- hstep];exact To.one),by rw[<- hstep];exact step_ok hok,VH,VH,he1,hb1,VH⟩
     exact hx1
    have NE:Hid (Rk m 0 f/\(∀g∈fs,Rk m 1 g)/\f.ws[f.pc]?=some x):=⟨hfr,I',hx⟩
    have Sk:=HZ.o.1.kept HZ.o.2.1 AI.o HZ.o.2.2.1 S2;clear vd hk hen hf Pf hok X_ Rm p9 hx z9 GM z' Sp hf2 z_ hf3 j_ Wf B_ hr4 Lz S2 hstep hfr I' K9 hu1 he1;go_wp2_with fail;refine Uy ?_;refine ZT (S:=(λw'=>w'.cell? (VJ fb 6)=some (VI (f.pc:Nat))/\w'.cell? (VJ fb 0)=some (.slice (some (VJ d.wh 0)) f.ws.length d.wc))) VE UG (λhHeld=>?_);refine FU ?_;refine Nr ?_;go_wp2_with fail;rw[<- SU];clear SU;refine Uy ?_;refine ZT (S:=(λw'=>w'.cell? (VJ fb 6)=some (VI (f.pc:Nat))/\w'.cell? (VJ fb 0)=some (.slice (some (VJ d.wh 0)) f.ws.length d.wc)/\w'.cell? (VJ d.wh (f.pc*6))=some (.int .u8 x.1.k)/\w'.cell? (VJ d.wh (f.pc*6+1))=some (VI x.1.n)/\w'.cell? (VJ d.wh (f.pc*6+2))=some (.string (VF x.1.sel))/\w'.cell? (VJ d.wh (f.pc*6+3))=some (.string (VF x.1.a))/\w'.cell? (VJ d.wh (f.pc*6+4))=some (.string (VF x.1.b))/\w'.cell? (VJ d.wh (f.pc*6+5))=some (VI (x.2:Nat)))) VE UG (λhHeld=>?_);refine FU ?_;refine Fe ?_;intro hHeld
    try refine UE ?_
    refine yF ?_;intro hHeld;refine Um ?_;rw[<- qu];clear qu;by_cases hret:x.1.k=114
    . have hk0:(x.1.k:Int)=114:=by omega
      rw[hk0]at v0;obtain⟨v,r,hs⟩:=SV (l:=f.st) (by have h0:=xg NE.o.1 NE.o.2.2;rw[hret]at h0;simp[U9]at h0;omega);have Kg:=H4.o.2.1;have h0:f.st.length<=16:=by have:=Nq NE.o.1.at_;omega
      have hw3:VA m K1.fu x.1 {f with pc:=f.pc+1} fs=QJ m K1.fu v fs:=by simp[VA,hret,hs]
      have D4:({f with pc:=f.pc+1}:Fr)={({f with pc:=f.pc+1}:Fr) with st:=v::r}:=by rw[<- hs]
      rw[D4]at Kg;rw[hs]at h0;simp only[ZI]at h0;have Lx:=Hr (f:={f with pc:=f.pc+1}) H4.o.1 Kg VH;have HW4:Hid _:=hw3;unfold Vl.val at Lx;clear Kg hw3 D4 hs;go_wp2_with fail;rw[<- B8];refine Lx.mono ?_;rintro e w0 ⟨rfl,j5,EQ⟩;have S2:=H4.o.2.2.trans EQ.run;refine agR ?_;intro Sk a0 a1 af al;obtain⟨y0,y1⟩:=RQ a0 a1 (.bool v.obj) (VI v.n);have HP:Hid (NR fb w m0 K0 f0 fs (.returned (Vl.val v)) ((w0.setCell (VJ w.heap.size 0) (.bool v.obj)).setCell (VJ w.heap.size 1) (VI v.n))):=NR.mk HZ.o.1 HZ.o.2.1 AI.o EQ.rk S2 RW.o.2.2.1 v (.inl ⟨RW.o.2.2.2.2.1,by rw[<- HW4.o];exact RW.o.1⟩) HZ.o.2.2.1;clear EQ S2 Sk Lx B8;exact aiR
    . have eg:¬(x.1.k:Int)=114:=by omega
      have hword:=alT (d:=d) fs D HS.o H4.o.1 RW.o.2.2.2.2.1 RW.o.2.2.2.2.2.2 H4.o.2.1 NE.o.1 NE.o.2.1 HZ.o.2.2.2.1 x NE.o.2.2 hret;rw[hb1]at hword;unfold U4 at hword;go_wp2_with fail;rw[<- B8];refine hword.mono ?_;rintro e w0 ⟨m6,K1,rfl,hk0,hr4,y6,F0⟩;have S2:=H4.o.2.2.trans hr4;have c3:=hk0.c4;have hb1:K1.b=K0.b:=S2.b;rw[hb1]at c3;have aD:=hk0.Vb.lt;rw[hb1]at aD;refine agR ?_;intro Sk a0 a1 af al;have hf2:K1.fu<=K0.fu:=ZC y6 RW.o.2.2.1;rcases F0 with⟨sL,f6',d0,Kg,KM⟩|⟨sL,KM⟩
      . have HN:Hid (RInv z fb W m0 K0 f0 fs (gk-1) w0):=⟨m6,K1,f6',d0,hk0,sL,Kg,S2,KM.ok RW.o.2.1,RW.o.1.trans KM,hf2,by have:=RW.o.2.2.2.1;omega⟩
        have de:gk-1<gk:=by have:=RW.o.2.2.2.1;omega
        rw[sL]at c3;clear hk0 hr4 y6 S2 Sk Kg KM hword B8 sL hb1 hf2;go_wp2_with fail
        go_roundg (gk-1)
        case measure=>omega
        case rel=>exact HN.o
      . obtain⟨y0,y1⟩:=RQ a0 a1 (.bool false) (VI 0);have HP:Hid (NR fb w m0 K0 f0 fs (.returned (Vl.val Vl.zero)) ((w0.setCell (VJ w.heap.size 0) (.bool false)).setCell (VJ w.heap.size 1) (VI 0))):=NR.mk HZ.o.1 HZ.o.2.1 AI.o hk0 S2 hf2 Vl.zero (.inr ⟨sL,RW.o.1.trans KM⟩) HZ.o.2.2.1;clear hk0 hr4 y6 S2 Sk KM hword B8 hb1 hf2;exact aiR
end Go.Proofs.Rz
namespace Go.Proofs.Rz
open ChangeShapes WideShapes ChangeAt RowKit Kn Tryz
theorem sends_all:∀(k d:Nat),k+d=32->FQ d
 | 0,d,h=>ag5 d VH (λe=>VH)
 | k+1,d,h=>ag5 d VH (λ_=>apG (d+1) (sends_all k (d+1) VH))
def iT:FQ 0:=sends_all 32 0 rfl
variable {w : World}
def OD {fn:Func}{p k l:Tmp}(h:fn.results=#[.cell p 79,.tmp k,.tmp l]){tmps:Array Value}{z:Nat}(v0 v1 v u:Value)(hp:tmps.getD p undef=(VG z))(hk:tmps.getD k undef=v)(hl:tmps.getD l undef=u)(z0:w.cell? (VJ z 0)=some v0)(z1:w.cell? (VJ z 1)=some v1):
 (results fn tmps).run prog w=.ok (.tuple #[.agg #[v0,v1],v,u]) w:=by
 exact al2
def amv (w:World)(m:Im)(K:U0)(r:Vl×Int×Int×Im)(e:Ending)(w':World):Prop:=∃K',e=.returned (.tuple #[r.1.val,VI r.2.1,VI r.2.2.1])/\Vu w w' m K r.2.2.2 K'
variable {m : Im}
def adD {K:U0}(h:RK w m K)(to:Vl)(X_:TB to.n)(sel:ByteArray)(hs:sel.size<=maxLen){ap:Option Addr}{cap:Nat}{args:List Vl}{ab:Nat}(W8:UH w (.slice ap args.length cap) args ab)(hab:args≠[]->K.lab ab=.no/\ab<w.heap.size)(hargs:∀v∈args,TB v.n)(hal:args.length<=maxLen)(fuel:Int):
 Calls prog 28 #[VG K.b,to.val,.string sel,.slice ap args.length cap,VI fuel] w (amv w m K (m.Uf to sel args fuel)):=by
 obtain⟨W,hW⟩:∃W,W=(w.alloc (.cells #[.bool to.obj,VI to.n] 79)).alloc (.cells #[.bool false,VI 0] 79):=Vx;have hB:Below w.heap.size w W:=by rw[hW];exact J5 _ _ _
 have Ki:W.heap.size=w.heap.size+2:=by rw[hW];simp
 have Mf:W.heap[w.heap.size]?=some (.cells #[.bool to.obj,VI to.n] 79):=by
  rw[hW];exact(ZV _ _ _ Vy).trans (Z4 w _).1
 have hbz:W.heap[w.heap.size+1]?=some (.cells #[.bool false,VI 0] 79):=by
  rw[hW];have:=(Z4 (w.alloc (.cells #[.bool to.obj,VI to.n] 79)) (.cells #[.bool false,VI 0] 79)).1;rw[ZJ]at this;exact this
 have hst:=Vu.below h hB;have t0:=(Vp Mf).1;have t1:=(Vp Mf).2;have z0:=(Vp hbz).1;have z1:=(Vp hbz).2;have zf:∀o,W.frozen? (VJ (w.heap.size+1) o)=false:=λo=>UL.free ⟨_,_,hbz⟩ o;have hbl:=h.Vb.lt;have W7:¬w.heap.size+1=K.b:=VH;have hw1:w.heap.size<W.heap.size:=VH;have hw1:w.heap.size+1<W.heap.size:=VH;have hwb:K.b<W.heap.size:=VH
 have HH:Hid (RK w m K/\Vu w W m K m K):=⟨h,hst⟩
 have wt:Hid _:=hbz;obtain⟨y0,y1⟩:=RQ z0 z1 (.bool false) (VI 0);have HR:Hid (Vu w ((W.setCell (VJ (w.heap.size+1) 0) (.bool false)).setCell (VJ (w.heap.size+1) 1) (VI 0)) m K m K):=hst.told IB (h.QF IB) _ _;have hsl:=Pj sel W hs;obtain⟨r,hr⟩:∃r,m.Uf to sel args fuel=r:=Vx;rw[hr];have hr0:=hr;unfold Im.Uf at hr
 have Nd:Hid (UH W (.slice ap args.length cap) args ab/\(args≠[]->K.lab ab=.no/\ab<w.heap.size)):=⟨W8.same (λe=>hB.block _ (hab e).2),hab⟩
 cases U_:selector (bl sel) with
 | false=>
  rw[ZU (.inl U_)]at hr;subst hr;rw[U_]at hsl;clear h hst W8 hab Mf hbz hB Ki hr0;unfold Vl.val;go_enter func28,ntmps28;go_wp2_with fail;rw[<- hW];clear hW;refine hsl.mono ?_;exact aoB
 | true=>
  rw[U_]at hsl;obtain⟨q3,q3,Pd,qa⟩:=Nu U_;have hag:=LC sel W q3 VH Pd;obtain⟨an,Hh⟩:∃an,an=U6 (bl sel):=Vx;rw[<- Hh]at hag hr qa;unfold maxLen at hal;by_cases hbad:an≠args.length\/fuel<0\/3000<fuel
  . rw[ZU (.inr hbad)]at hr;subst hr;clear h hst W8 hab Mf hbz hB Ki hr0 Hh;unfold Vl.val
    by_cases hb1:(an:Int)=(args.length:Int)
    . by_cases hb2:fuel<0
      . exact alL
      . have hb3:3000<fuel:=by omega
        exact alL
    . exact alL
  . have IF:=Zt λe=>hbad (.inl e);have hf0:0<=fuel:=VH;have hf3:fuel<=3000:=VH;rw[ZX (by rw[U_];simp;omega)]at hr;obtain⟨fu,rfl⟩:=YP hf0;have PR:fu<=3000:=VH;rw[Zp]at hr;have Fx:=hst.rk.there to.n;by_cases Nm:(to.obj&&!m.there to.n)=true
    . rw[ZU (by simp[WX,Nm])]at hr;subst hr;simp at Nm;rw[Nm.2]at Fx;have M6:=Nm.1;clear h hst W8 hab Mf hbz hB Ki hr0 Hh hbad Nm;subst IF;unfold Vl.val;obtain⟨et,tn⟩:=to;simp only at M6;subst M6;go_enter func28,ntmps28;go_wp2_with fail;rw[<- hW];clear hW;refine CB ?_;go_wp2_with fail;refine hag.mono ?_;refine Sl ?_;go_wp2_with fail;refine Fx.mono ?_;exact aoB
    . have M6:(to.obj&&!m.there to.n)=false:=by simpa using Nm
      have eT:Hid ((if (to::args).any (λv=>v.obj&&!m.there v.n)=true then (Vl.zero,(0:Int),(4:Int),m) else match runM (2*fu+64) (m.send fu (m.of to) to sel args []) with
       | .told m' v=>(v,0,0,m')
       | .stop m' e=>(Vl.zero,e,0,m')
       | .on m' _ _=>(Vl.zero,0,0,m'))=r):=hr
      have HI:Hid (TB to.n/\(∀v∈args,TB v.n)/\selector (bl sel)=true/\args.length=U6 (bl sel)/\fu<=3000):=⟨X_,hargs,U_,VH,PR⟩
      obtain⟨et,tn⟩:=to;have OS:Hid _:=M6;simp only at Nm M6 Fx t0 t1;clear hr hr0 h hst W8 hab Mf hbz hB Hh hbad Nm X_ hargs;subst IF;unfold Vl.val
      cases et with
      | false=>
       clear Fx M6;go_enter func28,ntmps28;go_wp2_with fail;rw[<- hW];clear hW;refine CB ?_;go_wp2_with fail;refine hag.mono ?_;refine Sl ?_;go_wp2_with fail
       go_loopw [13] (λi wr=>∃j:Nat,i=VI j/\j<=args.length/\(∀k v,k<j->args[k]?=some v->(v.obj&&!m.there v.n)=false)/\wr=W) (λi _=>args.length-(intOf i).toNat)
       case atStart=>exact⟨0,rfl,VH,λk v hk=>VH,rfl⟩
       case round=>
        obtain⟨j,rfl,hj,H_,rfl⟩:=hrel;have HG:Hid _:=H_;clear H_;by_cases hjl:j<args.length
        . obtain⟨v,hv⟩:∃v,args[j]?=some v:=⟨_,Z8 hjl⟩
          have hne:args≠[]:=λe=>qN;obtain⟨o,hap,hget⟩:=KL Nd.o.1 hne;obtain⟨a0,a1⟩:=hget j v hv;have hadd:(VJ ab o).add (j*2)=(VJ ab (o+j*2)):=XJ _ _ _;subst hap;have FE:(j:Int)<(args.length:Int):=VH;have TE:=HH.o.2.rk.there v.n;have HV:Hid _:=hv;clear hget hv hne;obtain⟨vo,vn⟩:=v;simp only at a0 a1 TE
          cases vo with
          | false=>
           go_wp2
           go_roundw
           case rel=>exact⟨j+1,Uu,VH,λk u hk hu=>by
            by_cases e:k=j
            . exact ahX
            . exact HG.o k u VH hu,sK⟩
           case measure=>simp[intOf]<;>omega
          | true=>
           cases ht:m.there vn with
           | true=>
            rw[ht]at TE;go_wp2_with fail;refine TE.mono ?_;refine Sl ?_;go_wp2
            go_roundw
            case rel=>exact⟨j+1,Uu,VH,λk u hk hu=>by
             by_cases e:k=j
             . exact agT
             . exact HG.o k u VH hu,sK⟩
            case measure=>simp[intOf]<;>omega
           | false=>
            exact amx
        . obtain rfl:j=args.length:=by omega
          have hno:(((⟨false,tn⟩:Vl)::args).any (λv=>v.obj&&!m.there v.n))=false:=by
           exact aog
          refine aiP ?_;intro hr0 hs1 hs2 c3 c4 kf;obtain⟨K2,hK2⟩:∃K2:U0,K2={K with fu:=fu,en:=0}:=Vx;obtain⟨X2,SU⟩:∃X2,X2=(wr.setCell (VJ K.b 3) (VI (fu:Nat))).setCell (VJ K.b 4) (VI 0):=Vx;rw[<- SU]at hs2;refine amo ?_;intro G0 Ax W7 s0 s1 Bs M7 LR
          have RW:Hid (TF m ⟨false,tn⟩):=⟨HI.o.1,λe=>aiM⟩
          refine ajq ?_;intro Mx;have Lf:=aby Bs.rk ⟨false,tn⟩ RW.o;have Ly:=aby M7.rk ⟨false,tn⟩ RW.o;rw[LR.2.2.1]at Lf Ly;unfold Vl.val at Lf Ly;refine aiO ?_;intro HX gF C7;clear hs1 hs2 Bs M7 hK2 LR G0 Ax hno;go_wp2_with fail;rw[<- SU];clear SU t0 t1;refine Uy ?_;refine ZT (S:=(λw'=>w'.cell? (VJ w.heap.size 0)=some (.bool false)/\w'.cell? (VJ w.heap.size 1)=some (VI tn))) VE UG (λhHeld=>?_);refine pJ ?_;refine tC ?_;refine Zv (rs:=[4,8]) VE Vy ?_;refine(ZO (o:=_) rfl (λY_ Z_=>?Sa1) (ZO (o:=_) rfl (λY_ Z_=>?Sa2) ZA))
          case' Sa1=>
           refine ain ?_;intro w3 hb3 q3 Pd z_
           try go_wp2_with fail
           refine Z_.go λhHeld=>?_;clear Z_ Y_
           try refine UE ?_
           refine Zv (rs:=[7,8]) VE Vy ?_;refine(ZO (o:=_) rfl (λY_ Z_=>?cF) (ZO (o:=_) rfl (λY_ Z_=>?Sb2) ZA))
           case' cF=>
            refine aiq ?_;intro w_;refine afG ?_;intro w4 v m' K' r_ PR d_ p0 p1;unfold Vl.val
            try go_wp2_with fail
            refine Z_.go λhHeld=>?_;clear Z_ Y_;refine ah4 ?_;intro _ hHeld ST;refine aY ?_;intro UV Eg Tk PH hzl a0 a1;refine aow ?_;intro af QR b0 b1 hvl HY;obtain⟨Y,S1⟩:∃Y,Y=w4.alloc (.cells #[.bool v.obj,VI v.n] 79):=Vx;rw[<- S1]at UV Tk hzl a0 a1 b0 b1 hvl HY ⊢;refine zN ?_;intro A3;clear PH QR af S1 r_ ST z_ w_;rcases d_ with⟨he0,T1⟩|⟨KB,T1⟩
            . exact aaF
            . exact dH
           case' Sb2=>
            have m7:X2.heap.size<=w3.heap.size:=hb3.size;have m5:¬w3.heap.size=w.heap.size:=VH;refine Vg ?_;intro hHeld;clear Z_ Y_
            try refine UE ?_
            have Wt:=z_.trans (Vu.below z_.rk (UF w3 (.cells #[.bool false,VI 0] 79)));have dx:(w3.alloc (.cells #[.bool false,VI 0] 79)).cell? (VJ w.heap.size 0)=some (.bool false):=(Z9 (a:=(VJ w.heap.size 0)) abD).trans q3;refine ams ?_;intro qn hvb Se R7 Pt;have w_:=iT (w3.alloc (.cells #[.bool false,VI 0] 79)) m K2 [] ⟨false,tn⟩ (m.of ⟨false,tn⟩) sel (.slice ap args.length cap) args ab Wt.rk HX.o.2.2.2.2.1 iQ rfl gy RW.o Mx.o HI.o.2.2.1 HI.o.2.2.2.1 eU (Nd.o.1.same (λe=>(Wt.Ut.block ab wB ajO))) (λe=>⟨(Wt.lab ab wB).trans (Nd.o.2 e).1,ZY wB Wt.Ut.size⟩);rw[HX.o.2.2.2.2.2.1,HX.o.2.2.2.1]at w_;unfold Vl.val at w_;refine Ul 7 λY_ Z_=>?_;refine FT ?_;rintro e w4 ⟨v,m',K',rfl,r_,PR,d_⟩;refine ahV ?_;intro p0 p1 Wo u0 u1 uf
            try go_wp2_with fail
            refine Z_.go λhHeld=>?_;clear Z_ Y_;refine tZ ?_;intro hHeld;refine ajH ?_;intro SZ S0 ST;refine aY ?_;intro UV Eg Tk PH hzl a0 a1;refine ao0 ?_;intro af QR b0 b1 hvl HY;obtain⟨Y,S1⟩:∃Y,Y=(w4.setCell (VJ w3.heap.size 0) (.bool v.obj)).setCell (VJ w3.heap.size 1) (VI v.n):=Vx;rw[<- S1]at UV Tk hzl a0 a1 b0 b1 hvl HY ⊢;refine zN ?_;intro A3;clear PH QR af S1 r_ ST SZ w_ Wo S0;rcases d_ with⟨he0,T1⟩|⟨KB,T1⟩
            . exact aaF
            . exact dH
          case' Sa2=>
           refine Vg ?_;intro hHeld;clear Z_ Y_;refine am1 ?_;intro Y_ Z_ w3 hb3 Od q3 Pd z_
           try go_wp2_with fail
           refine Z_.go λhHeld=>?_;clear Z_ Y_;refine ajd ?_;intro hvb Se R7 Pt;refine aiq ?_;intro w_;refine Ul 7 λY_ Z_=>?_;refine afG ?_;intro w4 v m' K' r_ PR d_ p0 p1;refine agZ ?_;intro Wo u0 u1 uf
           try go_wp2_with fail
           refine Z_.go λhHeld=>?_;clear Z_ Y_;refine tZ ?_;intro hHeld;refine ah8 ?_;intro SZ S0 ST;refine aY ?_;intro UV Eg Tk PH hzl a0 a1;refine aoO ?_;intro af QR b0 b1 hvl HY;obtain⟨Y,S1⟩:∃Y,Y=(w4.setCell (VJ X2.heap.size 0) (.bool v.obj)).setCell (VJ X2.heap.size 1) (VI v.n):=Vx;rw[<- S1]at UV Tk hzl a0 a1 b0 b1 hvl HY ⊢;refine zN ?_;intro A3;clear PH QR af S1 r_ ST SZ w_ Wo S0;rcases d_ with⟨he0,T1⟩|⟨KB,T1⟩
           . exact aaF
           . exact dH
      | true=>
       have lz:m.there tn=true:=by simpa using M6
       rw[lz]at Fx;clear M6;go_enter func28,ntmps28;go_wp2_with fail;rw[<- hW];clear hW;refine CB ?_;go_wp2_with fail;refine hag.mono ?_;refine Sl ?_;go_wp2_with fail;refine Fx.mono ?_;refine Sl ?_;go_wp2_with fail
       go_loopw [13] (λi wr=>∃j:Nat,i=VI j/\j<=args.length/\(∀k v,k<j->args[k]?=some v->(v.obj&&!m.there v.n)=false)/\wr=W) (λi _=>args.length-(intOf i).toNat)
       case atStart=>exact⟨0,rfl,VH,λk v hk=>VH,rfl⟩
       case round=>
        obtain⟨j,rfl,hj,H_,rfl⟩:=hrel;have HG:Hid _:=H_;clear H_;by_cases hjl:j<args.length
        . obtain⟨v,hv⟩:∃v,args[j]?=some v:=⟨_,Z8 hjl⟩
          have hne:args≠[]:=λe=>qN;obtain⟨o,hap,hget⟩:=KL Nd.o.1 hne;obtain⟨a0,a1⟩:=hget j v hv;have hadd:(VJ ab o).add (j*2)=(VJ ab (o+j*2)):=XJ _ _ _;subst hap;have FE:(j:Int)<(args.length:Int):=VH;have TE:=HH.o.2.rk.there v.n;have HV:Hid _:=hv;clear hget hv hne;obtain⟨vo,vn⟩:=v;simp only at a0 a1 TE
          cases vo with
          | false=>
           go_wp2
           go_roundw
           case rel=>exact⟨j+1,Uu,VH,λk u hk hu=>by
            by_cases e:k=j
            . exact ahX
            . exact HG.o k u VH hu,sK⟩
           case measure=>simp[intOf]<;>omega
          | true=>
           cases ht:m.there vn with
           | true=>
            rw[ht]at TE;go_wp2_with fail;refine TE.mono ?_;refine Sl ?_;go_wp2
            go_roundw
            case rel=>exact⟨j+1,Uu,VH,λk u hk hu=>by
             by_cases e:k=j
             . exact agT
             . exact HG.o k u VH hu,sK⟩
            case measure=>simp[intOf]<;>omega
           | false=>
            exact amx
        . obtain rfl:j=args.length:=by omega
          have hno:(((⟨true,tn⟩:Vl)::args).any (λv=>v.obj&&!m.there v.n))=false:=by
           exact aog
          refine aiP ?_;intro hr0 hs1 hs2 c3 c4 kf;obtain⟨K2,hK2⟩:∃K2:U0,K2={K with fu:=fu,en:=0}:=Vx;obtain⟨X2,SU⟩:∃X2,X2=(wr.setCell (VJ K.b 3) (VI (fu:Nat))).setCell (VJ K.b 4) (VI 0):=Vx;rw[<- SU]at hs2;refine amo ?_;intro G0 Ax W7 s0 s1 Bs M7 LR
          have RW:Hid (TF m ⟨true,tn⟩):=⟨HI.o.1,λe=>aiM⟩
          refine ajq ?_;intro Mx;have Lf:=aby Bs.rk ⟨true,tn⟩ RW.o;have Ly:=aby M7.rk ⟨true,tn⟩ RW.o;rw[LR.2.2.1]at Lf Ly;unfold Vl.val at Lf Ly;refine aiO ?_;intro HX gF C7;clear hs1 hs2 Bs M7 hK2 LR G0 Ax hno;go_wp2_with fail;rw[<- SU];clear SU t0 t1;refine Uy ?_;refine ZT (S:=(λw'=>w'.cell? (VJ w.heap.size 0)=some (.bool true)/\w'.cell? (VJ w.heap.size 1)=some (VI tn))) VE UG (λhHeld=>?_);refine pJ ?_;refine tC ?_;refine Zv (rs:=[4,8]) VE Vy ?_;refine(ZO (o:=_) rfl (λY_ Z_=>?Ta1) (ZO (o:=_) rfl (λY_ Z_=>?Ta2) ZA))
          case' Ta1=>
           refine ain ?_;intro w3 hb3 q3 Pd z_
           try go_wp2_with fail
           refine Z_.go λhHeld=>?_;clear Z_ Y_
           try refine UE ?_
           refine Zv (rs:=[7,8]) VE Vy ?_;refine(ZO (o:=_) rfl (λY_ Z_=>?Tb1) (ZO (o:=_) rfl (λY_ Z_=>?Tb2) ZA))
           case' Tb1=>
            refine ahp ?_;intro w_;refine afG ?_;intro w4 v m' K' r_ PR d_ p0 p1;unfold Vl.val
            try go_wp2_with fail
            refine Z_.go λhHeld=>?_;clear Z_ Y_;refine ah4 ?_;intro _ hHeld ST;refine aY ?_;intro UV Eg Tk PH hzl a0 a1;refine aow ?_;intro af QR b0 b1 hvl HY;obtain⟨Y,S1⟩:∃Y,Y=w4.alloc (.cells #[.bool v.obj,VI v.n] 79):=Vx;rw[<- S1]at UV Tk hzl a0 a1 b0 b1 hvl HY ⊢;refine zN ?_;intro A3;clear PH QR af S1 r_ ST z_ w_;rcases d_ with⟨he0,T1⟩|⟨KB,T1⟩
            . exact aaF
            . exact dH
           case' Tb2=>
            have m7:X2.heap.size<=w3.heap.size:=hb3.size;have m5:¬w3.heap.size=w.heap.size:=VH;refine Vg ?_;intro hHeld;clear Z_ Y_
            try refine UE ?_
            have Wt:=z_.trans (Vu.below z_.rk (UF w3 (.cells #[.bool false,VI 0] 79)));have dx:(w3.alloc (.cells #[.bool false,VI 0] 79)).cell? (VJ w.heap.size 0)=some (.bool true):=(Z9 (a:=(VJ w.heap.size 0)) abD).trans q3;refine ams ?_;intro qn hvb Se R7 Pt;have w_:=iT (w3.alloc (.cells #[.bool false,VI 0] 79)) m K2 [] ⟨true,tn⟩ (m.of ⟨true,tn⟩) sel (.slice ap args.length cap) args ab Wt.rk HX.o.2.2.2.2.1 iQ rfl gy RW.o Mx.o HI.o.2.2.1 HI.o.2.2.2.1 eU (Nd.o.1.same (λe=>(Wt.Ut.block ab wB ajO))) (λe=>⟨(Wt.lab ab wB).trans (Nd.o.2 e).1,ZY wB Wt.Ut.size⟩);rw[HX.o.2.2.2.2.2.1,HX.o.2.2.2.1]at w_;unfold Vl.val at w_;refine Ul 7 λY_ Z_=>?_;refine FT ?_;rintro e w4 ⟨v,m',K',rfl,r_,PR,d_⟩;refine ahV ?_;intro p0 p1 Wo u0 u1 uf
            try go_wp2_with fail
            refine Z_.go λhHeld=>?_;clear Z_ Y_;refine tZ ?_;intro hHeld;refine ajH ?_;intro SZ S0 ST;refine aY ?_;intro UV Eg Tk PH hzl a0 a1;refine ao0 ?_;intro af QR b0 b1 hvl HY;obtain⟨Y,S1⟩:∃Y,Y=(w4.setCell (VJ w3.heap.size 0) (.bool v.obj)).setCell (VJ w3.heap.size 1) (VI v.n):=Vx;rw[<- S1]at UV Tk hzl a0 a1 b0 b1 hvl HY ⊢;refine zN ?_;intro A3;clear PH QR af S1 r_ ST SZ w_ Wo S0;rcases d_ with⟨he0,T1⟩|⟨KB,T1⟩
            . exact aaF
            . exact dH
          case' Ta2=>
           refine Vg ?_;intro hHeld;clear Z_ Y_;refine am1 ?_;intro Y_ Z_ w3 hb3 Od q3 Pd z_
           try go_wp2_with fail
           refine Z_.go λhHeld=>?_;clear Z_ Y_;refine ajd ?_;intro hvb Se R7 Pt;refine ahp ?_;intro w_;refine Ul 7 λY_ Z_=>?_;refine afG ?_;intro w4 v m' K' r_ PR d_ p0 p1;refine agZ ?_;intro Wo u0 u1 uf
           try go_wp2_with fail
           refine Z_.go λhHeld=>?_;clear Z_ Y_;refine tZ ?_;intro hHeld;refine ah8 ?_;intro SZ S0 ST;refine aY ?_;intro UV Eg Tk PH hzl a0 a1;refine aoO ?_;intro af QR b0 b1 hvl HY;obtain⟨Y,S1⟩:∃Y,Y=(w4.setCell (VJ X2.heap.size 0) (.bool v.obj)).setCell (VJ X2.heap.size 1) (VI v.n):=Vx;rw[<- S1]at UV Tk hzl a0 a1 b0 b1 hvl HY ⊢;refine zN ?_;intro A3;clear PH QR af S1 r_ ST SZ w_ Wo S0;rcases d_ with⟨he0,T1⟩|⟨KB,T1⟩
           . exact aaF
           . exact dH
end Go.Proofs.Rz
