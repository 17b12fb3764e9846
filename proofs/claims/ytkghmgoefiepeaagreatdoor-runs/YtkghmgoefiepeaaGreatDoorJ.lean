import Derived.Test.YtkghmgoefiepeaaGreatDoorRows
import Derived.LaidMore
import Derived.Stop.Joined
import Derived.Deep.Slices
import Derived.SizedLaws
import Derived.SliceStrings
import Derived.Test.YtkghmgoefiepeaaGreatDoorCards
import Derived.Test.YtkghmgoefiepeaaGreatDoorTie
import Derived.SevenTiedAt
import Derived.Test.YtkghmgoefiepeaaGreatDoorG
import Derived.Test.YtkghmgoefiepeaaGreatDoorI
set_option linter.unusedSimpArgs false
set_option linter.unusedVariables false
set_option maxHeartbeats 4000000
set_option maxRecDepth 100000
namespace Go.Proofs.Rz
open ChangeShapes WideShapes ChangeAt RowKit Kn Iz Tryz
structure Two (w0 w:World)(b1 b2:Nat)(m1 m2:Im)(K1 K2:Kd):Prop where
 a1:At w0 b1 w m1 K1
 a2:At w0 b2 w m2 K2
 apart:∀k,U2 m1 K1 k->¬U2 m2 K2 k
variable {w w' w0 : World}
structure Scr (w:World)(sp:Option Addr)(os:List NM):Prop where
 at_:os≠[]->∃sb so,sp=some (VJ sb so)/\sb<w.heap.size/\∀i o,os[i]?=some o->(w.cell? (VJ sb (so+i*9))=some (VI o.kind)/\w.cell? (VJ sb (so+i*9+1))=some (.string o.s)/\w.cell? (VJ sb (so+i*9+2))=some (.string o.t)/\w.cell? (VJ sb (so+i*9+3))=some (.string o.u)/\w.cell? (VJ sb (so+i*9+4))=some (VI o.n)/\w.cell? (VJ sb (so+i*9+5))=some (VI o.k)/\w.cell? (VJ sb (so+i*9+6))=some (.bool o.to.obj)/\w.cell? (VJ sb (so+i*9+7))=some (VI o.to.n)/\w.cell? (VJ sb (so+i*9+8))=some (.slice o.ap o.args.length o.cap))
 ok:∀o∈os,OI w o
theorem OI.below {o:NM}(h:OI w o)(hb:Below w.heap.size w w'):OI w' o:=
 ⟨h.zs,h.zt,h.zu,h.to,h.args.same (λhn=>hb.block _ (h.lt hn)),λhn=>ZY (h.lt hn) hb.size,h.all⟩
variable {m : Im}
variable {K : Kd}
theorem OI.off {b:Nat}{o:NM}(h:OI w o)(ha:At w b w' m K):o.args≠[]->¬U2 m K o.ab:=λhn e=>by have:=ha.lo _ e;have:=h.lt hn;omega
structure Du (w0 w:World)(b rb:Nat)(m1 m2:Im)(K:Kd)(R:U0):Prop where
 J7:Qv w0
 a:At w0 b w m1 K
 r:RK w m2 R
 sZ:R.b=rb
 lo:∀k,R.lab k≠.no->w0.heap.size<=k
 apart:∀k,U2 m1 K k->R.lab k=.no
variable {K' : Kd}
theorem Du.kin {b rb:Nat}{m1 m2 m':Im}{R:U0}(h:Du w0 w b rb m1 m2 K R)(s:Step w w' m1 K m' K'):Du w0 w' b rb m' m2 K' R:=
 ⟨h.J7,h.a.step s,h.r.same s.Ut.size (λk e=>s.Ut.block k (h.r.lt k e) (λf=>e (h.apart k f))) R.lab Ji (λk e=>ZY (h.r.lt k e) s.Ut.size),h.sZ,h.lo,λk e=>by
  rcases s.foot k e with e|e
  . exact h.apart k e
  . exact h.r.QF e⟩
theorem Du.ref {b rb:Nat}{m1 m2 m':Im}{R R':U0}(h:Du w0 w b rb m1 m2 K R)(s:Vu w w' m2 R m' R'):Du w0 w' b rb m1 m' K R':=by
 have hblk:∀k,k<w.heap.size->R.lab k=.no->w'.heap[k]?=w.heap[k]?:=λk hk e=>s.Ut.block k hk (λx=>x.1 e)
 have hgl:∀k,Gl k->k<w.heap.size/\R.lab k=.no:=λk e=>⟨ZY (h.J7.lt e) h.a.bel.size,Zt λx=>by have:=h.lo k x;have:=h.J7.lt e;omega⟩
 refine⟨h.J7,⟨h.a.Ub.same (λk e=>hblk k (h.a.Ub.lt e) (h.apart k e)) (h.a.Ub.J7.same s.Ut.size (λk e=>hblk k (hgl k e).1 (hgl k e).2)),h.a.lo,h.a.bel.trans (s.Ut.below h.a.bel.size (λk _ e=>h.lo k e.1)),h.a.b_⟩,s.rk,s.b.trans h.sZ,λk e=>?_,λk e=>(s.lab k (h.a.Ub.lt e)).trans (h.apart k e)⟩;by_cases hk:k<w.heap.size
 . rw[s.lab k hk]at e;exact h.lo k e
 . have:=h.a.bel.size;omega
theorem Du.below {b rb:Nat}{m1 m2:Im}{R:U0}(h:Du w0 w b rb m1 m2 K R)(hb:Below w.heap.size w w'):Du w0 w' b rb m1 m2 K R:=h.kin (Step.below h.a.Ub hb)
theorem adK (a0 a1:Int)(w:World)(h:Oh a0 a1):
 Calls prog 8 #[VI a0,VI a1] w λe w'=>∃R:U0,e=.returned (.tuple #[VG R.b,VI 0])/\RK w' im0 R/\(∀k,R.lab k≠.no->w.heap.size<=k)/\Below w.heap.size w w':=by
 obtain⟨h0,h0,h2,h3,h3⟩:=h;go_enter func8,ntmps8;go_wp2
 go_ret2
 have hB:Below w.heap.size w ((w.alloc (.cells #[.string ⟨#[65,110,121]⟩,VI (-1),VI 0,.slice none 0 0,.string ⟨#[73,110,116]⟩,VI 0,VI 0,.slice none 0 0] 74)).alloc (.cells #[.slice (some (VJ w.heap.size 0)) 2 2,.slice none 0 0,VI 0,VI 0,VI 0] 78)):=J5 _ _ _
 have ho:=(World.ownsRow_lit (base:=0) (e:=74) (size:=4) w #[.string ⟨#[65,110,121]⟩,VI (-1),VI 0,.slice none 0 0,.string ⟨#[73,110,116]⟩,VI 0,VI 0,.slice none 0 0] 2 nO SE rfl)
 have hb:=(Z4 (w.alloc (.cells #[.string ⟨#[65,110,121]⟩,VI (-1),VI 0,.slice none 0 0,.string ⟨#[73,110,116]⟩,VI 0,VI 0,.slice none 0 0] 74)) (.cells #[.slice (some (VJ w.heap.size 0)) 2 2,.slice none 0 0,VI 0,VI 0,VI 0] 78)).1;rw[ZJ]at hb;refine⟨⟨w.heap.size+1,.slice (some (VJ w.heap.size 0)) 2 2,.slice none 0 0,ajv,λ_=>0,λk=>if k=w.heap.size then .cls else if k=w.heap.size+1 then .head else .no,0,0⟩,rfl,⟨acd,?_,ho.alloc _,⟨rfl,λc k x hk hx=>?_⟩,YW _ _ _ _,λi o hi=>(by cases hi),Vy,λk e=>?_,λk e=>EO,λk e=>?_⟩,λk e=>?_,hB⟩
 . have hw:Go.RowKit.wrap64 ((im0.looks:Nat):Int)=0:=by unfold Go.RowKit.wrap64;simp[im0]
   rw[hw];exact hb
 . match c,hk,hx with
   | 0,hk,hx=>
    exact agQ
   | 1,hk,hx=>
    exact agQ
   | c+2,hk,hx=>simp[im0]at hk
 . injection e with e;have e:w.heap.size=k:=e;subst e;simp
 . simp only at e;simp only[ZJ];exact anA
 . simp only at e;exact anA
theorem NG (v:Vl)(w:World):Calls prog 22 #[v.val] w λe w'=>e=.returned v.val/\Below w.heap.size w w':=by
 unfold Vl.val;go_enter func22,ntmps22;go_wp2_with fail;have hb:=(Z4 (w.alloc (.cells #[.bool v.obj,VI v.n] 33)) (.cells #[.bool v.obj,VI v.n] 79)).1;rw[ZJ]at hb;exact ZQ (RI results22 _ _ rfl (Vp hb).1 (Vp hb).2) rfl ⟨rfl,J5 _ _ _⟩
theorem BN {ap:Option Addr}{cap:Nat}{args:List Vl}{ab:Nat}(W8:UH w (.slice ap args.length cap) args ab)(hab:args≠[]->ab<w.heap.size)(hal:args.length*16<=140737488355328):
 Calls prog 27 #[.slice ap args.length cap] w λe w'=>∃v,e=.returned v/\w'.ownsRow w.heap.size 79 2 v args.length (vcs args)/\Below w.heap.size w w':=by
 obtain⟨i0,hi0,hz0,hz1,hz2⟩:=YQ GV;obtain⟨n,hn⟩:∃n,n=args.length:=Vx
 have HN:Hid (n=args.length/\UH w (.slice ap args.length cap) args ab/\(args≠[]->ab<w.heap.size)):=⟨hn,W8,hab⟩
 rw[<- hn]at hal ⊢;have hni:(n:Int)<=8796093022208:=VH;clear W8 hab hn;go_enter func27,ntmps27;go_wp2_with fail
 go_loopw [3,4] (λl i wr=>∃j:Nat,i=VI j/\j<=n/\Below w.heap.size w wr/\wr.ownsRow w.heap.size 79 2 l j (vcs (args.take j))) (λ_ i _=>n-(intOf i).toNat)
 case atStart=>exact⟨0,rfl,VH,ZR _ _,YW _ _ _ _⟩
 case round=>
  obtain⟨j,rfl,hj,hbl,hown⟩:=hrel;have HB:Hid _:=hbl;by_cases hjn:j<n
  . obtain⟨v,hv⟩:∃v,args[j]?=some v:=⟨_,Z8 (by rw[<- HN.o.1];exact hjn)⟩
    have hne:args≠[]:=λe=>qN;obtain⟨o,hap,hget⟩:=KL HN.o.2.1 hne;obtain⟨a0,a1⟩:=hget j v hv;have IF:=HN.o.2.2 hne;rw[<- hbl.cell (p:=(VJ ab (o+j*2))) IF]at a0;rw[<- hbl.cell (p:=(VJ ab (o+j*2+1))) IF]at a1;subst hap;have FE:(j:Int)<(n:Int):=VH
    have HV:Hid (args[j]?=some v/\wr.ownsRow w.heap.size 79 2 u3 j (vcs (args.take j))):=⟨hv,hown⟩
    have PA:=NG v wr;unfold Vl.val at PA;clear hget hv hne hbl hown;go_wp2_with fail;refine PA.mono ?_;rintro e w1 ⟨rfl,hb1⟩;have hown1:=own_below HV.o.2 hb1;have yn:=HB.o.trans (hb1.mono HB.o.size);have hnews:=Us w1 [.bool v.obj,VI v.n] 79
    have SM:Hid (Below w.heap.size w w1/\w1.ownsRow w.heap.size 79 2 u3 j (vcs (args.take j))):=⟨yn,hown1⟩
    have Rv:=yn.size;clear hb1 yn PA
    go_wp2_with first
     | (at_builtin;refine wpList_append_own_at _ rfl _ _ 89 rfl w.heap.size 79 i0 (.agg #[.bool false,VI 0]) 2 16 underlying89 hi0 hz0 hz1 hz2 rfl Vz _ _ _ rfl (hown1.alloc _) (VJ w1.heap.size 0) 1 1 [.bool v.obj,VI v.n] rfl rfl hnews vH SE VH Ey ?_)
     | fail
    intro v2 W2 hown2 hg2 _ _
    have D1:Hid (W2.ownsRow w.heap.size 79 2 v2 (j+1) (vcs (args.take (j+1)))/\Below w.heap.size w W2):=by
     have hx1:W2.ownsRow w.heap.size 79 2 v2 (j+1) (vcs (args.take (j+1)))/\Below w.heap.size w W2:=⟨by rw[Yc,HV.o.1];exact(MV (args.take j) [v]) ▸ hown2,Tc (wr:=w1) SM.o.1 UM SM.o.2 hg2⟩
     exact hx1
    clear hown2 hg2 hnews hown1 a0 a1;go_wp2
    go_roundw
    case rel=>exact⟨j+1,Uu,VH,D1.o.2,D1.o.1⟩
    case measure=>simp[intOf]<;>omega
  . obtain rfl:j=n:=by omega
    have HO:Hid (wr.ownsRow w.heap.size 79 2 u3 j (vcs args)):=by
     have hx1:wr.ownsRow w.heap.size 79 2 u3 j (vcs args):=by
      have h9:=hown;rw[HN.o.1,Yv]at h9;rw[HN.o.1];exact h9
     exact hx1
    clear hown hbl;go_wp2
    go_ret
    exact⟨_,rfl,HO.o,HB.o⟩
structure Bd (w:World)(m:Im)(K:Kd)(R:U0)(k:Nat):Prop where
 lt:k<w.heap.size
 off:¬U2 m K k
 no:R.lab k=.no
variable {m' : Im}
theorem Bd.kin {R:U0}{k:Nat}(h:Bd w m K R k)(s:Step w w' m K m' K'):Bd w' m' K' R k/\w'.heap[k]?=w.heap[k]?:=
 ⟨⟨ZY h.lt s.Ut.size, λe => by
   rcases s.foot k e with e|e
   . exact h.off e
   . have:=h.lt
     omega,h.no⟩,s.Ut.block k h.lt h.off⟩
theorem Bd.ref {m m2 m':Im}{R R':U0}{k:Nat}(h:Bd w m K R k)(s:Vu w w' m2 R m' R'):Bd w' m K R' k/\w'.heap[k]?=w.heap[k]?:=
 ⟨⟨ZY h.lt s.Ut.size,h.off,(s.lab k h.lt).trans h.no⟩,s.Ut.block k h.lt (λx=>x.1 h.no)⟩
theorem Du.new {b rb:Nat}{m1 m2:Im}{R:U0}(h:Du w0 w b rb m1 m2 K R)(o:Obj):Du w0 (w.alloc o) b rb m1 m2 K R/\Bd (w.alloc o) m1 K R w.heap.size:=
 ⟨h.below (UF _ _),⟨Vy,λe=>by have:=h.a.Ub.lt e;omega,h.r.QF UM⟩⟩
def NW (o:NM):Array Value:=#[VI o.kind,.string o.s,.string o.t,.string o.u,VI o.n,VI o.k,.bool o.to.obj,VI o.to.n,.slice o.ap o.args.length o.cap]
theorem Qg {b rb:Nat}{R:U0}(h:Du w0 w b rb m m K R)(o:NM):∃W,W=w.alloc (.cells (NW o) 36)/\Du w0 W b rb m m K R/\Bd W m K R w.heap.size/\W.heap[w.heap.size]?=some (.cells (NW o) 36):=
 ⟨_,rfl,(h.new _).1,(h.new _).2,(Z4 w _).1⟩
def OZ (w0:World)(b rb:Nat)(m:Im)(o:NM)(e:Ending)(w':World):Prop:=e=.returned (.bool true)/\∃m' K' R',Du w0 w' b rb m' m' K' R'/\m'.looks<=m.looks+6002/\(o.kind=8\/o.kind=9->m'=m)
theorem jH {c s u:ByteArray}{e a:Int}(h:Ua m c s u e a m'):m'.looks=m.looks:=by
 unfold Ua at h
 cases hc:m.cls c with
 | none=>rw[hc]at h;rw[h.2.2]
 | some c'=>
  rw[hc]at h;rw[h.2];split<;>rfl
theorem uJ (m:Im)(s t:ByteArray)(n:Int):(m.TR s t n).2.looks=m.looks:=by unfold Im.TR;(repeat' split)<;>rfl
theorem adq {b rb:Nat}{R:U0}(h:Du w0 w b rb m m K R)(o:NM)(o_:o.kind=1)(hok:OI w o):
 Calls prog 30 #[VG b,VG rb,o.val] w (OZ w0 b rb m o):=by
 obtain⟨W,hW,hD,hB,hb⟩:=Qg h o;obtain⟨hs,ht,hu,_,_,_,_⟩:=hok;obtain⟨kd,s,t,u,n,k,to,ap,cap,args,ab⟩:=o;simp only at o_ hs ht hu;subst o_;unfold NW at hW hb;simp only at hW hb;have hk1:=hD.a.TR s t n hs;have HD:Hid (Du w0 W b rb m m K R/\Bd W m K R w.heap.size/\W.heap[w.heap.size]?=some (.cells #[VI 1,.string s,.string t,.string u,VI n,VI k,.bool to.obj,VI to.n,.slice ap args.length cap] 36)):=LG;refine LM ?_;clear h hD hB hb;go_enter func30,ntmps30;go_wp2_with fail;rw[<- hW];clear hW;refine hk1.mono ?_;rintro e w1 ⟨rfl,K',hst⟩;refine adZ ?_;intro I_ hB1 hb1 _ c1;refine adh ?_;intro c1;have hr1:=aks I_.r s t n SE;rw[I_.sZ]at hr1;have S5:Hid _:=I_;clear hk1 hst I_ hB1 hb1;go_wp2_with fail;refine hr1.mono ?_;rintro e w1 ⟨rfl,R',hr⟩;have S5:Hid (∃R',Du w0 w1 b rb ((m.TR s t n).2) ((m.TR s t n).2) K' R'):=yL;clear hr1 hr;go_wp2_with fail;refine(RZ ((m.TR s t n).1) _).mono ?_;rintro e w1 ⟨rfl,rfl⟩;go_wp2
 go_ret
 obtain⟨R',I_⟩:=S5.o;exact⟨Vy,(m.TR s t n).2,K',R',I_,by rw[uJ];omega,λe=>sH⟩
theorem aeT {b rb:Nat}{R:U0}(h:Du w0 w b rb m m K R)(o:NM)(o_:o.kind=3)(hok:OI w o):
 Calls prog 30 #[VG b,VG rb,o.val] w (OZ w0 b rb m o):=by
 obtain⟨W,hW,hD,hB,hb⟩:=Qg h o;obtain⟨hs,ht,hu,_,_,_,_⟩:=hok;obtain⟨kd,s,t,u,n,k,to,ap,cap,args,ab⟩:=o;simp only at o_ hs ht hu;subst o_;unfold NW at hW hb;simp only at hW hb;have hk1:=hD.a.drop s t;have HD:Hid (Du w0 W b rb m m K R/\Bd W m K R w.heap.size/\W.heap[w.heap.size]?=some (.cells #[VI 3,.string s,.string t,.string u,VI n,VI k,.bool to.obj,VI to.n,.slice ap args.length cap] 36)):=LG;refine LM ?_;clear h hD hB hb;go_enter func30,ntmps30;go_wp2_with fail;rw[<- hW];clear hW;refine hk1.mono ?_;rintro e w1 ⟨rfl,K',hst⟩;refine adZ ?_;intro I_ hB1 hb1 _ c1;have hr1:=ajn I_.r s t;rw[I_.sZ]at hr1;have S5:Hid _:=I_;clear hk1 hst I_ hB1 hb1;go_wp2_with fail;refine hr1.mono ?_;rintro e w1 ⟨rfl,R',hr,_,_⟩;have S5:Hid (∃R',Du w0 w1 b rb ((m.drop s t).2) ((m.drop s t).2) K' R'):=yL;clear hr1 hr;go_wp2_with fail;refine(RZ ((m.drop s t).1) _).mono ?_;rintro e w1 ⟨rfl,rfl⟩;go_wp2
 go_ret
 obtain⟨R',I_⟩:=S5.o;exact⟨Vy,(m.drop s t).2,K',R',I_,by rw[D7];omega,λe=>sH⟩
theorem afz {b rb:Nat}{R:U0}(h:Du w0 w b rb m m K R)(o:NM)(o_:o.kind=4)(hok:OI w o):
 Calls prog 30 #[VG b,VG rb,o.val] w (OZ w0 b rb m o):=by
 obtain⟨W,hW,hD,hB,hb⟩:=Qg h o;obtain⟨hs,ht,hu,_,_,_,_⟩:=hok;obtain⟨kd,s,t,u,n,k,to,ap,cap,args,ab⟩:=o;simp only at o_ hs ht hu;subst o_;unfold NW at hW hb;simp only at hW hb;have hk1:=hD.a.move s t;have HD:Hid (Du w0 W b rb m m K R/\Bd W m K R w.heap.size/\W.heap[w.heap.size]?=some (.cells #[VI 4,.string s,.string t,.string u,VI n,VI k,.bool to.obj,VI to.n,.slice ap args.length cap] 36)):=LG;refine LM ?_;clear h hD hB hb;go_enter func30,ntmps30;go_wp2_with fail;rw[<- hW];clear hW;refine hk1.mono ?_;rintro e w1 ⟨rfl,K',hst⟩;refine adZ ?_;intro I_ hB1 hb1 _ c1;have hr1:=ait I_.r s t;rw[I_.sZ]at hr1;have S5:Hid _:=I_;clear hk1 hst I_ hB1 hb1;go_wp2_with fail;refine hr1.mono ?_;rintro e w1 ⟨rfl,R',hr,_,_⟩;have S5:Hid (∃R',Du w0 w1 b rb ((m.move s t).2) ((m.move s t).2) K' R'):=yL;clear hr1 hr;go_wp2_with fail;refine(RZ ((m.move s t).1) _).mono ?_;rintro e w1 ⟨rfl,rfl⟩;go_wp2
 go_ret
 obtain⟨R',I_⟩:=S5.o;exact⟨Vy,(m.move s t).2,K',R',I_,by rw[D6];omega,λe=>sH⟩
theorem afB {b rb:Nat}{R:U0}(h:Du w0 w b rb m m K R)(o:NM)(o_:o.kind=5)(hok:OI w o):
 Calls prog 30 #[VG b,VG rb,o.val] w (OZ w0 b rb m o):=by
 obtain⟨W,hW,hD,hB,hb⟩:=Qg h o;obtain⟨hs,ht,hu,_,_,_,_⟩:=hok;obtain⟨kd,s,t,u,n,k,to,ap,cap,args,ab⟩:=o;simp only at o_ hs ht hu;subst o_;unfold NW at hW hb;simp only at hW hb;have hk1:=hD.a.copy s t u;have HD:Hid (Du w0 W b rb m m K R/\Bd W m K R w.heap.size/\W.heap[w.heap.size]?=some (.cells #[VI 5,.string s,.string t,.string u,VI n,VI k,.bool to.obj,VI to.n,.slice ap args.length cap] 36)):=LG;refine LM ?_;clear h hD hB hb;go_enter func30,ntmps30;go_wp2_with fail;rw[<- hW];clear hW;refine hk1.mono ?_;rintro e w1 ⟨rfl,K',hst⟩;refine adZ ?_;intro I_ hB1 hb1 _ c1;refine acS ?_;intro c1;have hr1:=aiE I_.r s t u;rw[I_.sZ]at hr1;have S5:Hid _:=I_;clear hk1 hst I_ hB1 hb1;go_wp2_with fail;refine hr1.mono ?_;rintro e w1 ⟨rfl,R',hr,_,_⟩;have S5:Hid (∃R',Du w0 w1 b rb ((m.copy s t u).2) ((m.copy s t u).2) K' R'):=yL;clear hr1 hr;go_wp2_with fail;refine(RZ ((m.copy s t u).1) _).mono ?_;rintro e w1 ⟨rfl,rfl⟩;go_wp2
 go_ret
 obtain⟨R',I_⟩:=S5.o;exact⟨Vy,(m.copy s t u).2,K',R',I_,by rw[BR];omega,λe=>sH⟩
theorem aoX {b rb:Nat}{R:U0}(h:Du w0 w b rb m m K R)(o:NM)(o_:o.kind=7)(hok:OI w o):
 Calls prog 30 #[VG b,VG rb,o.val] w (OZ w0 b rb m o):=by
 obtain⟨W,hW,hD,hB,hb⟩:=Qg h o;obtain⟨hs,ht,hu,_,_,_,_⟩:=hok;obtain⟨kd,s,t,u,n,k,to,ap,cap,args,ab⟩:=o;simp only at o_ hs ht hu;subst o_;unfold NW at hW hb;simp only at hW hb;have hk1:=hD.a.be n s;have HD:Hid (Du w0 W b rb m m K R/\Bd W m K R w.heap.size/\W.heap[w.heap.size]?=some (.cells #[VI 7,.string s,.string t,.string u,VI n,VI k,.bool to.obj,VI to.n,.slice ap args.length cap] 36)):=LG;refine LM ?_;clear h hD hB hb;go_enter func30,ntmps30;go_wp2_with fail;rw[<- hW];clear hW;refine acY ?_;intro w1 K' hst I_ hB1 hb1;refine alf ?_;intro c1;refine adh ?_;intro c1;have hr1:=rbe I_.r n s;rw[I_.sZ]at hr1;have S5:Hid _:=I_;clear hk1 hst I_ hB1 hb1;go_wp2_with fail;refine hr1.mono ?_;rintro e w1 ⟨rfl,R',hr,_,_⟩;have S5:Hid (∃R',Du w0 w1 b rb ((m.be n s).2) ((m.be n s).2) K' R'):=yL;clear hr1 hr;go_wp2_with fail;refine(RZ ((m.be n s).1) _).mono ?_;rintro e w1 ⟨rfl,rfl⟩;go_wp2
 go_ret
 obtain⟨R',I_⟩:=S5.o;exact⟨Vy,(m.be n s).2,K',R',I_,by rw[tu];omega,λe=>sH⟩
theorem aeA {b rb:Nat}{R:U0}(h:Du w0 w b rb m m K R)(o:NM)(o_:o.kind=10)(hok:OI w o):
 Calls prog 30 #[VG b,VG rb,o.val] w (OZ w0 b rb m o):=by
 obtain⟨W,hW,hD,hB,hb⟩:=Qg h o;obtain⟨hs,ht,hu,_,_,_,_⟩:=hok;obtain⟨kd,s,t,u,n,k,to,ap,cap,args,ab⟩:=o;simp only at o_ hs ht hu;subst o_
 have m8:Calls prog 14 #[VG b,.string s] W λe w'=>e=.returned (VI (Q7 s))/\∃K',Step W w' m K m K':=by
  have h9:=flush_any hD.a.Ub s hs;rw[hD.a.b_]at h9;exact h9
 unfold NW at hW hb;simp only at hW hb;have hk1:=m8;have HD:Hid (Du w0 W b rb m m K R/\Bd W m K R w.heap.size/\W.heap[w.heap.size]?=some (.cells #[VI 10,.string s,.string t,.string u,VI n,VI k,.bool to.obj,VI to.n,.slice ap args.length cap] 36)):=LG;refine LM ?_;clear h hD hB hb;go_enter func30,ntmps30;go_wp2_with fail;rw[<- hW];clear hW;refine acY ?_;intro w1 K' hst I_ hB1 hb1;have hbl:=hB1.1.lt;refine alf ?_;intro c1;have c1:w1.cell? (VJ w.heap.size 2)=some (.string t):=by simp only[World.cell?,hb1];rfl
 refine acS ?_;intro c1;refine adh ?_;intro c1;have c1:w1.cell? (VJ w.heap.size 5)=some (VI k):=by simp only[World.cell?,hb1];rfl
 have hr1:=akm (w:=w1) rb s SE;have S5:Hid _:=I_;clear hk1 hst I_ hB1 hb1;go_wp2_with fail;refine hr1.mono ?_;rintro e w1 ⟨rfl,hw⟩;subst hw
 have S5:Hid (∃R',Du w0 w1 b rb (m) (m) K' R'):=⟨R,S5.o⟩
 clear hr1;go_wp2_with fail;refine(RZ (Q7 s) _).mono ?_;rintro e w1 ⟨rfl,rfl⟩;go_wp2
 go_ret
 obtain⟨R',I_⟩:=S5.o;exact⟨Vy,m,K',R',I_,VH,λe=>sH⟩
theorem rl_method {b rb:Nat}{R:U0}(h:Du w0 w b rb m m K R)(o:NM)(o_:o.kind=2)(hok:OI w o):
 Calls prog 30 #[VG b,VG rb,o.val] w (OZ w0 b rb m o):=by
 obtain⟨W,hW,hD,hB,hb⟩:=Qg h o;obtain⟨hs,ht,hu,_,_,_,_⟩:=hok;obtain⟨kd,s,t,u,n,k,to,ap,cap,args,ab⟩:=o;simp only at o_ hs ht hu;subst o_;unfold NW at hW hb;simp only at hW hb;have hk1:=hD.a.method s t u ht hu;have HD:Hid (Du w0 W b rb m m K R/\Bd W m K R w.heap.size/\W.heap[w.heap.size]?=some (.cells #[VI 2,.string s,.string t,.string u,VI n,VI k,.bool to.obj,VI to.n,.slice ap args.length cap] 36)):=LG;refine LM ?_;clear h hD hB hb;go_enter func30,ntmps30;go_wp2_with fail;rw[<- hW];clear hW;refine hk1.mono ?_;rintro e w1 ⟨er,at1,mm,K',rfl,hres,hst⟩;refine adZ ?_;intro I_ hB1 hb1 _ c1;refine acS ?_;intro c1;have hr1:=ae5 I_.r s t u SE SE;rw[I_.sZ]at hr1;have mT:=UQ hres;have S5:Hid _:=I_;clear hk1 hst I_ hB1 hb1;go_wp2_with fail;refine hr1.mono ?_;rintro e w1 ⟨er2,at1,mm2,rfl,Bw,R',hr,_,_⟩;obtain⟨rfl,rfl,rfl⟩:=sO hres Bw;have S5:Hid (∃R',Du w0 w1 b rb (mm) (mm) K' R'):=yL;clear hr1 hr Bw hres;go_wp2_with fail;refine(RZ (er) _).mono ?_;rintro e w1 ⟨rfl,rfl⟩;go_wp2
 go_ret
 obtain⟨R',I_⟩:=S5.o;exact⟨Vy,mm,K',R',I_,by rw[jH mT.o];omega,λe=>sH⟩
end Go.Proofs.Rz
namespace Go.Proofs.YtkghmgoefiepeaaGreatDoor.reads
open Go.ChangeShapes Go.WideShapes Go.ChangeAt Go.RowKit Kn Go.Proofs.Rz
def TD:DataW Unit->Value
 | .lit (.int k n)=>.int k n
 | .lit (.string l)=>.string ⟨l.toArray⟩
 | .lit (.bool b)=>.bool b
 | _=>.pointer none
variable {P : Program} {w : World} {base : Nat} {spare : Nat -> Bool} {held : Bool} {fuel : Nat} {t : TypeId} {cs : List Value} {enc : TypeId × Value -> Unit} {x : DataW Unit × List MemPlace}
theorem nM (ht:P.underlying t=some .string)(h:DataW.trod enc P w base spare held fuel t cs=some x):cs=[TD x.1]:=by
 obtain⟨s,rfl,rfl,_⟩:=Xd ht h;simp[TD]
theorem wO {k:IntKind}(ht:P.underlying t=some (.int k))(h:DataW.trod enc P w base spare held fuel t cs=some x):cs=[TD x.1]:=by
 obtain⟨n,rfl,rfl,_⟩:=Xc ht h;rfl
theorem Bq (ht:P.underlying t=some .bool)(h:DataW.trod enc P w base spare held fuel t cs=some x):cs=[TD x.1]:=by
 obtain⟨b,rfl,rfl⟩:=DataW.trod_bool ht h;rfl
theorem xU:Tryz.prog.cellsOf 9=1:=VE
theorem J6:Tryz.prog.cellsOf 3=1:=VE
theorem BZ:Tryz.prog.cellsOf 4=1:=VE
theorem oP:Tryz.prog.cellsOf 143=1:=VE
theorem KU:Tryz.prog.cellsOf 220=2:=VE
theorem Hy:Tryz.prog.cellsOf 150=5:=VE
theorem aG {l:List Value}{y:DataW Unit×List MemPlace}(h:DataW.trod enc Tryz.prog w base spare held fuel 220 l=some y):∃d0 d1,y.1=.agg [d0,d1]/\l=[TD d0,TD d1]:=by
 obtain⟨xs,m,rfl,rfl,hlen,hn,hel⟩:=XF Tryz.underlying220 h;rw[KU]at hlen
 match l,hlen with
 | [c0,c1],_=>
  match xs,hn with
  | [x0,x1],_=>
   have h0:DataW.trod enc Tryz.prog w base spare held m 9 (([c0,c1].drop 0).take (Tryz.prog.cellsOf 9))=some x0:=hel 0 _ rfl;have h1:DataW.trod enc Tryz.prog w base spare held m 143 (([c0,c1].drop 1).take (Tryz.prog.cellsOf 143))=some x1:=hel 1 _ rfl;rw[xU]at h0;rw[oP]at h1;have e0:=nM Tryz.underlying9 h0;have e1:=wO Tryz.underlying143 h1;simp at e0 e1;exact⟨x0.1,x1.1,rfl,by rw[e0,e1]⟩
theorem jL {l:List Value}{y:DataW Unit×List MemPlace}(h:DataW.trod enc Tryz.prog w base spare held fuel 150 l=some y):∃d0 d1 d2 d3 d4,y.1=.agg [d0,d1,d2,d3,d4]/\l=[TD d0,TD d1,TD d2,TD d3,TD d4]:=by
 obtain⟨xs,m,rfl,rfl,hlen,hn,hel⟩:=XF Tryz.underlying150 h;rw[Hy]at hlen
 match l,hlen with
 | [c0,c1,c2,c3,c4],_=>
  match xs,hn with
  | [x0,x1,x2,x3,x4],_=>
   have h0:DataW.trod enc Tryz.prog w base spare held m 3 (([c0,c1,c2,c3,c4].drop 0).take (Tryz.prog.cellsOf 3))=some x0:=hel 0 _ rfl;have h1:DataW.trod enc Tryz.prog w base spare held m 3 (([c0,c1,c2,c3,c4].drop 1).take (Tryz.prog.cellsOf 3))=some x1:=hel 1 _ rfl;have h2:DataW.trod enc Tryz.prog w base spare held m 4 (([c0,c1,c2,c3,c4].drop 2).take (Tryz.prog.cellsOf 4))=some x2:=hel 2 _ rfl;have h3:DataW.trod enc Tryz.prog w base spare held m 4 (([c0,c1,c2,c3,c4].drop 3).take (Tryz.prog.cellsOf 4))=some x3:=hel 3 _ rfl;have h4:DataW.trod enc Tryz.prog w base spare held m 4 (([c0,c1,c2,c3,c4].drop 4).take (Tryz.prog.cellsOf 4))=some x4:=hel 4 _ rfl;rw[J6]at h0 h1;rw[BZ]at h2 h3 h4;have e0:=wO Tryz.underlying3 h0;have e1:=wO Tryz.underlying3 h1;have e2:=Bq Tryz.underlying4 h2;have e3:=Bq Tryz.underlying4 h3;have e4:=Bq Tryz.underlying4 h4;simp at e0 e1 e2 e3 e4;exact⟨x0.1,x1.1,x2.1,x3.1,x4.1,rfl,by rw[e0,e1,e2,e3,e4]⟩
theorem OJ {cs l:List Value}{o k j:Nat}(h:(cs.drop o).take k=l)(hj:j<k):cs[o+j]?=l[j]?:=by
 rw[<- h,Zl hj,Zn]
theorem FN {n:Nat}{T:TypeId}{ds:List (DataW Unit)}{q:List MemPlace}(ht:Tryz.prog.underlying T=some (.array n 220))(h:DataW.trod enc Tryz.prog w base spare held fuel T cs=some (.agg ds,q))(hn:ds.length=n):
 ∀i d0 d1,ds[i]?=some (.agg [d0,d1])->cs[i*2]?=some (TD d0)/\cs[i*2+1]?=some (TD d1):=by
 obtain⟨xs,m,rfl,hx,hlen,F4,hel⟩:=DataW.trod_array ht h;intro i d0 d1 hi;simp only[YL,DataW.agg.injEq]at hx;rw[hx.1,YO]at hi
 have hlt:i<n:=by
  cases hxi:xs[i]? with
  | none=>rw[hxi]at hi;cases hi
  | some y=>have:=(Z7.1 hxi).1;omega
 have hr:=hel i hlt
 cases hxi:xs[i]? with
 | none=>rw[hxi]at hi;cases hi
 | some y=>
  rw[hxi]at hi hr;simp at hi;rw[KU]at hr;obtain⟨e0,e0,hy,hl⟩:=aG hr;rw[hi]at hy;injection hy with hy;injection hy with a1 hy;injection hy with a2 _;subst a1 a2;have p0:=OJ hl (j:=0) VH;have p1:=OJ hl (j:=1) VH;exact⟨by simpa using p0,by simpa using p1⟩
theorem wV {n:Nat}{T:TypeId}{ds:List (DataW Unit)}{q:List MemPlace}(ht:Tryz.prog.underlying T=some (.array n 150))(h:DataW.trod enc Tryz.prog w base spare held fuel T cs=some (.agg ds,q))(hn:ds.length=n):
 ∀i d0 d1 d2 d3 d4,ds[i]?=some (.agg [d0,d1,d2,d3,d4])->cs[i*5]?=some (TD d0)/\cs[i*5+1]?=some (TD d1)/\cs[i*5+2]?=some (TD d2)/\cs[i*5+3]?=some (TD d3)/\cs[i*5+4]?=some (TD d4):=by
 obtain⟨xs,m,rfl,hx,hlen,F4,hel⟩:=DataW.trod_array ht h;intro i d0 d1 d2 d3 d4 hi;simp only[YL,DataW.agg.injEq]at hx;rw[hx.1,YO]at hi
 have hlt:i<n:=by
  cases hxi:xs[i]? with
  | none=>rw[hxi]at hi;cases hi
  | some y=>have:=(Z7.1 hxi).1;omega
 have hr:=hel i hlt
 cases hxi:xs[i]? with
 | none=>rw[hxi]at hi;cases hi
 | some y=>
  rw[hxi]at hi hr;simp at hi;rw[Hy]at hr;obtain⟨e0,e0,e0,e0,e0,hy,hl⟩:=jL hr;rw[hi]at hy;injection hy with hy;injection hy with a0 hy;injection hy with a1 hy;injection hy with a2 hy;injection hy with a3 hy;injection hy with a4 _;subst a0 a1 a2 a3 a4;have p0:=OJ hl (j:=0) VH;have p1:=OJ hl (j:=1) VH;have p2:=OJ hl (j:=2) VH;have p3:=OJ hl (j:=3) VH;have p4:=OJ hl (j:=4) VH;exact⟨by simpa using p0,by simpa using p1,by simpa using p2,by simpa using p3,by simpa using p4⟩
theorem agx : Tryz.prog.globalNamed "kin/kin.plainWords" = some 2 := VE
theorem alP : Tryz.prog.globalNamed "kin/kin.classHeads" = some 1 := VE
theorem aec : Tryz.prog.globalNamed "kin/kin.effects" = some 0 := VE
theorem agb:(Tryz.prog.globals[2]?).map (·.type)=some 222:=VE
theorem akh:(Tryz.prog.globals[1]?).map (·.type)=some 221:=VE
theorem abU:(Tryz.prog.globals[0]?).map (·.type)=some 151:=VE
def vU (x:Nat×Nat×Bool×Bool×Bool):DataW Unit:=.agg [.lit (.int .i64 (x.1:Nat)),.lit (.int .i64 (x.2.1:Nat)),.lit (.bool x.2.2.1),.lit (.bool x.2.2.2.1),.lit (.bool x.2.2.2.2)]
theorem yA:(Rows.laid_kin_kin_effects:DataW Unit)=.agg (Jl.map vU):=rfl
theorem cell_lt {W:World}{g o:Nat}{v:Value}(h:W.cell? (VJ g o)=some v):g<W.heap.size:=by
 apply Zt;intro hn;have:W.heap[g]?=none:=Array.getElem?_eq_none_iff.2 VH;simp[World.cell?,this]at h
theorem of_laid {W:World}(h:laidMetH Tryz.prog Rows.deeperRow.laid W):(0<W.heap.size/\2<W.heap.size/\1<W.heap.size)/\Qc W/\U7 W/\UR W:=by
 rw[MakeChecks.laidMetH_plain _ _ _ VE]at h;obtain⟨ps,⟨g0,t0,cs0,f0,p0,q0,hg0,ht0,hv0,hd0,⟨g0,t0,cs0,f0,p0,q0,hg1,ht1,hv1,hd1,⟨g0,t0,cs0,f0,p0,q0,hg2,ht2,hv2,hd2,_,_⟩,_⟩,_⟩,_,_⟩:=h;obtain rfl:=Y7 (agx.symm.trans hg0);obtain rfl:=Y7 (alP.symm.trans hg1);obtain rfl:=Y7 (aec.symm.trans hg2);obtain rfl:=Y7 (agb.symm.trans ht0);obtain rfl:=Y7 (akh.symm.trans ht1);obtain rfl:=Y7 (abU.symm.trans ht2);have P0:=FN Tryz.underlying222 hd0 rfl;have P1:=FN Tryz.underlying221 hd1 rfl;have P2:=wV Tryz.underlying151 (by rw[yA]at hd2;exact hd2) (by simp[Jl])
 have C0:U7 W:=by
  intro i v hv;rw[VT hg0 hv0 i,<- Zf]
  exact(match i,hv with
   | 0,hv=>by simp[UU]at hv;subst hv;simpa[TD]using(P0 0 _ _ rfl).1
   | 1,hv=>by simp[UU]at hv;subst hv;simpa[TD]using(P0 0 _ _ rfl).2
   | 2,hv=>by simp[UU]at hv;subst hv;simpa[TD]using(P0 1 _ _ rfl).1
   | 3,hv=>by simp[UU]at hv;subst hv;simpa[TD]using(P0 1 _ _ rfl).2
   | 4,hv=>by simp[UU]at hv;subst hv;simpa[TD]using(P0 2 _ _ rfl).1
   | 5,hv=>by simp[UU]at hv;subst hv;simpa[TD]using(P0 2 _ _ rfl).2
   | 6,hv=>by simp[UU]at hv;subst hv;simpa[TD]using(P0 3 _ _ rfl).1
   | 7,hv=>by simp[UU]at hv;subst hv;simpa[TD]using(P0 3 _ _ rfl).2
   | 8,hv=>by simp[UU]at hv;subst hv;simpa[TD]using(P0 4 _ _ rfl).1
   | 9,hv=>by simp[UU]at hv;subst hv;simpa[TD]using(P0 4 _ _ rfl).2
   | 10,hv=>by simp[UU]at hv;subst hv;simpa[TD]using(P0 5 _ _ rfl).1
   | 11,hv=>by simp[UU]at hv;subst hv;simpa[TD]using(P0 5 _ _ rfl).2
   | 12,hv=>by simp[UU]at hv;subst hv;simpa[TD]using(P0 6 _ _ rfl).1
   | 13,hv=>by simp[UU]at hv;subst hv;simpa[TD]using(P0 6 _ _ rfl).2
   | 14,hv=>by simp[UU]at hv;subst hv;simpa[TD]using(P0 7 _ _ rfl).1
   | 15,hv=>by simp[UU]at hv;subst hv;simpa[TD]using(P0 7 _ _ rfl).2
   | 16,hv=>by simp[UU]at hv;subst hv;simpa[TD]using(P0 8 _ _ rfl).1
   | 17,hv=>by simp[UU]at hv;subst hv;simpa[TD]using(P0 8 _ _ rfl).2
   | i+18,hv=>by simp[UU]at hv)
 have C1:UR W:=by
  intro i v hv;rw[VT hg1 hv1 i,<- Zf]
  exact(match i,hv with
   | 0,hv=>by simp[TN]at hv;subst hv;simpa[TD]using(P1 0 _ _ rfl).1
   | 1,hv=>by simp[TN]at hv;subst hv;simpa[TD]using(P1 0 _ _ rfl).2
   | 2,hv=>by simp[TN]at hv;subst hv;simpa[TD]using(P1 1 _ _ rfl).1
   | 3,hv=>by simp[TN]at hv;subst hv;simpa[TD]using(P1 1 _ _ rfl).2
   | 4,hv=>by simp[TN]at hv;subst hv;simpa[TD]using(P1 2 _ _ rfl).1
   | 5,hv=>by simp[TN]at hv;subst hv;simpa[TD]using(P1 2 _ _ rfl).2
   | 6,hv=>by simp[TN]at hv;subst hv;simpa[TD]using(P1 3 _ _ rfl).1
   | 7,hv=>by simp[TN]at hv;subst hv;simpa[TD]using(P1 3 _ _ rfl).2
   | 8,hv=>by simp[TN]at hv;subst hv;simpa[TD]using(P1 4 _ _ rfl).1
   | 9,hv=>by simp[TN]at hv;subst hv;simpa[TD]using(P1 4 _ _ rfl).2
   | i+10,hv=>by simp[TN]at hv)
 have C2:Qc W:=by
  intro k t l sd jp st hk;have hr:(Jl.map vU)[k]?=some (vU (t,l,sd,jp,st)):=by rw[YO,hk];rfl
  obtain⟨r0,r1,r2,r3,r4⟩:=P2 k _ _ _ _ _ hr;refine⟨?_,?_,?_,?_,?_⟩
  all_goals (rw[VT hg2 hv2,<- Zf];first|exact r0|exact r1|exact r2|exact r3|exact r4)
 exact⟨⟨cell_lt (C2 0 0 0 false false false rfl).c0,cell_lt (C0 0 _ rfl),cell_lt (C1 0 _ rfl)⟩,C2,C0,C1⟩
open Go.Proofs.Iz Go.Deep
instance:Inhabited Vl:=⟨Vl.zero⟩
instance:Inhabited NM:=⟨⟨0,⟨#[]⟩,⟨#[]⟩,⟨#[]⟩,0,0,Vl.zero,none,0,[],0⟩⟩
section
variable {H : Type} {enc : TypeId × Value -> H} {w : World}
theorem zU:Tryz.prog.cellsOf 9=1:=VE
theorem Ku:Tryz.prog.cellsOf 33=2:=VE
theorem DJ:Tryz.prog.cellsOf 34=1:=VE
theorem CQ:Tryz.prog.cellsOf 36=9:=VE
theorem ajX {a:Int}(h:(Lit.int IntKind.i64 a).wf=true):TB a:=by
 simp only[Lit.wf,ZB,Zq]at h;exact⟨h.1,h.2⟩
theorem acV {l:List Value}(h:l.length=2):∃a b,l=[a,b]:=by
 rcases l with _|⟨a,_|⟨b,_|⟨c,r⟩⟩⟩<;>simp at h;exact⟨a,b,rfl⟩
theorem zD {l:List Value}(h:l.length=9):∃a0 a1 a2 a3 a4 a5 a6 a7 a8,l=[a0,a1,a2,a3,a4,a5,a6,a7,a8]:=by
 rcases l with _|⟨a0,_|⟨a1,_|⟨a2,_|⟨a3,_|⟨a4,_|⟨a5,_|⟨a6,_|⟨a7,_|⟨a8,_|⟨a9,r⟩⟩⟩⟩⟩⟩⟩⟩⟩⟩<;>simp at h;exact⟨a0,a1,a2,a3,a4,a5,a6,a7,a8,rfl⟩
theorem jd {n:Nat}{cs:List Value}{x:DataW H×List MemPlace}(h:DataW.trod enc Tryz.prog w 0 (λ_=>true) true n 33 cs=some x):∃v:Vl,cs=[.bool v.obj,.int .i64 v.n]/\TB v.n:=by
 obtain⟨xs,n1,rfl,rfl,hl,hxs,hf⟩:=XF Tryz.underlying33 h;rw[Ku]at hl;obtain⟨a,b,rfl⟩:=acV hl;have f0:=hf 0 _ rfl;have f1:=hf 1 _ rfl;simp only[Xe,ZI,YJ]at hxs;rw[Z8 VH]at f0 f1;obtain⟨bo,e0,_⟩:=DataW.trod_bool Tryz.underlying4 f0;obtain⟨m,e1,_,hw⟩:=Xc Tryz.underlying3 f1;simp[J6,BZ]at e0 e1;exact⟨⟨bo,m⟩,by rw[e0,e1],ajX hw⟩
theorem ads {n:Nat}{cs:List Value}{x:DataW H×List MemPlace}(h:DataW.trod enc Tryz.prog w 0 (λ_=>true) true n 34 cs=some x):∃(ap:Option Addr) (cap:Nat) (args:List Vl) (ab:Nat),cs=[.slice ap args.length cap]/\UH w (.slice ap args.length cap) args ab/\(args≠[]->ab<w.heap.size)/\∀v∈args,TB v.n:=by
 rcases open_slice Tryz.underlying34 h with⟨rfl,rfl⟩|⟨a,len,cap,m,n1,D,Pl,rfl,hb,hl,hm,hmm,rfl,hx⟩
 . exact⟨none,0,[],0,rfl,⟨none,0,rfl,λe=>absurd rfl e⟩,λe=>absurd rfl e,λv hv=>(Zx hv).elim⟩
 . simp only[Y6]at hmm;subst hmm
   have each:∀i,i<len->∃v:Vl,w.cell? (a.add (i*2))=some (.bool v.obj)/\w.cell? (a.add (i*2+1))=some (.int .i64 v.n)/\TB v.n:=λi hi=>by
    obtain⟨cs',h1,h2⟩:=hx i VH;obtain⟨v,rfl,hv⟩:=jd h2;rw[Ku]at h1;obtain⟨_,_,h1⟩:=Ws h1;refine⟨v,?_,?_,hv⟩
    . have:=h1 0 VH;rw[add_add,Yt]at this;exact this
    . have:=h1 1 VH;rw[add_add]at this;exact this
   obtain⟨V,hV⟩:=choose_lt (α:=Vl) (p:=λi v=>w.cell? (a.add (i*2))=some (.bool v.obj)/\w.cell? (a.add (i*2+1))=some (.int .i64 v.n)/\TB v.n) each;have hlen:((List.range len).map V).length=len:=Vy;refine⟨some a,m,(List.range len).map V,a.block,by rw[hlen],⟨some a,m,rfl,λ_=>⟨a,rfl,rfl,λj u hu=>?_⟩⟩,λhne=>?_,λv hv=>?_⟩
   . have hj:=(Z7.1 hu).1;rw[Kr,hlen]at hj
     obtain⟨i,FE⟩:∃i,j=i*2\/j=i*2+1:=⟨j / 2,VH⟩
     have hi:i<len:=VH;have hg:((List.range len).map V)[i]?=some (V i):=by simp[hi]
     obtain⟨g1,g2⟩:=PV _ _ _ hg;obtain⟨e1,e2,_⟩:=hV i hi;rcases FE with rfl|rfl
     . rw[g1]at hu;rw[<- hu];exact e1
     . rw[g2]at hu;rw[<- hu];exact e2
   . have h1:0<len:=by
      cases len with
      | zero=>simp at hne
      | succ k=>omega
     have:=ZE w _ (hV 0 h1).1;rw[Addr.add_block]at this;exact this
   . obtain⟨i,hi,rfl⟩:=Zy.1 hv;exact(hV i (YD.1 hi)).2.2
theorem agy {n:Nat}{cs:List Value}{x:DataW H×List MemPlace}(h:DataW.trod enc Tryz.prog w 0 (λ_=>true) true n 36 cs=some x):
 ∃o:NM,cs=[.int .i64 o.kind,.string o.s,.string o.t,.string o.u,.int .i64 o.n,.int .i64 o.k,.bool o.to.obj,.int .i64 o.to.n,.slice o.ap o.args.length o.cap]/\TB o.to.n/\UH w (.slice o.ap o.args.length o.cap) o.args o.ab/\(o.args≠[]->o.ab<w.heap.size)/\(∀v∈o.args,TB v.n)/\
  ∀k,k=o.s.size\/k=o.t.size\/k=o.u.size->k∈x.1.weights Tryz.prog 36:=by
 obtain⟨xs,n1,rfl,rfl,hl,hxs,hf⟩:=XF Tryz.underlying36 h;rw[CQ]at hl;obtain⟨a0,a0,a0,a0,a0,a0,a0,a0,a0,rfl⟩:=zD hl;have f0:=hf 0 _ rfl;have f1:=hf 1 _ rfl;have f2:=hf 2 _ rfl;have f3:=hf 3 _ rfl;have f4:=hf 4 _ rfl;have f5:=hf 5 _ rfl;have f6:=hf 6 _ rfl;have f7:=hf 7 _ rfl;simp only[Xe,ZI,YJ]at hxs;have g1:xs[1]?=some xs[1]:=Z8 VH;have g2:xs[2]?=some xs[2]:=Z8 VH;have g3:xs[3]?=some xs[3]:=Z8 VH;rw[Z8 VH]at f0 f1 f2 f3 f4 f5 f6 f7;obtain⟨k0,e0,_,_⟩:=Xc Tryz.underlying3 f0;obtain⟨s1,e1,d1,_⟩:=Xd Tryz.underlying9 f1;obtain⟨s2,e2,d2,_⟩:=Xd Tryz.underlying9 f2;obtain⟨s3,e3,d3,_⟩:=Xd Tryz.underlying9 f3;obtain⟨k4,e4,_,_⟩:=Xc Tryz.underlying3 f4;obtain⟨k5,e5,_,_⟩:=Xc Tryz.underlying3 f5;obtain⟨v,e6,hv⟩:=jd f6;obtain⟨ap,cap,args,ab,e7,h7,h8,h9⟩:=ads f7;simp[J6,zU,Ku,DJ]at e0 e1 e2 e3 e4 e5 e6 e7;refine⟨⟨k0,s1,s2,s3,k4,k5,v,ap,cap,args,ab⟩,by rw[e0,e1,e2,e3,e4,e5,e6.1,e6.2,e7],hv,h7,h8,h9,?_⟩
 have key:∀(j:Nat) (s:ByteArray) (y:DataW H×List MemPlace) (t:TypeId),xs[j]?=some y->y=(.lit (.string s.data.toList),[])->[3,9,9,9,3,3,33,34][j]?=some t->s.size∈(DataW.agg (xs.map (·.1))).weights Tryz.prog 36:=λj s y t hy e ht=>by
  simp only[DataW.weights,Tryz.underlying36];refine DataW.weights_mem_each (j:=j) (t:=t) (d:=y.1) ht (by rw[YO,hy];rfl) _ ?_;rw[e];simp only[DataW.weights,WJ,Xt];rfl
 rintro k (rfl|rfl|rfl)
 . exact key 1 s1 _ _ g1 d1 rfl
 . exact key 2 s2 _ _ g2 d2 rfl
 . exact key 3 s3 _ _ g3 d3 rfl
theorem KE {P:Program}{e:TypeId}{d:DataW H}:∀ {l:List (DataW H)},d∈l->∀k∈d.weights P e,k∈DataW.weightsAll P e l
 | a::l,hd,k,hk=>by
  simp only[DataW.weightsAll,YT];rcases ZM.1 hd with e|e
  . subst e;exact .inl hk
  . exact .inr (KE e k hk)
theorem ad5 {v:Value}{d:DataW H}{ps:List MemPlace}(h:DataW.Trod enc Tryz.prog w 0 (λ_=>true) true 22 v d ps)(hv:∃a len cap,v=.slice a len cap)(hz:∀k∈d.weights Tryz.prog 22,k<=reachBytes):
 ∃(sp:Option Addr) (cap:Nat) (os:List NM),v=.slice sp os.length cap/\Scr w sp os/\os.length<=140737488355328:=by
 obtain⟨a0,VS,ax,rfl⟩:=hv;obtain⟨fuel,hf⟩:=h;have hr:=reachBytes_lt;rcases open_slice Tryz.underlying22 hf with⟨hcs,hx⟩|⟨a,len,cap,m,n1,D,Pl,hcs,hb,hl,hm,hmm,J0,hx⟩
 . simp[Value.cells]at hcs;obtain⟨rfl,rfl,rfl⟩:=hcs;exact⟨none,0,[],rfl,⟨λe=>absurd rfl e,λo ho=>(Zx ho).elim⟩,Vy⟩
 . simp[Value.cells]at hcs;obtain⟨rfl,rfl,rfl⟩:=hcs;simp only[Y6]at hmm;subst hmm;have hd:d=.slice ((List.range VS).map D) ((List.range (m-VS)).map λj=>D (VS+j)):=YV Prod.fst J0
   have each:∀i,i<VS->∃o:NM,(w.cells? 0 (a.add (i*9)) 9=some [.int .i64 o.kind,.string o.s,.string o.t,.string o.u,.int .i64 o.n,.int .i64 o.k,.bool o.to.obj,.int .i64 o.to.n,.slice o.ap o.args.length o.cap])/\OI w o:=λi hi=>by
    obtain⟨cs',h1,h2⟩:=hx i VH;obtain⟨o,rfl,h2,h4,h5,h6,h7⟩:=agy h2;rw[CQ]at h1
    have hw:∀k,k=o.s.size\/k=o.t.size\/k=o.u.size->k<=140737488355328:=λk hk=>by
     have:=hz k (by
      rw[hd];simp only[DataW.weights,Tryz.underlying22,ZM,YT]
      exact .inr (.inl (KE (Zy.2 ⟨i,YD.2 hi,rfl⟩) k (h7 k hk))))
     omega
    exact⟨o,h1,⟨hw _ NP,hw _ oG,hw _ (.inr JQ),h2,h4,h5,h6⟩⟩
   obtain⟨O,hO⟩:=choose_lt (α:=NM) (p:=λi o=>(w.cells? 0 (a.add (i*9)) 9=some [.int .i64 o.kind,.string o.s,.string o.t,.string o.u,.int .i64 o.n,.int .i64 o.k,.bool o.to.obj,.int .i64 o.to.n,.slice o.ap o.args.length o.cap])/\OI w o) each;have hlen:((List.range VS).map O).length=VS:=Vy;refine⟨some a,m,(List.range VS).map O,by rw[hlen],⟨λhne=>?_,λo ho=>?_⟩,?_⟩
   . have h1:0<VS:=by
      cases VS with
      | zero=>simp at hne
      | succ k=>omega
     have hc:=λi (hi:i<VS)=>(Ws (hO i hi).1).2.2;have hp:=Bg ((hc 0 h1 0 VH).trans rfl);simp only[Yu,Addr.add,Y6]at hp;refine⟨a.block,a.off,by rw[<- hp],?_,λi o ho=>?_⟩
     . have:=ZE w _ ((hc 0 h1 0 VH).trans rfl);rw[Addr.add_block,Addr.add_block]at this;exact this
     . have hi:i<VS:=by have:=(Z7.1 ho).1;rw[hlen]at this;exact this
       have ho':O i=o:=by simp[hi]at ho;exact ho
       have hq:∀k (hk:k<9),w.cell? (VJ a.block (a.off+i*9+k))=([.int .i64 (O i).kind,.string (O i).s,.string (O i).t,.string (O i).u,.int .i64 (O i).n,.int .i64 (O i).k,.bool (O i).to.obj,.int .i64 (O i).to.n,.slice (O i).ap (O i).args.length (O i).cap]:List Value)[k]?:=λk hk=>by
        have:=hc i hi k hk;rw[add_add]at this;rw[hp,XJ,<- Wn]at this;exact this
       rw[<- ho'];exact⟨hq 0 VH,hq 1 VH,hq 2 VH,hq 3 VH,hq 4 VH,hq 5 VH,hq 6 VH,hq 7 VH,hq 8 VH⟩
   . obtain⟨i,hi,rfl⟩:=Zy.1 ho;exact(hO i (YD.1 hi)).2
   . rw[hlen]
     have:=hz ((VS+(m-VS))*Tryz.prog.bytesOf 36) (by
      rw[hd]
      simp[DataW.weights,Tryz.underlying22])
     have hb1:1<=Tryz.prog.bytesOf 36:=of_decide_eq_true VE;have hm1:(VS+(m-VS))*1<=(VS+(m-VS))*Tryz.prog.bytesOf 36:=Nat.mul_le_mul_left _ hb1;omega
end
section
variable {H : Type} {enc : TypeId × Value -> H} {w : World}
theorem akq {n:Nat}{ap:Option Addr}{L c:Nat}{x:DataW H×List MemPlace}(h:DataW.trod enc Tryz.prog w 0 (λ_=>true) true n 34 [.slice ap L c]=some x):L*16<=0\/∃k∈x.1.weights Tryz.prog 34,L*16<=k:=by
 rcases open_slice Tryz.underlying34 h with⟨hcs,rfl⟩|⟨a,len,cap,m,n1,D,Pl,hcs,hb,hl,hm,hmm,rfl,hx⟩
 . simp at hcs;left;omega
 . simp at hcs;obtain⟨rfl,rfl,rfl⟩:=hcs;simp only[Y6]at hmm;subst hmm;right;refine⟨(L+(m-L))*Tryz.prog.bytesOf 33,?_,?_⟩
   . simp[DataW.weights,Tryz.underlying34]
   . have hb1:Tryz.prog.bytesOf 33=16:=by kernel_rfl
     rw[hb1];omega
theorem anD {n:Nat}{a0 a1 a2 a3 a4 a5 a6 a7:Value}{ap:Option Addr}{L c:Nat}{x:DataW H×List MemPlace}(h:DataW.trod enc Tryz.prog w 0 (λ_=>true) true n 36 [a0,a1,a2,a3,a4,a5,a6,a7,.slice ap L c]=some x):L*16<=0\/∃k∈x.1.weights Tryz.prog 36,L*16<=k:=by
 obtain⟨xs,n1,rfl,rfl,hl,hxs,hf⟩:=XF Tryz.underlying36 h;have f7:=hf 7 _ rfl;simp only[Xe,ZI,YJ]at hxs;have g7:xs[7]?=some xs[7]:=Z8 VH;rw[Z8 VH]at f7;simp[J6,zU,Ku,DJ]at f7;rcases akq f7 with h1|⟨k,hk,h1⟩
 . exact .inl h1
 . refine .inr ⟨k,?_,h1⟩;simp only[DataW.weights,Tryz.underlying36];exact DataW.weights_mem_each (j:=7) (t:=34) (d:=xs[7].1) rfl (by rw[YO,g7];rfl) _ hk
theorem ak1 {sp:Option Addr}{cap:Nat}{os:List NM}{d:DataW H}{ps:List MemPlace}(h:DataW.Trod enc Tryz.prog w 0 (λ_=>true) true 22 (.slice sp os.length cap) d ps)(hs:Scr w sp os)(hz:∀k∈d.weights Tryz.prog 22,k<=reachBytes):∀o∈os,o.args.length*16<=140737488355328:=by
 intro o ho;obtain⟨fuel,hf⟩:=h;have hr:=reachBytes_lt;have hne:os≠[]:=by rintro rfl;exact Zx ho
 obtain⟨i,hi,rfl⟩:=List.mem_iff_getElem.1 ho;rcases open_slice Tryz.underlying22 hf with⟨hcs,hx⟩|⟨a,len,cap',m,n1,D,Pl,hcs,hb,hl,hm,hmm,J0,hx⟩
 . simp[Value.cells]at hcs;exact absurd hcs.2.1 hne
 . simp[Value.cells]at hcs;obtain⟨rfl,rfl,rfl⟩:=hcs;simp only[Y6]at hmm;subst hmm;have hd:d=.slice ((List.range os.length).map D) ((List.range (m-os.length)).map λj=>D (os.length+j)):=YV Prod.fst J0;obtain⟨cs',h1,h2⟩:=hx i VH;rw[CQ]at h1;obtain⟨b,off,hp,_,hq⟩:=hs.1 hne;cases hp;obtain⟨q0,q0,q0,q0,q0,q0,q0,q0,q0⟩:=hq i _ (Z8 hi);obtain⟨_,uB,h1⟩:=Ws h1;have h1:=h1 8 VH;rw[add_add,XJ,<- Wn]at h1;obtain⟨a0,a0,a0,a0,a0,a0,a0,a0,a0,rfl⟩:=zD uB
   have e8:a0=.slice os[i].ap os[i].args.length os[i].cap:=by
    have:=h1.symm.trans q0;simpa using this
   subst e8;rcases anD h2 with h1|⟨k,hk,h1⟩
   . omega
   . have:=hz k (by
      rw[hd];simp only[DataW.weights,Tryz.underlying22,ZM,YT]
      exact .inr (.inl (KE (Zy.2 ⟨i,YD.2 hi,rfl⟩) k hk)))
     omega
end
end Go.Proofs.YtkghmgoefiepeaaGreatDoor.reads
namespace Go.Proofs.Rz
open ChangeShapes WideShapes ChangeAt RowKit Kn Iz Tryz
variable {w w0 : World}
variable {m : Im}
variable {K : Kd}
theorem ab6 {b rb:Nat}{R:U0}(h:Du w0 w b rb m m K R)(o:NM)(o_:¬o.kind=1/\¬o.kind=2/\¬o.kind=3/\¬o.kind=4/\¬o.kind=5/\¬o.kind=7/\¬o.kind=10):
 Calls prog 30 #[VG b,VG rb,o.val] w (OZ w0 b rb m o):=by
 obtain⟨W,hW,hD,hB,hb⟩:=Qg h o;obtain⟨k1,k2,k3,k4,k5,k7,k10⟩:=o_;have HD:Hid _:=hD;obtain⟨kd,s,t,u,n,k,to,ap,cap,args,ab⟩:=o;simp only at k1 k2 k3 k4 k5 k7 k10;unfold NW at hW;simp only at hW;refine LM ?_;clear h hD hB hb;go_enter func30,ntmps30;go_wp2_with fail;rw[<- hW];clear hW;refine(RZ 0 _).mono ?_;rintro e w3 ⟨rfl,rfl⟩;go_wp2
 go_ret
 exact⟨Vy,m,K,R,HD.o,VH,λ_=>rfl⟩
theorem rX {b rb:Nat}{R:U0}(h:Du w0 w b rb m m K R)(o:NM)(hok:OI w o):
 Calls prog 30 #[VG b,VG rb,o.val] w (OZ w0 b rb m o):=by
 by_cases k1:o.kind=1
 . exact adq h o k1 hok
 by_cases k2:o.kind=2
 . exact rl_method h o k2 hok
 by_cases k3:o.kind=3
 . exact aeT h o k3 hok
 by_cases k4:o.kind=4
 . exact afz h o k4 hok
 by_cases k5:o.kind=5
 . exact afB h o k5 hok
 by_cases k7:o.kind=7
 . exact aoX h o k7 hok
 by_cases k10:o.kind=10
 . exact aeA h o k10 hok
 exact ab6 h o ⟨k1,k2,k3,k4,k5,k7,k10⟩
theorem ae1 {b rb:Nat}{R:U0}(h:Du w0 w b rb m m K R)(o:NM)(hok:OI w o)(k6:¬o.kind=6)(k8:¬o.kind=8)(k9:¬o.kind=9)(k11:¬o.kind=11):
 Calls prog 10 #[VG b,VG rb,o.val] w (OZ w0 b rb m o):=by
 obtain⟨W,hW,hD,hB,hb⟩:=Qg h o;have hc:=rX hD o (hok.below (by rw[hW];exact UF _ _));unfold Kn.NM.val at hc ⊢;unfold NW at hW;clear h hD hB hb hok;go_enter func10,ntmps10;go_wp2_with fail;rw[<- hW];refine hc.mono ?_;rintro e w1 hp;have HP:=UQ hp;obtain⟨rfl,_⟩:=hp;clear hc hW;go_wp2
 go_ret
 exact HP.o
theorem agf {b rb:Nat}{R:U0}(h:Du w0 w b rb m m K R)(o:NM)(o_:o.kind=6)(hok:OI w o):
 Calls prog 10 #[VG b,VG rb,o.val] w (OZ w0 b rb m o):=by
 obtain⟨W,hW,hD,hB,hb⟩:=Qg h o;obtain⟨hs,ht,hu,_,_,_,_⟩:=hok;obtain⟨kd,s,t,u,n,k,to,ap,cap,args,ab⟩:=o;simp only at o_ hs ht hu;subst o_;unfold NW at hW hb;simp only at hW hb;have hk1:=hD.a.make s;have HD:Hid (Du w0 W b rb m m K R/\Bd W m K R w.heap.size/\W.heap[w.heap.size]?=some (.cells #[VI 6,.string s,.string t,.string u,VI n,VI k,.bool to.obj,VI to.n,.slice ap args.length cap] 36)):=LG;refine LM ?_;clear h hD hB hb;go_enter func10,ntmps10;go_wp2_with fail;rw[<- hW];clear hW;refine acY ?_;intro w1 K' hst I_ hB1 hb1;have hbl:=hB1.1.lt;refine alf ?_;intro c1;obtain⟨v,hv⟩:∃v,v=(m.make s).1:=Vx;obtain⟨er,her⟩:∃v,v=(m.make s).2.1:=Vx;obtain⟨mm,hmm⟩:∃v,v=(m.make s).2.2:=Vx;have hlk:mm.looks=m.looks:=by rw[hmm];exact BO m s
 have Tp:=(I_.new (.cells #[.bool v.obj,VI v.n] 33))
 have hr1:=ajN Tp.1.r s;rw[I_.sZ]at hr1;rw[<- hv,<- her,<- hmm]at hr1;rw[<- hv,<- her];rw[<- hmm]at Tp;refine ajR ?_;intro k_;obtain⟨W2,hW2⟩:∃W2,W2=w1.alloc (.cells #[.bool v.obj,VI v.n] 33):=Vx;rw[<- hW2]at Tp hr1 k_
 have RT:Hid (Du w0 W2 b rb mm m K' R/\Bd W2 mm K' R w1.heap.size/\W2.heap[w1.heap.size]?=some (.cells #[.bool v.obj,VI v.n] 33)):=⟨Tp.1,Tp.2,k_⟩
 unfold Vl.val at hr1 ⊢;clear hk1 hst I_ hB1 hb1 Tp hv her hmm k_;go_wp2_with fail;rw[<- hW2];clear hW2;refine hr1.mono ?_;rintro e w2 ⟨rfl,R',hr,_,_⟩;refine ai1 ?_;intro I_ hB1 hb1 Tp L_ hb4;obtain⟨X,hX⟩:∃X,X=w2.alloc (.cells #[.bool v.obj,VI v.n] 79):=Vx;rw[<- hX]at Tp L_ hb4;refine ahR ?_;intro v0 v1 q0 q1 hvl hwl PA RT;clear hr1 hr I_ hB1 hb1 Tp L_ hb4;go_wp2_with fail;rw[<- hX];clear hX;refine Uy ?_;refine anE ?_;intro hHeld Y_ Z_ w4 _ _ _ r0 RT
 try go_wp2_with fail
 refine Z_.go λhHeld=>?_;clear Z_ Y_
 try refine UE ?_
 refine aa7 ?_;refine Uh 5 ?_;refine Ur 7 ?_;refine Ul 6 λY_ Z_=>?_;go_simp;refine(RZ er _).mono ?_;rintro e w1 ⟨rfl,rfl⟩
 try go_wp2_with fail
 refine Z_.go λhHeld=>?_;clear Z_ Y_
 try refine UE ?_
 refine Uh 8 ?_;refine Uh 9 ?_;refine Ur 10 ?_;refine Nr ?_;go_wp2
 go_ret
 exact⟨Vy,mm,K',R',RT.o,VH,λe=>sH⟩
theorem afN {b rb:Nat}{R:U0}(h:Du w0 w b rb m m K R)(o:NM)(o_:o.kind=8)(hok:OI w o):
 Calls prog 10 #[VG b,VG rb,o.val] w (OZ w0 b rb m o):=by
 obtain⟨W,hW,hD,hB,hb⟩:=Qg h o;obtain⟨hs,ht,hu,_,_,_,_⟩:=hok;obtain⟨kd,s,t,u,n,k,to,ap,cap,args,ab⟩:=o;simp only at o_ hs ht hu;subst o_;unfold NW at hW hb;simp only at hW hb;have hk1:=hD.a.slot n k;have HD:Hid (Du w0 W b rb m m K R/\Bd W m K R w.heap.size/\W.heap[w.heap.size]?=some (.cells #[VI 8,.string s,.string t,.string u,VI n,VI k,.bool to.obj,VI to.n,.slice ap args.length cap] 36)):=LG;refine LM ?_;clear h hD hB hb;go_enter func10,ntmps10;go_wp2_with fail;rw[<- hW];clear hW;refine acY ?_;intro w1 K' hst I_ hB1 hb1;have hbl:=hB1.1.lt;have c4:w1.cell? (VJ w.heap.size 4)=some (VI n):=by simp only[World.cell?,hb1];rfl
 have c4:w1.cell? (VJ w.heap.size 5)=some (VI k):=by simp only[World.cell?,hb1];rfl
 obtain⟨v,hv⟩:∃v,v=(m.slot n k).1:=Vx;obtain⟨er,her⟩:∃v,v=(m.slot n k).2:=Vx
 have Tp:=(I_.new (.cells #[.bool v.obj,VI v.n] 33))
 have hr1:=anU Tp.1.r n k;rw[I_.sZ]at hr1;rw[<- hv,<- her]at hr1;rw[<- hv,<- her];refine ajR ?_;intro k_;obtain⟨W2,hW2⟩:∃W2,W2=w1.alloc (.cells #[.bool v.obj,VI v.n] 33):=Vx;rw[<- hW2]at Tp hr1 k_
 have RT:Hid (Du w0 W2 b rb m m K' R/\Bd W2 m K' R w1.heap.size/\W2.heap[w1.heap.size]?=some (.cells #[.bool v.obj,VI v.n] 33)):=⟨Tp.1,Tp.2,k_⟩
 unfold Vl.val at hr1 ⊢;clear hk1 hst I_ hB1 hb1 Tp hv her k_;go_wp2_with fail;rw[<- hW2];clear hW2;refine hr1.mono ?_;rintro e w2 ⟨rfl,hbr⟩;have hr:=Vu.below RT.o.1.r hbr;refine ai1 ?_;intro I_ hB1 hb1 Tp L_ hb4;obtain⟨X,hX⟩:∃X,X=w2.alloc (.cells #[.bool v.obj,VI v.n] 79):=Vx;rw[<- hX]at Tp L_ hb4;refine ahR ?_;intro v0 v1 q0 q1 hvl hwl PA RT;clear hbr hr1 hr I_ hB1 hb1 Tp L_ hb4;go_wp2_with fail;rw[<- hX];clear hX;refine Uy ?_;refine anE ?_;intro hHeld Y_ Z_ w4 _ _ _ r0 RT
 try go_wp2_with fail
 refine Z_.go λhHeld=>?_;clear Z_ Y_
 try refine UE ?_
 refine aa7 ?_;refine Uh 5 ?_;refine Ur 7 ?_;refine Ul 6 λY_ Z_=>?_;go_simp;refine(RZ er _).mono ?_;rintro e w1 ⟨rfl,rfl⟩
 try go_wp2_with fail
 refine Z_.go λhHeld=>?_;clear Z_ Y_
 try refine UE ?_
 refine Uh 8 ?_;refine Uh 9 ?_;refine Ur 10 ?_;refine Nr ?_;go_wp2
 go_ret
 exact⟨Vy,m,K',R,RT.o,VH,λ_=>rfl⟩
theorem aoo {b rb:Nat}{R:U0}(h:Du w0 w b rb m m K R)(o:NM)(o_:o.kind=9)(hok:OI w o):
 Calls prog 10 #[VG b,VG rb,o.val] w (OZ w0 b rb m o):=by
 obtain⟨W,hW,hD,hB,hb⟩:=Qg h o;obtain⟨hs,ht,hu,_,_,_,_⟩:=hok;obtain⟨kd,s,t,u,n,k,to,ap,cap,args,ab⟩:=o;simp only at o_ hs ht hu;subst o_;unfold NW at hW hb;simp only at hW hb;have hk1:=hD.a.of n;have HD:Hid (Du w0 W b rb m m K R/\Bd W m K R w.heap.size/\W.heap[w.heap.size]?=some (.cells #[VI 9,.string s,.string t,.string u,VI n,VI k,.bool to.obj,VI to.n,.slice ap args.length cap] 36)):=LG;refine LM ?_;clear h hD hB hb;go_enter func10,ntmps10;go_wp2_with fail;rw[<- hW];clear hW;refine acY ?_;intro w1 K' hst I_ hB1 hb1;have c4:w1.cell? (VJ w.heap.size 4)=some (VI n):=by simp only[World.cell?,hb1];rfl
 have hr1:=rof I_.r n;rw[I_.sZ]at hr1;obtain⟨v,hv⟩:∃v,v=(m.nP n).1:=Vx;obtain⟨er,her⟩:∃v,v=(m.nP n).2:=Vx;rw[<- hv,<- her]at hr1 ⊢;have S5:Hid _:=I_;clear hk1 hst I_ hB1 hb1 hv her;go_wp2_with fail;refine hr1.mono ?_;rintro e w1 ⟨rfl,hbr⟩;have S5:=UQ (S5.o.below hbr);clear hr1 hbr;go_wp2_with fail;refine(RZ er _).mono ?_;rintro e w1 ⟨rfl,rfl⟩;go_wp2
 go_ret
 exact⟨Vy,m,K',R,S5.o,VH,λ_=>rfl⟩
structure Ed (w:World)(m:Im)(K:Kd)(R:U0)(v:Value)(l:List Vl):Prop where
 own:w.ownsRow 0 79 2 v l.length (vcs l)
 bd:∀k,v.ownBlock=some k->Bd w m K R k
variable {w' : World}
variable {m' : Im}
variable {K' : Kd}
theorem Ed.kin {R:U0}{v:Value}{l:List Vl}(h:Ed w m K R v l)(s:Step w w' m K m' K'):Ed w' m' K' R v l:=⟨Uk h.own (λk e=>((h.bd k e).kin s).2),λk e=>((h.bd k e).kin s).1⟩
theorem Ed.ref {m m2 m':Im}{R R':U0}{v:Value}{l:List Vl}(h:Ed w m K R v l)(s:Vu w w' m2 R m' R'):Ed w' m K R' v l:=⟨Uk h.own (λk e=>((h.bd k e).ref s).2),λk e=>((h.bd k e).ref s).1⟩
theorem Ed.below {R:U0}{v:Value}{l:List Vl}(h:Ed w m K R v l)(hk:Ud w m K)(hb:Below w.heap.size w w'):Ed w' m K R v l:=h.kin (Step.below hk hb)
theorem Bd.below {R:U0}{k:Nat}(h:Bd w m K R k)(hk:Ud w m K)(hb:Below w.heap.size w w'):Bd w' m K R k/\w'.heap[k]?=w.heap[k]?:=h.kin (Step.below hk hb)
theorem Ed.mk' {b rb:Nat}{m1 m2:Im}{R:U0}(h:Du w0 w b rb m1 m2 K R){v:Value}{l:List Vl}(ho:w'.ownsRow w.heap.size 79 2 v l.length (vcs l))(hb:Below w.heap.size w w'):Ed w' m1 K R v l:=by
 refine⟨⟨ho.1,ho.2.imp id ?_⟩,λk e=>⟨(ho.lt k e).2,λf=>by have:=h.a.Ub.lt f;have:=(ho.lt k e).1;omega,h.r.QF (ho.lt k e).1⟩⟩;rintro⟨g,cap,cur,h1,_,h3⟩;exact⟨g,cap,cur,h1,Yy _,h3⟩
theorem Ed.form {R:U0}{v:Value}{l:List Vl}(h:Ed w m K R v l):∃p cap ab,v=.slice p l.length cap/\UH w v l ab/\(l≠[]->R.lab ab=.no/\ab<w.heap.size/\p=some (VJ ab 0)):=by
 rcases h.own.2 with⟨rfl,hn⟩|⟨g,cap,cur,rfl,_,hg,_⟩
 . refine⟨none,0,0,by rw[hn],⟨none,0,by rw[hn],λe=>absurd (VZ.1 hn) e⟩,λe=>absurd (VZ.1 hn) e⟩
 . refine⟨some (VJ g 0),cap,g,rfl,⟨_,_,rfl,λ_=>⟨_,rfl,rfl,λj u hu=>h.own.cells (g:=g) rfl j u hu⟩⟩,λ_=>⟨(h.bd g rfl).no,(h.bd g rfl).lt,rfl⟩⟩
theorem wrap_small {n:Nat}(h:n<9223372036854775808):Go.RowKit.wrap64 (n:Nat)=(n:Nat):=by
 unfold Go.RowKit.wrap64;omega
def acK (w0:World)(b rb:Nat)(mm:Im)(K2:Kd)(R:U0)(o:NM)(l k:Value)(vb wb:Nat)(v:Vl)(X:World):Prop:=Du w0 X b rb mm mm K2 R/\Ed X mm K2 R l o.args/\Ed X mm K2 R k o.args/\(Bd X mm K2 R vb/\X.heap[vb]?=some (.cells #[.bool v.obj,VI v.n] 33))/\(Bd X mm K2 R wb/\X.heap[wb]?=some (.cells #[.bool v.obj,VI v.n] 79))
theorem acK.below {b rb:Nat}{mm:Im}{K2:Kd}{R:U0}{o:NM}{l k:Value}{vb wb:Nat}{v:Vl}{X X':World}(h:acK w0 b rb mm K2 R o l k vb wb v X)(hb:Below X.heap.size X X'):acK w0 b rb mm K2 R o l k vb wb v X':=by
 obtain⟨h1,h2,h3,h4,h5⟩:=h;have e4:=h4.1.below h1.a.Ub hb;have e5:=h5.1.below h1.a.Ub hb;exact⟨h1.below hb,h2.below h1.a.Ub hb,h3.below h1.a.Ub hb,⟨e4.1,e4.2.trans h4.2⟩,⟨e5.1,e5.2.trans h5.2⟩⟩
theorem Ed.at_ {R:U0}{p:Option Addr}{n cap:Nat}{l:List Vl}(h:Ed w m K R (.slice p n cap) l){j:Nat}{u:Vl}(hu:l[j]?=some u):∃g,p=some (VJ g 0)/\w.cell? (VJ g (j*2))=some (.bool u.obj)/\w.cell? (VJ g (j*2+1))=some (VI u.n)/\g<w.heap.size:=by
 have hj:=(Z7.1 hu).1;rcases h.own.2 with⟨_,e⟩|⟨g,cap',cur,e,_,hg,_⟩
 . omega
 . injection e with e1 e2 e3;subst e1 e2 e3;have hv:=PV l j u hu;refine⟨g,rfl,?_,?_,(Z5.1 hg).1⟩
   . rw[h.own.cellAt (j*2) VH];exact hv.1
   . rw[h.own.cellAt (j*2+1) VH];exact hv.2
theorem afH {b rb:Nat}{R:U0}(h:Du w0 w b rb m m K R)(o:NM)(o_:o.kind=11)(hok:OI w0 o)(wm:o.args.length*16<=140737488355328)(hlk:m.looks<=900000000000000000):
 Calls prog 10 #[VG b,VG rb,o.val] w (OZ w0 b rb m o):=by
 obtain⟨W,hW,hD,hB,hb⟩:=Qg h o;have n5:=hok.below hD.a.bel;have PA:=BN n5.args n5.lt wm;have N6:Hid _:=hok;have X_:=hok.to;have hs:=hok.zs;have HD:Hid (Du w0 W b rb m m K R/\Bd W m K R w.heap.size/\W.heap[w.heap.size]?=some (.cells (NW o) 36)):=LG;have HKD:Hid _:=o_;unfold NW at hW;unfold Kn.NM.val;rw[o_]at hW ⊢;clear h hD hB hb n5 hok o_;go_enter func10,ntmps10;go_wp2_with fail;rw[<- hW];clear hW;refine PA.mono ?_;rintro e w1 ⟨lv,rfl,hown,hb1⟩;have Ke:=Ed.mk' HD.o.1 hown hb1;have I_:=HD.o.1.below hb1;have hB1:=HD.o.2.1.below HD.o.1.a.Ub hb1;have WF:=hB1.2.trans HD.o.2.2;have c1:w1.cell? (VJ w.heap.size 1)=some (.string o.s):=by simp only[World.cell?,WF];rfl
 have c4:w1.cell? (VJ w.heap.size 4)=some (VI o.n):=by simp only[World.cell?,WF];rfl
 have c6:w1.cell? (VJ w.heap.size 6)=some (.bool o.to.obj):=by simp only[World.cell?,WF];rfl
 have c7:w1.cell? (VJ w.heap.size 7)=some (VI o.to.n):=by simp only[World.cell?,WF];rfl
 have c8:w1.cell? (VJ w.heap.size 8)=some (.slice o.ap o.args.length o.cap):=by simp only[World.cell?,WF];rfl
 have ho1:=N6.o.below I_.a.bel;have hks:=I_.a.send o.to X_ o.s hs ho1.args (λe=>⟨ho1.lt e,N6.o.off I_.a e⟩) N6.o.all o.n
 have H1:Hid (Du w0 w1 b rb m m K R/\Ed w1 m K R lv o.args/\Bd w1 m K R w.heap.size/\w1.heap[w.heap.size]?=some (.cells (NW o) 36)):=⟨I_,Ke,hB1.1,WF⟩
 obtain⟨lp,lc,lab,hlv,_,_⟩:=Ke.form;subst hlv;unfold Vl.val at hks;clear PA hown hb1 Ke I_ hB1 WF ho1;go_wp2_with fail;refine hks.mono ?_;rintro e w1 ⟨K2,rfl,z'⟩;have hlk2:=Af m o.to o.s o.args o.n;obtain⟨v,hv⟩:∃v,v=(m.Uf o.to o.s o.args o.n).1:=Vx;obtain⟨nn,hnn⟩:∃v,v=(m.Uf o.to o.s o.args o.n).2.1:=Vx;obtain⟨er,her⟩:∃v,v=(m.Uf o.to o.s o.args o.n).2.2.1:=Vx;obtain⟨mm,hmm⟩:∃v,v=(m.Uf o.to o.s o.args o.n).2.2.2:=Vx;have hr:m.Uf o.to o.s o.args o.n=(v,nn,er,mm):=by rw[hv,hnn,her,hmm]
 rw[<- hmm]at z' hlk2;rw[<- hv,<- hnn,<- her];have HR:Hid _:=hr;clear hr hv hnn her hmm;have I_:=H1.o.1.kin z';have Ke:=H1.o.2.1.kin z';have hB1:=H1.o.2.2.1.kin z';have WF:=hB1.2.trans H1.o.2.2.2;have z7:=I_.new (.cells #[.bool v.obj,VI v.n] 33);have hL3:=Ke.below I_.a.Ub (UF w1 (.cells #[.bool v.obj,VI v.n] 33));have j_:=hB1.1.below I_.a.Ub (UF w1 (.cells #[.bool v.obj,VI v.n] 33));have T7:=j_.2.trans WF;have Mp:(w1.alloc (.cells #[.bool v.obj,VI v.n] 33)).heap[w1.heap.size]?=some (.cells #[.bool v.obj,VI v.n] 33):=(Z4 w1 _).1;obtain⟨W3,hW3⟩:∃W3,W3=w1.alloc (.cells #[.bool v.obj,VI v.n] 33):=Vx;rw[<- hW3]at z7 hL3 j_ T7 Mp
 have H1:Hid (Du w0 W3 b rb mm m K2 R/\Ed W3 mm K2 R (.slice lp o.args.length lc) o.args/\Bd W3 mm K2 R w.heap.size/\W3.heap[w.heap.size]?=some (.cells (NW o) 36)/\Bd W3 mm K2 R w1.heap.size/\W3.heap[w1.heap.size]?=some (.cells #[.bool v.obj,VI v.n] 33)):=⟨z7.1,hL3,j_.1,T7,z7.2,Mp⟩
 have b7:Below W3.heap.size W3 W3.drew:=(ZR _ _).drew;have cj:Below W3.heap.size W3 (W3.alloc (.cells #[.bool false,VI 0] 79)).drew:=(UF _ _).drew;have c1:W3.cell? (VJ w.heap.size 1)=some (.string o.s):=by simp only[World.cell?,T7];rfl
 have c4:W3.cell? (VJ w.heap.size 4)=some (VI o.n):=by simp only[World.cell?,T7];rfl
 have c6:W3.cell? (VJ w.heap.size 6)=some (.bool o.to.obj):=by simp only[World.cell?,T7];rfl
 have c7:W3.cell? (VJ w.heap.size 7)=some (VI o.to.n):=by simp only[World.cell?,T7];rfl
 have km:=j_.1.lt;have Z1:¬W3.heap.size=w.heap.size:=VH;have rK:=NG o.to W3.drew;have tP:=NG o.to (W3.alloc (.cells #[.bool false,VI 0] 79)).drew;unfold Vl.val at rK tP ⊢;clear hks z' I_ Ke hB1 WF z7 hL3 j_ T7 Mp c8;go_wp2_with fail;rw[<- hW3];clear hW3;refine Uy ?_;refine ZT (S:=(λw'=>w'.cell? (VJ w.heap.size 1)=some (.string o.s)/\w'.cell? (VJ w.heap.size 4)=some (VI o.n)/\w'.cell? (VJ w.heap.size 6)=some (.bool o.to.obj)/\w'.cell? (VJ w.heap.size 7)=some (VI o.to.n))) VE UG (λhHeld=>?_);refine Ep ?_;refine Uh 2 ?_;refine Uh 4 ?_;refine agh ?_;refine Ur 8 ?_;refine Zv (rs:=[3,14]) VE Vy ?_;refine(ZO (o:=_) rfl (λY_ Z_=>?Pa1) (ZO (o:=_) rfl (λY_ Z_=>?bE) ZA))
 case' Pa1=>
  go_simp;refine rK.mono ?_;rintro e w4 ⟨rfl,hb1⟩;have RO:=b7.trans (hb1.mono UM);have I_:=H1.o.1.below RO;have Ke:=H1.o.2.1.below H1.o.1.a.Ub RO;have hB1:=H1.o.2.2.1.below H1.o.1.a.Ub RO;have SW:=H1.o.2.2.2.2.1.below H1.o.1.a.Ub RO;have WF:=hB1.2.trans H1.o.2.2.2.1;have Mp:=SW.2.trans H1.o.2.2.2.2.2
  have d1:w4.cell? (VJ w.heap.size 1)=some (.string o.s):=(by simp only[World.cell?,WF];rfl)
  have d4:w4.cell? (VJ w.heap.size 4)=some (VI o.n):=(by simp only[World.cell?,WF];rfl)
  have d6:w4.cell? (VJ w.heap.size 6)=some (.bool o.to.obj):=(by simp only[World.cell?,WF];rfl)
  have d7:w4.cell? (VJ w.heap.size 7)=some (VI o.to.n):=(by simp only[World.cell?,WF];rfl)
  have aqa:=hB1.1.lt
  try go_wp2_with fail
  refine Z_.go λhHeld=>?_;clear Z_ Y_
  try refine UE ?_
  have Te:¬w4.heap.size=w.heap.size:=VH;refine Zv (rs:=[9,14]) VE Vy ?_;refine(ZO (o:=_) rfl (λY_ Z_=>?Pb1) (ZO (o:=_) rfl (λY_ Z_=>?Pb2) ZA))
  case' Pb1=>
   refine aij ?_;intro wx wj LE w_;refine FT ?_;rintro e w5 ⟨R5,rfl,hrs⟩;have j_:=hB1.1.ref hrs;have T7:=j_.2.trans WF;refine alI ?_;intro g1 g4 g6 g7;unfold Vl.val
   try go_wp2_with fail
   refine Z_.go λhHeld=>?_;clear Z_ Y_;refine acW ?_;refine Ul 14 λY_ Z_=>?_;refine Vg ?_;intro hHeld;clear Z_ Y_
   try refine UE ?_
   refine Ul 15 λY_ Z_=>?_;refine Vg ?_;intro hHeld;clear Z_ Y_
   try refine UE ?_
   refine CG ?_;refine Nr ?_;have Mz:=hrs.trans (Vu.below hrs.rk (UF w5 (.cells #[.bool v.obj,VI v.n] 79)));have cM:=I_.ref Mz
   have HY:Hid (Du w0 (w5.alloc (.cells #[.bool v.obj,VI v.n] 79)) b rb mm mm K2 R5/\Ed (w5.alloc (.cells #[.bool v.obj,VI v.n] 79)) mm K2 R5 (.slice lp o.args.length lc) o.args/\Bd (w5.alloc (.cells #[.bool v.obj,VI v.n] 79)) mm K2 R5 w.heap.size/\(w5.alloc (.cells #[.bool v.obj,VI v.n] 79)).heap[w.heap.size]?=some (.cells (NW o) 36)/\Bd (w5.alloc (.cells #[.bool v.obj,VI v.n] 79)) mm K2 R5 w1.heap.size/\(w5.alloc (.cells #[.bool v.obj,VI v.n] 79)).heap[w1.heap.size]?=some (.cells #[.bool v.obj,VI v.n] 33)/\Bd (w5.alloc (.cells #[.bool v.obj,VI v.n] 79)) mm K2 R5 w5.heap.size/\(w5.alloc (.cells #[.bool v.obj,VI v.n] 79)).heap[w5.heap.size]?=some (.cells #[.bool v.obj,VI v.n] 79)):=⟨cM,Ke.ref Mz,(hB1.1.ref Mz).1,(hB1.1.ref Mz).2.trans WF,(SW.1.ref Mz).1,(SW.1.ref Mz).2.trans Mp,((I_.ref hrs).new (.cells #[.bool v.obj,VI v.n] 79)).2,(Z4 w5 _).1⟩
   obtain⟨Y,S1⟩:∃Y,Y=w5.alloc (.cells #[.bool v.obj,VI v.n] 79):=Vx;obtain⟨wb,F0⟩:∃wb,wb=w5.heap.size:=Vx;rw[<- S1,<- F0]at HY ⊢;clear hrs Mz cM S1 F0 w_ j_ T7 I_ Ke hB1 SW WF Mp RO hb1;refine ?lf
  case' Pb2=>
   refine Vg ?_;intro hHeld;clear Z_ Y_
   try refine UE ?_
   have mU:=I_.new (.cells #[.bool false,VI 0] 79);have hLx:=Ke.below I_.a.Ub adX;have Ix:=hB1.1.below I_.a.Ub adX;have fT:=Ix.1;have Mn:=Ix.2.trans WF;have g8:=mU.2;have qS:(w4.alloc (.cells #[.bool false,VI 0] 79)).heap[w4.heap.size]?=some (.cells #[.bool false,VI 0] 79):=(Z4 w4 _).1;have CH:w4.heap.size<(w4.alloc (.cells #[.bool false,VI 0] 79)).heap.size:=Vy;have Ds:=I_.r.QF UM;have gO:=hLx.form;obtain⟨wx,wj,LE,LA,DB,Hc⟩:=gO;have w_:=adD mU.1.r o.to X_ o.s SE (args:=o.args) (ap:=wx) (cap:=wj) (ab:=LE) agX ahd N6.o.all SE o.n;rw[<- LA,HR.o,mU.1.sZ]at w_;unfold Vl.val at w_;clear LA DB Hc;refine Ul 9 λY_ Z_=>?_;refine FT ?_;rintro e w5 ⟨R5,rfl,hrs⟩;have j_:=fT.ref hrs;have T7:=j_.2.trans Mn;refine alI ?_;intro g1 g4 g6 g7;have Ni:=(g8.ref hrs).2.trans qS;have u0:=(Vp Ni).1;have u1:=(Vp Ni).2;have uf:∀o,w5.frozen? (VJ w4.heap.size o)=false:=λo=>UL.free ⟨_,_,Ni⟩ o;unfold Vl.val
   try go_wp2_with fail
   refine Z_.go λhHeld=>?_;clear Z_ Y_;refine acW ?_;refine Ul 15 λY_ Z_=>?_;refine Vg ?_;intro hHeld;clear Z_ Y_
   try refine UE ?_
   refine CG ?_;refine Nr ?_;have F3:=(hrs.lab _ CH).trans Ds
   have Tx:=(Vu.told ((Vu.below I_.r adX).trans hrs) (z:=w4.heap.size) UM F3 (.bool v.obj) (VI v.n))
   have xS:((w5.setCell (VJ w4.heap.size 0) (.bool v.obj)).setCell (VJ w4.heap.size 1) (VI v.n)).heap[w4.heap.size]?=some (.cells #[.bool v.obj,VI v.n] 79):=by rw[QK (QK Ni 0 _) 1 _];rfl
   have HY:Hid (Du w0 ((w5.setCell (VJ w4.heap.size 0) (.bool v.obj)).setCell (VJ w4.heap.size 1) (VI v.n)) b rb mm mm K2 R5/\Ed ((w5.setCell (VJ w4.heap.size 0) (.bool v.obj)).setCell (VJ w4.heap.size 1) (VI v.n)) mm K2 R5 (.slice lp o.args.length lc) o.args/\Bd ((w5.setCell (VJ w4.heap.size 0) (.bool v.obj)).setCell (VJ w4.heap.size 1) (VI v.n)) mm K2 R5 w.heap.size/\((w5.setCell (VJ w4.heap.size 0) (.bool v.obj)).setCell (VJ w4.heap.size 1) (VI v.n)).heap[w.heap.size]?=some (.cells (NW o) 36)/\Bd ((w5.setCell (VJ w4.heap.size 0) (.bool v.obj)).setCell (VJ w4.heap.size 1) (VI v.n)) mm K2 R5 w1.heap.size/\((w5.setCell (VJ w4.heap.size 0) (.bool v.obj)).setCell (VJ w4.heap.size 1) (VI v.n)).heap[w1.heap.size]?=some (.cells #[.bool v.obj,VI v.n] 33)/\Bd ((w5.setCell (VJ w4.heap.size 0) (.bool v.obj)).setCell (VJ w4.heap.size 1) (VI v.n)) mm K2 R5 w4.heap.size/\((w5.setCell (VJ w4.heap.size 0) (.bool v.obj)).setCell (VJ w4.heap.size 1) (VI v.n)).heap[w4.heap.size]?=some (.cells #[.bool v.obj,VI v.n] 79)):=⟨(I_).ref Tx,(Ke).ref Tx,((hB1.1).ref Tx).1,((hB1.1).ref Tx).2.trans WF,((SW.1).ref Tx).1,((SW.1).ref Tx).2.trans Mp,⟨(Z5.1 xS).1,λf=>by have:=(I_).a.Ub.lt f;omega,F3⟩,xS⟩
   obtain⟨Y,S1⟩:∃Y,Y=(w5.setCell (VJ w4.heap.size 0) (.bool v.obj)).setCell (VJ w4.heap.size 1) (VI v.n):=Vx;obtain⟨wb,F0⟩:∃wb,wb=w4.heap.size:=Vx;rw[<- S1,<- F0]at HY ⊢;clear hrs Tx xS S1 F0 w_ Ni u0 u1 uf F3;refine ?lf
 case' bE=>
  refine Vg ?_;intro hHeld;clear Z_ Y_
  try refine UE ?_
  refine Ul 3 λY_ Z_=>?_;go_simp;refine tP.mono ?_;rintro e w4 ⟨rfl,hb1⟩;have RO:=cj.trans (hb1.mono (by show W3.heap.size<=(W3.alloc _).heap.size;simp));have I_:=H1.o.1.below RO;have Ke:=H1.o.2.1.below H1.o.1.a.Ub RO;have Ix:=H1.o.2.2.1.below H1.o.1.a.Ub RO;have fT:=Ix.1;have Mn:=Ix.2.trans H1.o.2.2.2.1
  have d1:w4.cell? (VJ w.heap.size 1)=some (.string o.s):=(by simp only[World.cell?,Mn];rfl)
  have d4:w4.cell? (VJ w.heap.size 4)=some (VI o.n):=(by simp only[World.cell?,Mn];rfl)
  have d6:w4.cell? (VJ w.heap.size 6)=some (.bool o.to.obj):=(by simp only[World.cell?,Mn];rfl)
  have d7:w4.cell? (VJ w.heap.size 7)=some (VI o.to.n):=(by simp only[World.cell?,Mn];rfl)
  have qS:=(hb1.block _ (by show W3.heap.size<(W3.alloc _).heap.size;simp)).trans (Z4 W3 _).1
  try go_wp2_with fail
  refine Z_.go λhHeld=>?_;clear Z_ Y_
  try refine UE ?_
  have CH:=(Z5.1 qS).1;have Ds:=H1.o.1.r.QF UM
  have g8:Bd w4 mm K2 R W3.heap.size:=⟨CH,λf=>by have:=H1.o.1.a.Ub.lt f;omega,Ds⟩
  refine aij ?_;intro wx wj LE w_;refine Ul 9 λY_ Z_=>?_;refine FT ?_;rintro e w5 ⟨R5,rfl,hrs⟩;have j_:=fT.ref hrs;have T7:=j_.2.trans Mn;refine alI ?_;intro g1 g4 g6 g7;have Ni:=(g8.ref hrs).2.trans qS;have u0:=(Vp Ni).1;have u1:=(Vp Ni).2;have uf:∀o,w5.frozen? (VJ W3.heap.size o)=false:=λo=>UL.free ⟨_,_,Ni⟩ o;unfold Vl.val
  try go_wp2_with fail
  refine Z_.go λhHeld=>?_;clear Z_ Y_;refine acW ?_;refine Ul 15 λY_ Z_=>?_;refine Vg ?_;intro hHeld;clear Z_ Y_
  try refine UE ?_
  refine CG ?_;refine Nr ?_;have F3:=(hrs.lab _ CH).trans Ds
  have Tx:=(Vu.told ((Vu.below H1.o.1.r RO).trans hrs) (z:=W3.heap.size) UM F3 (.bool v.obj) (VI v.n))
  have xS:((w5.setCell (VJ W3.heap.size 0) (.bool v.obj)).setCell (VJ W3.heap.size 1) (VI v.n)).heap[W3.heap.size]?=some (.cells #[.bool v.obj,VI v.n] 79):=by rw[QK (QK Ni 0 _) 1 _];rfl
  have HY:Hid (Du w0 ((w5.setCell (VJ W3.heap.size 0) (.bool v.obj)).setCell (VJ W3.heap.size 1) (VI v.n)) b rb mm mm K2 R5/\Ed ((w5.setCell (VJ W3.heap.size 0) (.bool v.obj)).setCell (VJ W3.heap.size 1) (VI v.n)) mm K2 R5 (.slice lp o.args.length lc) o.args/\Bd ((w5.setCell (VJ W3.heap.size 0) (.bool v.obj)).setCell (VJ W3.heap.size 1) (VI v.n)) mm K2 R5 w.heap.size/\((w5.setCell (VJ W3.heap.size 0) (.bool v.obj)).setCell (VJ W3.heap.size 1) (VI v.n)).heap[w.heap.size]?=some (.cells (NW o) 36)/\Bd ((w5.setCell (VJ W3.heap.size 0) (.bool v.obj)).setCell (VJ W3.heap.size 1) (VI v.n)) mm K2 R5 w1.heap.size/\((w5.setCell (VJ W3.heap.size 0) (.bool v.obj)).setCell (VJ W3.heap.size 1) (VI v.n)).heap[w1.heap.size]?=some (.cells #[.bool v.obj,VI v.n] 33)/\Bd ((w5.setCell (VJ W3.heap.size 0) (.bool v.obj)).setCell (VJ W3.heap.size 1) (VI v.n)) mm K2 R5 W3.heap.size/\((w5.setCell (VJ W3.heap.size 0) (.bool v.obj)).setCell (VJ W3.heap.size 1) (VI v.n)).heap[W3.heap.size]?=some (.cells #[.bool v.obj,VI v.n] 79)):=⟨(H1.o.1).ref Tx,(H1.o.2.1).ref Tx,((H1.o.2.2.1).ref Tx).1,((H1.o.2.2.1).ref Tx).2.trans H1.o.2.2.2.1,((H1.o.2.2.2.2.1).ref Tx).1,((H1.o.2.2.2.2.1).ref Tx).2.trans H1.o.2.2.2.2.2,⟨(Z5.1 xS).1,λf=>by have:=(H1.o.1).a.Ub.lt f;omega,F3⟩,xS⟩
  obtain⟨Y,S1⟩:∃Y,Y=(w5.setCell (VJ W3.heap.size 0) (.bool v.obj)).setCell (VJ W3.heap.size 1) (VI v.n):=Vx;obtain⟨wb,F0⟩:∃wb,wb=W3.heap.size:=Vx;rw[<- S1,<- F0]at HY ⊢;clear hrs Tx xS S1 F0 w_ Ni u0 u1 uf F3;refine ?lf
 all_goals
  have vA:=HY.o.2.2.2.1;have y8:Y.cell? (VJ w.heap.size 8)=some (.slice o.ap o.args.length o.cap):=by simp only[World.cell?,vA];rfl
  have j7:=N6.o.below HY.o.1.a.bel;have wn:=BN j7.args j7.lt wm;obtain⟨na,hna⟩:∃na,na=o.args.length:=Vx;have bh:Hid _:=hna;clear vA j7;go_wp2_with fail;refine wn.mono ?_;rintro e w4 ⟨kv,rfl,B9,hb1⟩;have wy:=Ed.mk' HY.o.1 B9 hb1;obtain⟨kp,kc,_,ic,_,_⟩:=wy.form;subst ic;have SW:=HY.o.2.2.2.2.1.below HY.o.1.a.Ub hb1;have hW3:=HY.o.2.2.2.2.2.2.1.below HY.o.1.a.Ub hb1
  have H1:Hid (acK w0 b rb mm K2 R5 o (.slice lp o.args.length lc) (.slice kp o.args.length kc) w1.heap.size wb v w4):=⟨HY.o.1.below hb1,HY.o.2.1.below HY.o.1.a.Ub hb1,wy,⟨SW.1,SW.2.trans HY.o.2.2.2.2.2.1⟩,⟨hW3.1,hW3.2.trans HY.o.2.2.2.2.2.2.2⟩⟩
  rw[<- hna]at H1 wm;rw[<- hna];clear wn B9 hb1 wy SW hW3 hna y8;go_wp2_with fail
  go_loopw [27] (λi wr=>∃j:Nat,i=VI j/\j<=na/\acK w0 b rb mm K2 R5 o (.slice lp na lc) (.slice kp na kc) w1.heap.size wb v wr) (λi _=>na-(intOf i).toNat)
  case atStart=>exact⟨0,rfl,VH,H1.o⟩
  case round=>
   obtain⟨j,rfl,hj,Bp⟩:=hrel;have dq:=UQ Bp;by_cases hjn:j<na
   . obtain⟨u,hu⟩:∃u,o.args[j]?=some u:=⟨_,Z8 (by rw[<- bh.o];exact hjn)⟩
     obtain⟨lg,hlg,l0,l0,ll⟩:=Bp.2.1.at_ hu;obtain⟨kg,hkg,k0,k0,kl⟩:=Bp.2.2.1.at_ hu;subst hlg hkg;have FE:(j:Int)<(na:Int):=VH;clear Bp hu;go_wp2_with fail;refine Uy ?_;refine ZT (S:=(λw'=>w'.cell? (VJ lg (j*2))=some (.bool u.obj)/\w'.cell? (VJ lg (j*2+1))=some (VI u.n)/\w'.cell? (VJ kg (j*2))=some (.bool u.obj)/\w'.cell? (VJ kg (j*2+1))=some (VI u.n))) VE UG (λhHeld=>?_);refine zr1 ?_;refine Uh 7 ?_;refine Ur 8 ?_;refine Nr ?_;go_wp2
     go_roundw
     case rel=>exact⟨j+1,Uu,VH,dq.o.below (ZR _ _).drew⟩
     case measure=>simp[intOf]<;>omega
   . obtain rfl:j=na:=by omega
     have RE:=aaJ Bp.1.a.Ub;rw[Bp.1.a.b_]at RE;have hcl:=Bp.1.a.Ub.cll;have zE:mm.looks<9223372036854775808:=VH;have hw1:=wrap_small zE;have hw2:=wrap_small (Nat.lt_of_le_of_lt hcl zE);have Ch:=Int.ofNat_le.2 hcl;have hc0:(0:Int)<=((K2.UC:Nat):Int):=Int.natCast_nonneg _;rw[hw1,hw2]at RE;have HW:Hid _:=hw1;have bB:=UQ hlk2;clear Bp hw1 hw2 wm hlk hlk2 zE hcl hj hjn X_ hs km Z1;go_wp2_with fail;refine RE.mono ?_;rintro e w4 ⟨rfl,hb1⟩;have h7:=dq.o.below hb1;have r2:=h7.1.r.c2;rw[h7.1.sZ,HW.o]at r2;have hrl:=h7.1.r.Vb.lt;rw[h7.1.sZ]at hrl;have v0:=(Vp h7.2.2.2.1.2).1;have v1:=(Vp h7.2.2.2.1.2).2;have q0:=(Vp h7.2.2.2.2.2).1;have q1:=(Vp h7.2.2.2.2.2).2;have hvl:=h7.2.2.2.1.1.lt;have hwl:=h7.2.2.2.2.1.lt;have PA:=NG v w4.drew;unfold Vl.val at PA;have H1:=UQ (h7.1.below (ZR _ _).drew);clear RE hb1 h7;go_wp2_with fail;refine Uy ?_;refine ZT (S:=(λw'=>w'.cell? (VJ w1.heap.size 0)=some (.bool v.obj)/\w'.cell? (VJ w1.heap.size 1)=some (VI v.n)/\w'.cell? (VJ wb 0)=some (.bool v.obj)/\w'.cell? (VJ wb 1)=some (VI v.n)/\w'.cell? (VJ rb 2)=some (VI (mm.looks:Nat)))) VE UG (λhHeld=>?_);refine Uh 0 ?_;refine Ur 2 ?_;refine Ul 1 λY_ Z_=>?_;go_simp;refine PA.mono ?_;rintro e w4 ⟨rfl,hb1⟩;have s0:=(hb1.cell (p:=(VJ w1.heap.size 0)) hvl).trans v0;have s0:=(hb1.cell (p:=(VJ w1.heap.size 1)) hvl).trans v1;have s0:=(hb1.cell (p:=(VJ wb 0)) hwl).trans q0;have s0:=(hb1.cell (p:=(VJ wb 1)) hwl).trans q1;have s0:=(hb1.cell (p:=(VJ rb 2)) hrl).trans r2;have H1:=UQ (H1.o.below hb1);clear hb1
     try go_wp2_with fail
     refine Z_.go λhHeld=>?_;clear Z_ Y_
     try refine UE ?_
     refine Ur 3 ?_;refine Ur 4 ?_;refine tC ?_;refine Ur 7 ?_;refine Ur 8 ?_;refine Ur 9 ?_;refine Uh 10 ?_;refine Ur 12 ?_;refine Ul 11 λY_ Z_=>?_;go_simp;refine(RZ er _).mono ?_;rintro e w1 ⟨rfl,rfl⟩
     try go_wp2_with fail
     refine Z_.go λhHeld=>?_;clear Z_ Y_
     try refine UE ?_
     refine Ur 13 ?_;refine Ur 14 ?_;refine Ur 15 ?_;refine CG ?_;refine Uh 18 ?_;refine Ur 19 ?_;refine Ur 20 ?_;refine Ur 21 ?_;refine Ur 22 ?_;refine Ur 23 ?_;refine Ur 24 ?_;refine Ur 25 ?_;refine Ur 26 ?_;refine Ur 27 ?_;refine Uh 28 ?_;refine Ur 29 ?_;refine Ur 30 ?_;refine Ur 31 ?_;refine Ur 32 ?_;refine Nr ?_;go_wp2
     go_ret
     refine⟨?_,mm,K2,R5,H1.o,bB.o,λe=>by rcases e with e|e<;>(rw[HKD.o]at e;omega)⟩;simp<;>omega
theorem zW {b rb:Nat}{R:U0}(h:Du w0 w b rb m m K R)(o:NM)(hok:OI w0 o)(wm:o.args.length*16<=140737488355328)(hlk:m.looks<=900000000000000000):
 Calls prog 10 #[VG b,VG rb,o.val] w (OZ w0 b rb m o):=by
 have hw:=hok.below h.a.bel;by_cases k6:o.kind=6
 . exact agf h o k6 hw
 by_cases k8:o.kind=8
 . exact afN h o k8 hw
 by_cases k9:o.kind=9
 . exact aoo h o k9 hw
 by_cases k11:o.kind=11
 . exact afH h o k11 hok wm hlk
 exact ae1 h o hw k6 k8 k9 k11
def gV (k i j:Int):NM:=⟨k,⟨#[]⟩,⟨#[]⟩,⟨#[]⟩,i,j,Vl.zero,none,0,[],0⟩
theorem aaU (w:World)(k i j:Int):OI w (gV k i j):=
 ⟨Yy _,Yy _,Yy _,by unfold gV Vl.zero TB;simp,⟨none,0,rfl,λe=>absurd rfl e⟩,λe=>absurd rfl e,λv hv=>by cases hv⟩
theorem pR {b rb:Nat}{R:U0}(h:Du w0 w b rb m m K R)(hlk:m.looks<=900000000000000000)(k i j:Int)(hk:k=8\/k=9):
 Calls prog 10 #[VG b,VG rb,.agg #[VI k,.string ⟨#[]⟩,.string ⟨#[]⟩,.string ⟨#[]⟩,VI i,VI j,.bool false,VI 0,.slice none 0 0]] w λe w'=>e=.returned (.bool true)/\∃K' R',Du w0 w' b rb m m K' R':=by
 refine(zW h (gV k i j) (aaU _ _ _ _) (by simp[gV]) hlk).mono ?_;rintro e w' ⟨rfl,m',K',R',hD,_,hm⟩;obtain rfl:=hm hk;exact⟨rfl,K',R',hD⟩
theorem kM {b rb:Nat}{R:U0}(h:Du w0 w b rb m m K R)(hlk:m.looks<=900000000000000000):
 Calls prog 11 #[VG b,VG rb] w λe w'=>e=.returned (.bool true)/\Below w0.heap.size w0 w':=by
 have HD:Hid _:=h;have Ra:=h.r.ok.objs;clear h;go_enter func11,ntmps11;go_wp2_with fail
 go_loopw [5] (λi wr=>∃j:Nat,i=VI j/\j<=m.obs.length+1/\∃K R,Du w0 wr b rb m m K R) (λi _=>m.obs.length+1-(intOf i).toNat)
 case atStart=>exact⟨0,rfl,VH,K,R,HD.o⟩
 case round=>
  obtain⟨j,rfl,hj,K1,R1,hD⟩:=hrel;have S5:Hid _:=hD;obtain⟨p,cap,hv⟩:=hD.r.vo_;have c1:=hD.r.c1;rw[hv,hD.sZ]at c1;have hl:=hD.r.Vb.lt;rw[hD.sZ]at hl;by_cases hjn:j<=m.obs.length
  . have FE:(j:Int)<=(m.obs.length:Int):=by omega
    have hof:=pR hD hlk 9 (j:Nat) 0 JQ;clear hD hv;go_wp2_with fail;refine hof.mono ?_;rintro e w2 ⟨rfl,K1,R1,Tp⟩;have RT:Hid _:=Tp;clear hof Tp c1 hl;go_wp2_with fail
    go_loopw [7] (λi wr=>∃k:Nat,i=VI k/\k<=11/\∃K R,Du w0 wr b rb m m K R) (λi _=>11-(intOf i).toNat)
    case atStart=>exact⟨0,rfl,VH,K1,R1,RT.o⟩
    case round=>
     obtain⟨k,rfl,hk,K1,R1,Tp⟩:=hrel
     have RT:Hid (∃K R,Du w0 wr b rb m m K R):=⟨K1,R1,Tp⟩
     by_cases hkn:k<=10
     . have eM:(k:Int)<=10:=by omega
       have hsl:=pR Tp hlk 8 (j:Nat) (k:Nat) NP;clear Tp;go_wp2_with fail;refine hsl.mono ?_;rintro e w2 ⟨rfl,K1,R1,eZ⟩
       have HD4:Hid (∃K R,Du w0 w2 b rb m m K R):=⟨K1,R1,eZ⟩
       clear hsl eZ;go_wp2_with fail
       go_roundw
       case rel=>exact⟨k+1,Uu,VH,HD4.o⟩
       case measure=>simp[intOf]<;>omega
     . obtain rfl:k=11:=by omega
       clear Tp;go_wp2
       go_roundw
       case rel=>exact⟨j+1,Uu,VH,RT.o⟩
       case measure=>simp[intOf]<;>omega
  . obtain rfl:j=m.obs.length+1:=by omega
    clear hD hv;go_wp2
    go_ret
    exact⟨rfl,S5.o.a.bel⟩
theorem cO (p t:Int)(sp:Option Addr)(cap:Nat)(os:List NM)(w:World)(hg:Qv w)(hs:Scr w sp os)(hn:os.length<=140737488355328)(hz:∀o∈os,o.args.length*16<=140737488355328):
 Calls prog 3 #[VI p,VI t,.slice sp os.length cap] w λe w'=>e=.returned (.bool true)/\Below w.heap.size w w':=by
 have HS:Hid (Scr w sp os/\(∀o∈os,o.args.length*16<=140737488355328)/\Qv w):=⟨hs,hz,hg⟩
 obtain⟨n,hnn⟩:∃n,n=os.length:=Vx;have HN:Hid _:=hnn;rw[<- hnn]at hn ⊢;clear hs hnn hz;by_cases H_:Oh p t
 . have HG:=UQ H_;clear H_;go_enter func3,ntmps3;go_wp2_with fail;refine(new_any p t w hg HG.o).mono ?_;rintro e w1 ⟨K1,rfl,hk1,hf1,hb1⟩
   have SM:Hid (Ud w1 im0 K1/\(∀k,U2 im0 K1 k->w.heap.size<=k)/\Below w.heap.size w w1):=⟨hk1,hf1,hb1⟩
   clear hk1 hf1 hb1 hg;go_wp2_with fail;refine(adK p t w1 HG.o).mono ?_;rintro e w2 ⟨R,rfl,hr2,hf1,hb1⟩
   have hD:Du w w2 K1.b R.b im0 im0 K1 R:=⟨HS.o.2.2,⟨SM.o.1.below hb1,SM.o.2.1,SM.o.2.2.trans (hb1.mono SM.o.2.2.size),rfl⟩,hr2,rfl,λk e=>ZC SM.o.2.2.size (hf1 k e),λk e=>Zt λx=>by have:=hf1 k x;have:=SM.o.1.lt e;omega⟩
   obtain⟨b,Ss⟩:∃b,b=K1.b:=Vx;obtain⟨rb,vh⟩:∃b,b=R.b:=Vx;rw[<- Ss,<- vh]at hD ⊢;have HD:Hid _:=hD;clear hD Ss vh hr2 hf1 hb1;go_wp2_with fail;refine(RZ 0 _).mono ?_;rintro e w3 ⟨rfl,rfl⟩;go_wp2_with fail
   go_loopw [11] (λi wr=>∃k:Nat,i=VI k/\k<=n/\∃m K R,Du w wr b rb m m K R/\m.looks<=6002*k) (λi _=>n-(intOf i).toNat)
   case atStart=>exact⟨0,rfl,VH,im0,K1,R,HD.o,ZN _⟩
   case round=>
    obtain⟨k,rfl,hk,m,L,R',hD,hlk⟩:=hrel
    have HT:Hid (Du w wr b rb m m L R'/\m.looks<=6002*k):=⟨hD,hlk⟩
    have Cs:m.looks<=900000000000000000:=VH;by_cases hkn:k<n
    . obtain⟨o,ho⟩:∃o,os[k]?=some o:=⟨_,Z8 (by rw[<- HN.o];exact hkn)⟩
      have hne:os≠[]:=λe=>by rw[e]at ho;cases ho
      obtain⟨sb,so,hsp,hsl,hget⟩:=HS.o.1.at_ hne;have hok:=HS.o.1.ok o (ZK ho);have q:=hget k o ho;have hbl:=hD.a.bel;have hsk:∀x,wr.cell? (VJ sb x)=w.cell? (VJ sb x):=λx=>hbl.cell (p:=(VJ sb x)) hsl;simp only[<- hsk]at q;have ik:=zW hD o hok (HS.o.2.1 o (ZK ho)) Cs;unfold Kn.NM.val at ik;subst hsp;clear hD ho hne hget hok hsk hbl hlk Cs;have eM:(k:Int)<(n:Int):=VH;go_wp2_with fail;refine ik.mono ?_;rintro e wa ⟨rfl,m1,L3,R3,z7,hl3,_⟩
      have H5:Hid (∃m K R,Du w wa b rb m m K R/\m.looks<=6002*(k+1)):=⟨m1,L3,R3,z7,by have:=HT.o.2;omega⟩
      clear ik z7 hl3 q;go_wp2_with fail
      go_roundw
      case rel=>exact⟨k+1,Uu,VH,H5.o⟩
      case measure=>simp[intOf]<;>omega
    . obtain rfl:k=n:=by omega
      have hst:=kM hD Cs;clear hD hlk Cs;go_wp2_with fail;refine hst.mono ?_;rintro e wz ⟨rfl,hbz⟩;have HZ:Hid _:=hbz;clear hst hbz;go_wp2
      go_ret
      exact⟨rfl,HZ.o⟩
 . have HG:=UQ H_;clear H_;go_enter func3,ntmps3;go_wp2_with fail;refine(alo p t w HG.o).mono ?_;rintro e w1 ⟨rfl,hw⟩;replace hw:=hw.symm;subst hw;go_wp2_with fail;refine(afX p t w HG.o).mono ?_;rintro e w2 ⟨rfl,hw⟩;replace hw:=hw.symm;subst hw;go_wp2_with fail;refine(RZ 1 _).mono ?_;rintro e w3 ⟨rfl,hw⟩;replace hw:=hw.symm;subst hw;go_wp2
   go_ret
   exact⟨rfl,ZR _ _⟩
end Go.Proofs.Rz
namespace Go.Proofs.YtkghmgoefiepeaaGreatDoor.reads
open Go.ChangeShapes Go.WideShapes Go.ChangeAt Go.RowKit Kn Go.Proofs.Rz
theorem own:ownKnob Tryz.prog.godebug=none:=VE
theorem alk {W:World}(h:laidMetH Tryz.prog Rows.runsRow.laid W):Qv W:=by
 obtain⟨⟨l0,l1,l2⟩,hE,hP,hH⟩:=of_laid h;exact⟨l0,l1,l2,hE,hP,hH⟩
theorem door_met (os:Os)(args:Array Value):laidMetH Tryz.prog Rows.runsRow.laid ((World.doorLaid Tryz.prog 400 os).forCall (λ_ _=>0) ⟨#[],args,[]⟩).memory:=
 laidMetH_of_parts3 (fuel:=8) (laidMet_of_run' 8 VE VE) VE VE
theorem lifted (os:Os)(started:os.Started)(H:Type)(enc:TypeId×Value->H):
 ReturnsInHanded {} Tryz.checked os 3 .any (λw args=>(Rows.runsSpec.pre enc Tryz.prog Tryz.f3 [] false w args/\laidMetH Tryz.prog Rows.runsRow.laid w)/\sizedMet enc Tryz.prog Tryz.f3 (OpenSpec.ofChange Rows.runsSpec) false w args)
  (Rows.runsSpec.post enc Tryz.prog Tryz.f3 false true false false):=by
 refine returnsInHanded_of_change_and (C:=Tryz.checked) (X:=λw _=>laidMetH Tryz.prog Rows.runsRow.laid w) (λ_ _ _ hh h=>h.of_heap hh) own started VE Tryz.func3
  (ChangeSpec.witness_shaped (enc:=enc) (C:=Tryz.checked) (os:=os) (X:=λw _=>laidMetH Tryz.prog Rows.runsRow.laid w) false (World.doorLaid Tryz.prog 400 os) #[.int .i64 0,.int .i64 0,.slice none 0 0] 8 rfl (World.shaped_of_RefB VE VE) VE VE VE (door_met os _)) ?_
 intro W base args ds gs before hval0 hW _ hsz hL _;have hval:∀(j:Nat) t v,Tryz.f3.params[j]?=some t->args[j]?=some v->Value.okWide Tryz.prog W .any base t v:=hval0;have hW':=hW;obtain⟨p,q,hA0,hV,rfl,hfz,hnd⟩:=hW;have hA:DataW.TrodAll enc Tryz.prog W 0 (λ_=>true) true Tryz.f3.params.toList args.toList ds p:=hA0;rw[Tryz.params3]at hA hval;obtain⟨v0,cR,d0,dr,p0,q0,hargs,rfl,rfl,h0,r0⟩:=trodAll_cons hA;obtain⟨v1,cR,d0,dr,p0,q0,rfl,rfl,rfl,h1,r0⟩:=trodAll_cons r0;obtain⟨v2,cR,d0,dr,p0,q0,rfl,rfl,rfl,h2,r0⟩:=trodAll_cons r0;obtain⟨rfl,rfl,rfl⟩:=trodAll_nil r0;obtain rfl:args=#[v0,v1,v2]:=by cases args;simp_all
 obtain⟨rfl,rfl⟩:=trodVars_none hV;obtain⟨a0,rfl,rfl,rfl,w0⟩:=open_int Tryz.underlying3 (hval 0 3 v0 rfl rfl) h0;obtain⟨a1,rfl,rfl,rfl,w1⟩:=open_int Tryz.underlying3 (hval 1 3 v1 rfl rfl) h1
 have hz2:∀k∈d0.weights Tryz.prog 22,k<=reachBytes:=λk hk=>by
  have:=Y9.1 hsz k (DataW.weights_mem_each (j:=2) (t:=22) (d:=d0) rfl rfl k hk);simpa using this
 obtain⟨sp,cap,os,rfl,rr,hlen⟩:=ad5 h2 (okWide_slice Tryz.underlying22 (hval 2 22 v2 rfl rfl)) hz2;have uA:=ak1 h2 rr hz2;clear hA0 hval0;simp only[XR,Yg]at hW';have hlt:=hW'.lt;refine(cO a0 a1 sp cap os W (alk hL) rr hlen uA).mono λe W' ⟨he,hg⟩=>?_;subst he
 exact⟨_,rfl,Kn.oM (pa:=[]++([]++(p0++[]))) (pv:=[]) hW' (λ_ _ _=>(trodAll_cons_mk (shut_bool Tryz.underlying4 _) trodAll_mk0)) (λs hsp=>(trodAll_cons_mk (shut_int Tryz.underlying3 w0) (trodAll_cons_mk (shut_int Tryz.underlying3 w1) (trodAll_cons_mk (WideElems.Trod_stays VE VE (of_decide_eq_true VE) h2 (λx hx=>hg.same (hlt x hx)) hsp) trodAll_mk0)))) Ji Vy
  hg (ok_one VE rfl (okWide_bool_mk Tryz.underlying4 _))⟩
theorem over:Rows.RunsSaid:=
 OpenClaim.holds_of_wide 3 Tryz.f3 rfl rfl rfl rfl rfl rfl rfl ⟨rfl,rfl,rfl,rfl,rfl⟩ rfl rfl rfl rfl rfl VE Tryz.func3 VE
  (of_decide_eq_true VE) (by unfold Func.isWrapper;first|(rw[if_pos (by decide +kernel)];kernel_rfl)|(rw[if_neg (by decide +kernel)];exact KP))
  (λos started H enc _=>lifted os started H enc)
theorem proved:Rows.RunsCardSaid:=
 Claim7.holds_tied_plain_at .later [] [.data, .data, .data] true (true, "0d59a4a332c927354d073a6beeb0066784f55666aeb5ae984c1f23e05fcc868e") true
  over (λ_ h=>MO) VE (λ_ h=>MO) runs_row_tie rfl KP VE rfl
  (λf fn hf hfn=>by
   obtain rfl : f = 3 := Option.some.inj ((show Tryz.prog.funcNamed "kin/kinlaw.Runs" = some 3 by kernel_rfl).symm.trans hf) |>.symm
   obtain rfl:fn=Tryz.f3:=(Y7 (Tryz.func3.symm.trans hfn)).symm
   exact⟨VE,λj t ht=>by
    rw[Tryz.params3]at ht;have hm:t∈[3,3,22]:=by simpa using Array.mem_of_getElem? ht
    have hall:([3,3,22].all λu=>!Tryz.prog.wantsStandIn u)=true:=VE
    exact(show Tryz.prog.wantsStandIn t=false by simpa using Y9.1 hall t hm)⟩)
  VE
#print axioms proved
end Go.Proofs.YtkghmgoefiepeaaGreatDoor.reads
