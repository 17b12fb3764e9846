import Derived.WalkSmall
import Derived.Test.YtkghmgoefiepeaaGreatDoorF
set_option linter.unusedSimpArgs false
set_option linter.unusedVariables false
set_option maxHeartbeats 4000000
set_option maxRecDepth 100000
namespace Go.Proofs.Rz
open ChangeShapes WideShapes ChangeAt RowKit Kn Tryz
def acT (w:World)(Q:Nat->Prop)(x:Mt)(a b:Value):Prop:=a=.string x.sel/\∃q h c,b=.slice q x.ws.length c/\pG w q h x.ws/\(1<=x.ws.length->Q h)
def Qu (w:World)(Q:Nat->Prop):List Mt->List Value->Prop
 | [],xs=>xs=[]
 | x::r,xs=>∃a b t,xs=a::b::t/\acT w Q x a b/\Qu w Q r t
variable {w : World}
theorem Qu.snoc {Q:Nat->Prop}{x:Mt}{a b:Value}(hx:acT w Q x a b):∀(l:List Mt) (xs:List Value),Qu w Q l xs->Qu w Q (l++[x]) (xs++[a,b])
 | [],xs,h=>by
  have h:xs=[]:=h;subst h;exact⟨a,b,[],rfl,hx,rfl⟩
 | y::r,xs,h=>by
  obtain⟨c,d,t,rfl,h1,h2⟩:=h;exact⟨c,d,t++[a,b],rfl,h1,Qu.snoc hx r t h2⟩
theorem Qu.get {Q:Nat->Prop}{x:Mt}:∀(l:List Mt) (xs:List Value) (i:Nat),Qu w Q l xs->l[i]?=some x->∃a b,xs[i*2]?=some a/\xs[i*2+1]?=some b/\acT w Q x a b
 | [],xs,i,h,hx=>by simp at hx
 | y::r,xs,0,h,hx=>by
  obtain⟨c,d,t,rfl,h1,h2⟩:=h;simp only[List.getElem?_cons_zero,Y2]at hx;subst hx;exact⟨c,d,rfl,rfl,h1⟩
 | y::r,xs,i+1,h,hx=>by
  obtain⟨c,d,t,rfl,h1,h2⟩:=h;rw[Xn]at hx;obtain⟨a,b,e1,e2,e3⟩:=Qu.get r t i h2 hx;refine⟨a,b,?_,?_,e3⟩
  . rw[show (i+1)*2=i*2+1+1 by omega];exact e1
  . rw[show (i+1)*2+1=i*2+1+1+1 by omega];exact e2
theorem Qu.at {w W:World}{Q Q':Nat->Prop}{l:List Mt}{xs:List Value}{B:Nat}{T:TypeId}{v:Value}(h:Qu w Q l xs)(ho:W.ownsRow B T 2 v l.length xs)(hb:Below w.heap.size w W)(hv:∀k,v.ownBlock=some k->Q' k)(hQ:∀k,Q k->Q' k):jD W Q' v l:=by
 obtain⟨p,cap,rfl⟩:=Rn ho;refine⟨p,cap,rfl,λh1=>?_⟩
 obtain⟨g,cap',cur,e,hB,hg,_⟩:=(ho.2.resolve_left (λe=>by
  obtain⟨e,_⟩:=e;injection e with _ e
  omega))
 injection e with e e' e2;subst e;have hlt:=ho.lt g rfl;refine⟨g,rfl,hv g rfl,hlt.2,λi x hx=>?_⟩;obtain⟨a,b,h1,h3,rfl,q,hh,c,rfl,h4,h5⟩:=h.get l xs i hx;have hi:=(Z7.1 hx).1;exact⟨(ho.cellAt (i*2) VH).trans h1,q,hh,c,(ho.cellAt (i*2+1) VH).trans h3,h4.below UM hb,λe=>hQ _ (h5 e)⟩
variable {m : Im}
theorem abb {Q:Nat->Prop}{cl:List Cl}{B b:Nat}{vc:Value}(hm:U3 m)(hr:RIm w B b vc cl)(h:Ri w m Q cl){c:Nat}{k:Kl}(hk:m.kl[c]?=some k)(hl:k.ms.length<=1600000000)(x:Mt)(p:Option Addr)(cap:Nat)(hx:acT w Q x (.string x.sel) (.slice p x.ws.length cap)):
 Calls prog 101 #[VG b,VI (c:Nat),.agg #[.string x.sel,.slice p x.ws.length cap]] w λe w'=>e=.returned (.tuple #[])/\∃W v g Zs xs,vc=.slice (some (VJ g 0)) cl.length Zs/\w'=W.setCell (VJ g (c*4+3)) v/\Below w.heap.size w W/\W.ownsRow w.heap.size 180 2 v (k.put x).ms.length xs/\Qu w Q (k.put x).ms xs:=by
 have hc:=(Z7.1 hk).1
 obtain⟨y,hy⟩:∃y,cl[c]?=some y:=⟨_,Z8 agG⟩
 obtain⟨_,_,_,mp,RM,hmv,R2⟩:=h.rel c k y hk hy;obtain⟨q,g,Zs,rfl,hat⟩:=Qa hr.own;obtain rfl:q=some (VJ g 0):=hat.head eP;refine ajo ?_;intro hg c0 c3 f3 hlt hcl HM;obtain⟨n,hn⟩:∃n,n=k.ms.length:=Vx;have HN:Hid _:=hn;have HX:=UQ hx;rw[<- hn]at c3 hl;obtain⟨i0,hi0,hz0,hz1,hz2⟩:=YQ FP;clear hr h hat R2 hmv hy hk hm hn hx;go_enter func101,ntmps101;go_wp2_with fail
 go_loopw [6,7] (λl i wr=>∃(j:Nat) (xs:List Value),i=VI j/\j<=n/\Below (w.heap.size+1) (w.alloc (.cells #[.string x.sel,.slice p x.ws.length cap] 180)) wr/\wr.ownsRow (w.heap.size+1) 180 2 l ((k.ms.take j).filter (λy=>!(y.sel==x.sel))).length xs/\Qu w Q ((k.ms.take j).filter (λy=>!(y.sel==x.sel))) xs) (λ_ i _=>n-(intOf i).toNat)
 case atStart=>exact⟨0,[],rfl,VH,ZR _ _,YW _ _ _ _,rfl⟩
 case round=>
  obtain⟨j,xs,rfl,hj,hbl,hown,hrow⟩:=hrel
  have hcell:∀bk o,bk<w.heap.size->wr.cell? (VJ bk o)=w.cell? (VJ bk o):=λbk o hb=>by
   rw[hbl.cell (p:=(VJ bk o)) (by show bk<w.heap.size+1;omega)];exact Z9 (a:=(VJ bk o)) (ZV w _ bk hb)
  have e0:=(hcell b 0 hlt).trans c0;have e3:=(hcell g _ hg).trans c3
  have g3:wr.frozen? (VJ g (c*4+3))=false:=by
   rw[hbl.frozen (p:=(VJ g (c*4+3))) (by show g<w.heap.size+1;omega)];exact(Zr (a:=(VJ g (c*4+3))) (ZV w _ g hg)).trans f3
  have b0:wr.cell? (VJ w.heap.size 0)=some (.string x.sel):=by
   rw[hbl.cell (p:=(VJ w.heap.size 0)) (by show w.heap.size<w.heap.size+1;omega)];simp[Addr.add]
  have b1:wr.cell? (VJ w.heap.size 1)=some (.slice p x.ws.length cap):=by
   rw[hbl.cell (p:=(VJ w.heap.size 1)) (by show w.heap.size<w.heap.size+1;omega)];simp[Addr.add]
  have hws:=hbl.size;simp only[ZJ]at hws
  have HI:Hid (Below (w.heap.size+1) (w.alloc (.cells #[.string x.sel,.slice p x.ws.length cap] 180)) wr/\Qu w Q ((k.ms.take j).filter (λy=>!(y.sel==x.sel))) xs/\∀bk o,bk<w.heap.size->wr.cell? (VJ bk o)=w.cell? (VJ bk o)):=⟨hbl,hrow,hcell⟩
  have hfl:((k.ms.take j).filter (λy=>!(y.sel==x.sel))).length<=1600000000:=ZC (XI _ _) (by simp only[Za];omega);obtain⟨nf,Mw⟩:∃nf,nf=((k.ms.take j).filter (λy=>!(y.sel==x.sel))).length:=Vx;have Db:Hid _:=Mw;rw[<- Mw]at hown hfl;clear hbl hrow hcell Mw c0 c3 f3;by_cases hjn:j<n
  . obtain⟨y,hy⟩:∃y,k.ms[j]?=some y:=⟨_,Z8 agI⟩
    obtain⟨mg,rfl,_,r9,hget⟩:=HM.o aeV;refine ajM ?_;intro d0 yq yh yc d1 wD wA HY htk;clear hget hy wD wA;by_cases he:y.sel=x.sel
    . have Wg:Hid ((k.ms.take (j+1)).filter (λy=>!(y.sel==x.sel))=(k.ms.take j).filter (λy=>!(y.sel==x.sel))):=by
       have hx1:(k.ms.take (j+1)).filter (λy=>!(y.sel==x.sel))=(k.ms.take j).filter (λy=>!(y.sel==x.sel)):=by
        rw[htk,Yi];simp[(SK y.sel x.sel).2 he]
       exact hx1
      have HOW:=UQ hown;clear hown htk;go_wp2
      go_quiet (fail)
      go_wp2
      go_roundw
      case rel=>exact⟨j+1,xs,Uu,VH,⟨HI.o.1.os,HI.o.1.tape,HI.o.1.output,HI.o.1.size,HI.o.1.block⟩,by rw[Wg.o,<- Db.o];exact HOW.o,by rw[Wg.o];exact HI.o.2.1⟩
      case measure=>simp[intOf];omega
    . have te:=yt he;go_wp2
      go_quiet (fail)
      have hown1:((wr.drewN nq).alloc (.cells #[.string y.sel,.slice yq y.ws.length yc] 180)).ownsRow (w.heap.size+1) 180 2 u6 nf xs:=WO (show (wr.drewN nq).ownsRow (w.heap.size+1) 180 2 u6 nf xs from hown) _;have hnews:=Us (wr.drewN nq) [.string y.sel,.slice yq y.ws.length yc] 180
      have HOW:Hid (wr.ownsRow (w.heap.size+1) 180 2 u6 nf xs/\k.ms.take (j+1)=k.ms.take j++[y]):=⟨hown,htk⟩
      clear hown htk
      go_wp2_with first
       | (at_builtin;refine wpList_append_own_at _ rfl _ _ 72 rfl (w.heap.size+1) 180 i0 (.agg #[.string ⟨#[]⟩,.slice none 0 0]) 2 40 underlying72 hi0 hz0 hz1 hz2 rfl Vz _ _ _ rfl hown1 (VJ wr.heap.size 0) 1 1 [.string y.sel,.slice yq y.ws.length yc] rfl rfl hnews vH SE VH aia ?_)
       | fail
      intro v2 W2 hown2 hg2 _ _
      have Uv:Hid (Below (w.heap.size+1) (w.alloc (.cells #[.string x.sel,.slice p x.ws.length cap] 180)) W2):=by
       have hx1:=Tc (wr:=wr.drewN nq) ⟨HI.o.1.os,HI.o.1.tape,HI.o.1.output,HI.o.1.size,HI.o.1.block⟩ Ey HOW.o.1 hg2;exact hx1
      have D1:=UQ hown2
      have Wg:Hid ((k.ms.take (j+1)).filter (λy=>!(y.sel==x.sel))=(k.ms.take j).filter (λy=>!(y.sel==x.sel))++[y]):=by
       have hx1:(k.ms.take (j+1)).filter (λy=>!(y.sel==x.sel))=(k.ms.take j).filter (λy=>!(y.sel==x.sel))++[y]:=by
        rw[HOW.o.2,Yi];simp[(Vf y.sel x.sel).2 he]
       exact hx1
      clear hown2 hg2 hnews hown1 e0 e3 g3 b0 b1 d0 d1;go_wp2
      go_roundw
      case rel=>exact⟨j+1,_,Uu,VH,Uv.o,aie,ah7⟩
      case measure=>simp[intOf];omega
  . obtain rfl:j=n:=by omega
    have hown1:(wr.alloc (.cells #[.string x.sel,.slice p x.ws.length cap] 180)).ownsRow (w.heap.size+1) 180 2 u6 nf xs:=WO hown _;have hnews:=Us wr [.string x.sel,.slice p x.ws.length cap] 180;have HOW:=UQ hown;clear hown
    go_wp2_with first
     | (at_builtin;refine wpList_append_own_at _ rfl _ _ 72 rfl (w.heap.size+1) 180 i0 (.agg #[.string ⟨#[]⟩,.slice none 0 0]) 2 40 underlying72 hi0 hz0 hz1 hz2 rfl Vz _ _ _ rfl hown1 (VJ wr.heap.size 0) 1 1 [.string x.sel,.slice p x.ws.length cap] rfl rfl hnews vH SE VH aia ?_)
     | fail
    intro v2 W2 hown2 hg2 _ _
    have Uv:Hid (Below (w.heap.size+1) (w.alloc (.cells #[.string x.sel,.slice p x.ws.length cap] 180)) W2):=by
     have hx1:=Tc (wr:=wr) HI.o.1 Ey HOW.o hg2;exact hx1
    have D1:=UQ hown2
    have O':∀bk,bk<w.heap.size->W2.heap[bk]?=wr.heap[bk]?:=λbk hb=>by
     rw[Uv.o.block bk VH,HI.o.1.block bk VH]
    have e02:=(Z9 (a:=(VJ b 0)) (O' b hlt)).trans e0;have e02:=(Z9 (a:=(VJ g (c*4+3))) (O' g hg)).trans e3;have g32:=(Zr (a:=(VJ g (c*4+3))) (O' g hg)).trans g3
    have Wg:Hid ((k.put x).ms=(k.ms.take j).filter (λy=>!(y.sel==x.sel))++[x]):=by
     have hx1:(k.put x).ms=(k.ms.take j).filter (λy=>!(y.sel==x.sel))++[x]:=by
      rw[HN.o,Yv];rfl
     exact hx1
    obtain⟨q2,c0,rfl⟩:=Rn hown2;clear hown2 hg2 hnews hown1 e0 e3 g3 b0 b1 O';go_wp2
    go_end0
    refine⟨rfl,W2,_,g,Zs,xs++[.string x.sel,.slice p x.ws.length cap],rfl,rfl,⟨Uv.o.os,Uv.o.tape,Uv.o.output,?_,λbk hb=>?_⟩,?_,?_⟩
    . have:=Uv.o.size;simp only[ZJ]at this;omega
    . rw[Uv.o.block bk VH];exact ZV w _ bk hb
    . rw[Wg.o,Zw,<- Db.o];obtain⟨h1,h2⟩:=D1.o;refine⟨h1,h2.imp id ?_⟩;rintro⟨g',cp,cur,h1,h2,h2⟩;exact⟨g',cp,cur,h1,VH,h2⟩
    . rw[Wg.o];exact Qu.snoc HX.o _ _ HI.o.2.1
theorem l9 {Q:Nat->Prop}{cl:List Cl}{B b:Nat}{vc:Value}(hm:U3 m)(hr:RIm w B b vc cl)(h:Ri w m Q cl){c:Nat}{k:Kl}(hk:m.kl[c]?=some k)(hl:k.ms.length<=1600000000)(cls sel:ByteArray)(hc0:m.cls cls=some c)(ho:0<=A8 k.ms sel):
 Calls prog 60 #[VG b,.string cls,.string sel] w λe w'=>e=.returned (VI 0)/\∃W v g Zs xs,vc=.slice (some (VJ g 0)) cl.length Zs/\w'=W.setCell (VJ g (c*4+3)) v/\Below w.heap.size w W/\W.ownsRow w.heap.size 180 2 v (k.drop sel).ms.length xs/\Qu w Q (k.drop sel).ms xs:=by
 have hcc:=BK hm hr h cls;rw[hc0]at hcc;simp only[Qh]at hcc;have hoo:=kJ hm hr h hk sel hl;have hc:=(Z7.1 hk).1
 obtain⟨y,hy⟩:∃y,cl[c]?=some y:=⟨_,Z8 agG⟩
 obtain⟨_,_,_,mp,RM,hmv,R2⟩:=h.rel c k y hk hy;obtain⟨q,g,Zs,rfl,hat⟩:=Qa hr.own;obtain rfl:q=some (VJ g 0):=hat.head eP;refine ajo ?_;intro hg c0 c3 f3 hlt hcl HM;obtain⟨n,hn⟩:∃n,n=k.ms.length:=Vx;have HN:Hid _:=hn;rw[<- hn]at c3 hl;obtain⟨i0,hi0,hz0,hz1,hz2⟩:=YQ FP;clear hr h hat R2 hmv hy hk hm hn hc0;go_enter func60,ntmps60;go_wp2_with fail;refine hcc.mono ?_;rintro e w1 ⟨rfl,hw1⟩;replace hw1:=hw1.symm;subst hw1;go_wp2_with fail;refine hoo.mono ?_;rintro e w1 ⟨rfl,hw1⟩;replace hw1:=hw1.symm;subst hw1;go_wp2_with fail
 go_loopw [8,9] (λl i wr=>∃(j:Nat) (xs:List Value),i=VI j/\j<=n/\Below w.heap.size w wr/\wr.ownsRow w.heap.size 180 2 l ((k.ms.take j).filter (λy=>!(y.sel==sel))).length xs/\Qu w Q ((k.ms.take j).filter (λy=>!(y.sel==sel))) xs) (λ_ i _=>n-(intOf i).toNat)
 case atStart=>exact⟨0,[],rfl,VH,ZR _ _,YW _ _ _ _,rfl⟩
 case round=>
  obtain⟨j,xs,rfl,hj,hbl,hown,hrow⟩:=hrel;have hcell:∀bk o,bk<w.heap.size->wr.cell? (VJ bk o)=w.cell? (VJ bk o):=λbk o hb=>hbl.cell (p:=(VJ bk o)) hb;have e0:=(hcell b 0 hlt).trans c0;have e3:=(hcell g _ hg).trans c3;have g3:=(hbl.frozen (p:=(VJ g (c*4+3))) hg).trans f3;have hws:=hbl.size
  have HI:Hid (Below w.heap.size w wr/\Qu w Q ((k.ms.take j).filter (λy=>!(y.sel==sel))) xs/\∀bk o,bk<w.heap.size->wr.cell? (VJ bk o)=w.cell? (VJ bk o)):=⟨hbl,hrow,hcell⟩
  have hfl:((k.ms.take j).filter (λy=>!(y.sel==sel))).length<=1600000000:=ZC (XI _ _) (by simp only[Za];omega);obtain⟨nf,Mw⟩:∃nf,nf=((k.ms.take j).filter (λy=>!(y.sel==sel))).length:=Vx;have Db:Hid _:=Mw;rw[<- Mw]at hown hfl;clear hbl hrow hcell Mw c0 c3 f3;by_cases hjn:j<n
  . obtain⟨y,hy⟩:∃y,k.ms[j]?=some y:=⟨_,Z8 agI⟩
    obtain⟨mg,rfl,_,r9,hget⟩:=HM.o aeV;refine ajM ?_;intro d0 yq yh yc d1 wD wA HY htk;clear hget hy wD wA;by_cases he:y.sel=sel
    . have Wg:Hid ((k.ms.take (j+1)).filter (λy=>!(y.sel==sel))=(k.ms.take j).filter (λy=>!(y.sel==sel))):=by
       have hx1:(k.ms.take (j+1)).filter (λy=>!(y.sel==sel))=(k.ms.take j).filter (λy=>!(y.sel==sel)):=by
        rw[htk,Yi];simp[(SK y.sel sel).2 he]
       exact hx1
      have HOW:=UQ hown;clear hown htk;go_wp2
      go_roundw
      case rel=>exact⟨j+1,xs,Uu,VH,HI.o.1,by rw[Wg.o,<- Db.o];exact HOW.o,by rw[Wg.o];exact HI.o.2.1⟩
      case measure=>simp[intOf];omega
    . have te:=yt he;have hown1:(wr.alloc (.cells #[.string y.sel,.slice yq y.ws.length yc] 180)).ownsRow w.heap.size 180 2 u8 nf xs:=WO hown _;have hnews:=Us wr [.string y.sel,.slice yq y.ws.length yc] 180
      have HOW:Hid (wr.ownsRow w.heap.size 180 2 u8 nf xs/\k.ms.take (j+1)=k.ms.take j++[y]):=⟨hown,htk⟩
      clear hown htk
      go_wp2_with first
       | (at_builtin;refine wpList_append_own_at _ rfl _ _ 72 rfl w.heap.size 180 i0 (.agg #[.string ⟨#[]⟩,.slice none 0 0]) 2 40 underlying72 hi0 hz0 hz1 hz2 rfl Vz _ _ _ rfl hown1 (VJ wr.heap.size 0) 1 1 [.string y.sel,.slice yq y.ws.length yc] rfl rfl hnews vH SE VH Ey ?_)
       | fail
      intro v2 W2 hown2 hg2 _ _
      have Uv:Hid (Below w.heap.size w W2):=by
       have hx1:=Tc (wr:=wr) HI.o.1 UM HOW.o.1 hg2;exact hx1
      have D1:=UQ hown2
      have Wg:Hid ((k.ms.take (j+1)).filter (λy=>!(y.sel==sel))=(k.ms.take j).filter (λy=>!(y.sel==sel))++[y]):=by
       have hx1:(k.ms.take (j+1)).filter (λy=>!(y.sel==sel))=(k.ms.take j).filter (λy=>!(y.sel==sel))++[y]:=by
        rw[HOW.o.2,Yi];simp[(Vf y.sel sel).2 he]
       exact hx1
      clear hown2 hg2 hnews hown1 e0 e3 g3 d0 d1;go_wp2
      go_roundw
      case rel=>exact⟨j+1,_,Uu,VH,Uv.o,aie,ah7⟩
      case measure=>simp[intOf];omega
  . obtain rfl:j=n:=by omega
    have Wg:Hid ((k.drop sel).ms=(k.ms.take j).filter (λy=>!(y.sel==sel))):=by
     have hx1:(k.drop sel).ms=(k.ms.take j).filter (λy=>!(y.sel==sel)):=by
      rw[HN.o,Yv];rfl
     exact hx1
    have D1:=UQ hown;obtain⟨q2,c0,rfl⟩:=Rn hown;clear hown;go_wp2
    go_ret
    refine⟨rfl,wr,_,g,Zs,xs,rfl,rfl,HI.o.1,?_,?_⟩
    . rw[Wg.o,<- Db.o];exact D1.o
    . rw[Wg.o];exact HI.o.2.1
end Go.Proofs.Rz
namespace Kn
open Go
theorem qF:∀(N:Nat) (l:List Nat),l.Nodup->(∀x∈l,x<N)->l.length<=N
 | 0,l,_,h=>by
  cases l with
  | nil=>simp
  | cons a r=>exact absurd (h a Po) VH
 | N+1,l,hn,h=>by
  have ih:=qF N (l.erase N) (hn.erase N) (λx hx=>by
   have hx':=(List.Nodup.mem_erase_iff hn).1 hx;have:=h x hx'.2
   omega)
  have hl:l.length<=(l.erase N).length+1:=by
   by_cases hm:N∈l
   . rw[List.length_erase_of_mem hm];omega
   . rw[List.erase_of_not_mem hm];omega
  omega
def OY:List UInt8->Nat
 | []=>0
 | c::r=>(c.toNat-96)+27*OY r
theorem sW:∀(l:List UInt8),(∀c∈l,97<=c.toNat/\c.toNat<=122)->OY l<27 ^ l.length
 | [],_=>by simp[OY]
 | c::r,h=>by
  have ih:=sW r (λd hd=>h d (Zo _ hd));have hc:=h c Po;simp only[OY,ZI,Nat.pow_succ];omega
theorem zM:∀(l r:List UInt8),(∀c∈l,97<=c.toNat/\c.toNat<=122)->(∀c∈r,97<=c.toNat/\c.toNat<=122)->OY l=OY r->l=r
 | [],[],_,_,_=>rfl
 | [],d::r,_,hr,e=>by
  have:=hr d Po;simp only[OY]at e;omega
 | c::l,[],hl,_,e=>by
  have:=hl c Po;simp only[OY]at e;omega
 | c::l,d::r,hl,hr,e=>by
  have h1:=hl c Po;have h2:=hr d Po;simp only[OY]at e;have e1:c.toNat=d.toNat:=VH;have e2:OY l=OY r:=VH;rw[Zj.1 e1,zM l r (λx hx=>hl x (Zo _ hx)) (λx hx=>hr x (Zo _ hx)) e2]
def DY (l:List UInt8):Nat:=OY (l.take (l.length-2))*4+U6 l
theorem Jm {l:List UInt8}(h:selector l=true):∃a d,l=a++[47,d]/\a.length<=6/\(∀c∈a,97<=c.toNat/\c.toNat<=122)/\48<=d.toNat/\d.toNat<=51/\DY l=OY a*4+(d.toNat-48):=by
 obtain⟨a,d,rfl,h1,h1,ha,hd⟩:=Tf h;refine⟨a,d,rfl,h1,λc hc=>?_,?_,?_,?_⟩
 . have:=ha c hc;unfold isSmall at this;simpa using this
 . unfold OC at hd;simp at hd;omega
 . unfold OC at hd;simp at hd;omega
 . unfold DY U6;simp
theorem aS {l:List UInt8}(h:selector l=true):DY l<1549681956:=by
 obtain⟨a,d,_,h6,ha,h1,h1,e⟩:=Jm h;have:=sW a ha;have hp:27 ^ a.length<=27 ^ 6:=Yb VH h6;rw[e];omega
theorem kQ {l r:List UInt8}(hl:selector l=true)(hr:selector r=true)(e:DY l=DY r):l=r:=by
 obtain⟨a,d,rfl,_,ha,h1,h1,e1⟩:=Jm hl;obtain⟨a',d',rfl,_,ha',h1',h2',e2⟩:=Jm hr;rw[e1,e2]at e;have e1:d.toNat=d'.toNat:=VH;have e2:OY a=OY a':=VH;rw[zM a a' ha ha' e2,Zj.1 e1]
theorem yT {α β:Type}{f:α->β}:∀ {l:List α},l.Nodup->(∀x∈l,∀y∈l,f x=f y->x=y)->(l.map f).Nodup
 | [],_,_=>List.nodup_nil
 | a::l,hn,hf=>by
  rw[YS]at hn;rw[Zc,YS];refine⟨λhm=>?_,yT hn.2 (λx hx y hy=>hf x (Zo _ hx) y (Zo _ hy))⟩;obtain⟨b,hb,e⟩:=Zy.1 hm;have:=hf b (Zo _ hb) a Po e;rw[this]at hb;exact hn.1 hb
theorem alF {a b:ByteArray}(h:bl a=bl b):a=b:=by
 cases a;cases b;simp[bl]at h;congr 1
theorem abW {l:List ByteArray}(hn:l.Nodup)(hs:∀s∈l,selector (bl s)=true):l.length<=1549681956:=by
 have h1:=yT hn (λx hx y hy e=>alF (kQ (hs x hx) (hs y hy) e))
 have:=qF 1549681956 _ h1 (λn hm=>by
  obtain⟨s,hs',rfl⟩:=Zy.1 hm
  exact aS (hs s hs'))
 simpa using this
end Kn
namespace Go.Proofs.Rz
open ChangeShapes WideShapes ChangeAt RowKit Kn Tryz
inductive Lb where
 | no
 | head
 | cls
 | obs
 | slot (i:Nat)
 | still
structure U0 where
 b:Nat
 vc:Value
 vo:Value
 cl:List Cl
 ob:Nat->Nat
 lab:Nat->Lb
 fu:Nat
 en:Int
def U0.Q (K:U0)(k:Nat):Prop:=K.lab k=.still
def U0.Mu (K:U0)(k:Nat):Prop:=K.lab k≠.no/\K.lab k≠.still
structure RK (w:World)(m:Im)(K:U0):Prop where
 ok:U3 m
 hd:w.heap[K.b]?=some (.cells #[K.vc,K.vo,VI (Go.RowKit.wrap64 (m.looks:Nat)),VI (K.fu:Nat),VI K.en] 78)
 own:w.ownsRow 0 74 4 K.vc K.cl.length (Ui K.cl)
 rel:Ri w m K.Q K.cl
 obs:w.ownsRow 0 122 2 K.vo m.obs.length (Uj K.ob 0 m.obs)
 slot:∀i o,m.obs[i]?=some o->w.heap[K.ob i]?=some (.cells (vcs o.slots).toArray 79)/\K.lab (K.ob i)=.slot i
 lh:K.lab K.b=.head
 lc:∀k,K.vc.ownBlock=some k->K.lab k=.cls
 lo:∀k,K.vo.ownBlock=some k->K.lab k=.obs
 lt:∀k,K.lab k≠.no->k<w.heap.size
variable {w : World}
variable {m : Im}
theorem RK.Vb {K:U0}(h:RK w m K):UL w K.b:=⟨_,_,h.hd⟩
theorem RK.c0 {K:U0}(h:RK w m K):w.cell? (VJ K.b 0)=some K.vc:=by simp only[World.cell?,h.hd];rfl
theorem RK.c1 {K:U0}(h:RK w m K):w.cell? (VJ K.b 1)=some K.vo:=by simp only[World.cell?,h.hd];rfl
theorem RK.c2 {K:U0}(h:RK w m K):w.cell? (VJ K.b 2)=some (VI (Go.RowKit.wrap64 (m.looks:Nat))):=by simp only[World.cell?,h.hd];rfl
theorem RK.c3 {K:U0}(h:RK w m K):w.cell? (VJ K.b 3)=some (VI (K.fu:Nat)):=by simp only[World.cell?,h.hd];rfl
theorem RK.c4 {K:U0}(h:RK w m K):w.cell? (VJ K.b 4)=some (VI K.en):=by simp only[World.cell?,h.hd];rfl
theorem RK.im {K:U0}(h:RK w m K):RIm w 0 K.b K.vc K.cl:=
 ⟨Yy _,h.Vb.lt,h.c0,h.Vb.free 0,h.own,λe=>by have:=h.lc _ e;rw[h.lh]at this;cases this⟩
variable {w' : World}
theorem Uk {B:Nat}{e:TypeId}{size n:Nat}{v:Value}{xs:List Value}(h:w.ownsRow B e size v n xs)(hk:∀k,v.ownBlock=some k->w'.heap[k]?=w.heap[k]?):w'.ownsRow B e size v n xs:=by
 refine⟨h.1,?_⟩;rcases h.2 with e|⟨g,cap,cur,rfl,h1,h2,h3⟩
 . exact .inl e
 . exact .inr ⟨g,cap,cur,rfl,h1,(hk g rfl).trans h2,h3⟩
theorem pG.same {p:Option Addr}{g:Nat}{ws:List (Kn.W×Nat)}(h:pG w p g ws)(hz:w.heap.size<=w'.heap.size)(e:1<=ws.length->w'.heap[g]?=w.heap[g]?):pG w' p g ws:=by
 have hc:∀i x o,ws[i]?=some x->w'.cell? (VJ g o)=w.cell? (VJ g o):=λi x o hx=>Z9 (a:=(VJ g o)) (e (by have:=(Z7.1 hx).1;omega));exact⟨h.head,λh1=>ZY (h.lt h1) hz,λi x hx=>(hc i x _ hx).trans (h.c0 i x hx),λi x hx=>(hc i x _ hx).trans (h.c1 i x hx),λi x hx=>(hc i x _ hx).trans (h.c2 i x hx),λi x hx=>(hc i x _ hx).trans (h.c3 i x hx),λi x hx=>(hc i x _ hx).trans (h.c4 i x hx),λi x hx=>(hc i x _ hx).trans (h.c5 i x hx)⟩
theorem jD.same {Q Q':Nat->Prop}{v:Value}{ms:List Mt}(h:jD w Q v ms)(hz:w.heap.size<=w'.heap.size)(hQ:∀k,Q k->Q' k/\w'.heap[k]?=w.heap[k]?):jD w' Q' v ms:=by
 obtain⟨p,cap,e,h1⟩:=h;refine⟨p,cap,e,λhl=>?_⟩;obtain⟨g,e1,hg,hlt,h1⟩:=h1 hl;refine⟨g,e1,(hQ g hg).1,ZY hlt hz,λi x hx=>?_⟩;obtain⟨h1,q,hh,c,h4,h5,h6⟩:=h1 i x hx;exact⟨(Z9 (a:=(VJ g _)) (hQ g hg).2).trans h1,q,hh,c,(Z9 (a:=(VJ g _)) (hQ g hg).2).trans h4,h5.same hz (λe=>(hQ _ (h6 e)).2),λe=>(hQ _ (h6 e)).1⟩
theorem Ri.same {Q Q':Nat->Prop}{cl:List Cl}(h:Ri w m Q cl)(hz:w.heap.size<=w'.heap.size)(hQ:∀k,Q k->Q' k/\w'.heap[k]?=w.heap[k]?):Ri w' m Q' cl:=
 ⟨h.len,λc k x hk hx=>by
  obtain⟨h1,h2,h3,h4⟩:=h.rel c k x hk hx
  exact⟨h1,h2,h3,h4.same hz hQ⟩⟩
theorem RK.same {K:U0}(h:RK w m K)(hz:w.heap.size<=w'.heap.size)(hk:∀k,K.lab k≠.no->w'.heap[k]?=w.heap[k]?)(lab:Nat->Lb)(hl:∀k,k<w.heap.size->lab k=K.lab k)(hn:∀k,lab k≠.no->k<w'.heap.size):RK w' m {K with lab:=lab}:=by
 have key:∀k l,K.lab k=l->l≠.no->lab k=l/\w'.heap[k]?=w.heap[k]?:=λk l e hne=>by
  have h0:K.lab k≠.no:=by rw[e];exact hne
  exact⟨(hl k (h.lt k h0)).trans e,hk k h0⟩
 refine⟨h.ok,(key _ _ h.lh Vy).2.trans h.hd,Uk h.own (λk e=>(key _ _ (h.lc k e) Vy).2),h.rel.same hz (λk e=>key _ _ e Vy),Uk h.obs (λk e=>(key _ _ (h.lo k e) Vy).2),λi o ho=>?_,(key _ _ h.lh Vy).1,λk e=>(key _ _ (h.lc k e) Vy).1,λk e=>(key _ _ (h.lo k e) Vy).1,hn⟩;obtain⟨h0,h2⟩:=h.slot i o ho;have:=key _ _ h2 Vy;exact⟨this.2.trans h0,this.1⟩
structure Vu (w w':World)(m:Im)(K:U0)(m':Im)(K':U0):Prop where
 rk:RK w' m' K'
 Ut:Vt w w' K.Mu
 lab:∀k,k<w.heap.size->K'.lab k=K.lab k
 b:K'.b=K.b
variable {w1 w2 : World}
theorem Vu.trans {m m1 m2:Im}{K K1 K2:U0}(h:Vu w w1 m K m1 K1)(h':Vu w1 w2 m1 K1 m2 K2):Vu w w2 m K m2 K2:=
 ⟨h'.rk,h.Ut.then h'.Ut (λk hk e=>by unfold U0.Mu at e ⊢;rw[h.lab k hk]at e;exact e),λk hk=>(h'.lab k (ZY hk h.Ut.size)).trans (h.lab k hk),h'.b.trans h.b⟩
theorem Vu.below {K:U0}(h:RK w m K)(hb:Below w.heap.size w w'):Vu w w' m K m K:=
 ⟨h.same hb.size (λk e=>hb.block k (h.lt k e)) K.lab Ji (λk e=>ZY (h.lt k e) hb.size),Vt.of_below hb _,λ_ _=>rfl,rfl⟩
theorem Vu.refl {K:U0}(h:RK w m K):Vu w w m K m K:=Vu.below h (ZR _ _)
theorem Vu.still {K:U0}(h:RK w m K)(hb:Below w.heap.size w w')(S:Nat->Prop)[DecidablePred S](hS:∀k,S k->w.heap.size<=k/\k<w'.heap.size):Vu w w' m K m {K with lab:=λk=>if S k then .still else K.lab k}:=by
 have hl:∀k,k<w.heap.size->(if S k then Lb.still else K.lab k)=K.lab k:=λk hk=>ZX (λe=>by have:=hS k e;omega);refine⟨h.same hb.size (λk e=>hb.block k (h.lt k e)) _ hl (λk e=>?_),Vt.of_below hb _,hl,rfl⟩;by_cases hs:S k
 . exact(hS k hs).2
 . simp only[ZX hs]at e;exact ZY (h.lt k e) hb.size
theorem QK {b:Nat}{cs:Array Value}{t:TypeId}(h:w.heap[b]?=some (.cells cs t))(o:Nat)(v:Value):(w.setCell (VJ b o) v).heap[b]?=some (.cells (cs.setIfInBounds o v) t):=by
 exact uX
theorem UN (w:World)(a:Addr)(v:Value):(w.setCell a v).heap.size=w.heap.size:=zb4
variable {m' : Im}
theorem RK.head {K K':U0}(h:RK w m K)(o:Nat)(v:Value)(hh:#[K.vc,K.vo,VI (Go.RowKit.wrap64 (m.looks:Nat)),VI (K.fu:Nat),VI K.en].setIfInBounds o v=#[K'.vc,K'.vo,VI (Go.RowKit.wrap64 (m'.looks:Nat)),VI (K'.fu:Nat),VI K'.en])
 (hm:U3 m') (hkl:m'.kl=m.kl) (Ra:m'.obs=m.obs) (e1:K'.b=K.b) (e2:K'.cl=K.cl) (e3:K'.ob=K.ob) (e4:K'.lab=K.lab) (e5:K'.vc=K.vc) (e6:K'.vo=K.vo):Vu w (w.setCell (VJ K.b o) v) m K m' K':=by
 have hoth:∀k,k≠K.b->(w.setCell (VJ K.b o) v).heap[k]?=w.heap[k]?:=λk e=>ZW w _ v k (λx=>e x);have key:∀k l,K.lab k=l->l≠.head->k≠K.b:=λk l e hne hb=>by rw[hb,h.lh]at e;exact hne e.symm
 have hQ:K'.Q=K.Q:=by unfold U0.Q;rw[e4]
 refine⟨⟨hm,?_,?_,?_,?_,?_,?_,?_,?_,?_⟩,(Vt.refl w _).setCell _ _ (λ_=>⟨by show K.lab K.b≠_;rw[h.lh];simp,by show K.lab K.b≠_;rw[h.lh];simp⟩),λk _=>by rw[e4],e1⟩
 . rw[e1,<- hh];exact QK h.hd _ _
 . rw[e5,e2];exact Uk h.own aeF
 . rw[e2,hQ];have:=h.rel.same (w':=w.setCell (VJ K.b o) v) (by rw[UN];exact ZN _) (Q':=K.Q) iH;refine⟨by rw[hkl];exact this.len,λc k x hk hx=>?_⟩;rw[hkl]at hk;have ht:m'.tot=m.tot:=by funext c;unfold Im.tot;rw[hkl]
   rw[ht];exact this.rel c k x hk hx
 . rw[e6,e3,Ra];exact Uk h.obs adE
 . intro i x hx;rw[Ra]at hx;obtain⟨h1,h2⟩:=h.slot i x hx;rw[e3,e4];exact fB
 . rw[e4,e1];exact h.lh
 . rw[e4,e5];exact h.lc
 . rw[e4,e6];exact h.lo
 . rw[e4,UN];exact h.lt
theorem RK.look {K:U0}(h:RK w m K)(n:Nat):Vu w (w.setCell (VJ K.b 2) (VI (Go.RowKit.wrap64 (n:Nat)))) m K {m with looks:=n} K:=
 h.head 2 _ rfl (h.ok.looks n) rfl rfl rfl rfl rfl rfl rfl rfl
theorem RK.fuel {K:U0}(h:RK w m K)(n:Nat):Vu w (w.setCell (VJ K.b 3) (VI (n:Nat))) m K m {K with fu:=n}:=
 h.head 3 _ rfl h.ok rfl rfl rfl rfl rfl rfl rfl rfl
theorem RK.end_ {K:U0}(h:RK w m K)(n:Int):Vu w (w.setCell (VJ K.b 4) (VI n)) m K m {K with en:=n}:=
 h.head 4 _ rfl h.ok rfl rfl rfl rfl rfl rfl rfl rfl
theorem Hw:∀(l:List Cl) (c:Nat) (x:Cl) (v:Value),l[c]?=some x->(Ui l).set (c*4+3) v=Ui (l.set c {x with Om:=v})
 | [],c,x,v,h=>vF
 | y::r,0,x,v,h=>by
  simp at h;subst h;rfl
 | y::r,c+1,x,v,h=>by
  have:=Hw r c x v Nv;rw[show (c+1)*4+3=c*4+3+4 from VH];simp only[Ui,XY,this]
theorem GY:∀(l:List Cl) (c:Nat) (x:Cl) (n:Int),l[c]?=some x->(Ui l).set (c*4+1) (VI n)=Ui (l.set c {x with above:=n})
 | [],c,x,v,h=>vF
 | y::r,0,x,v,h=>by
  simp at h;subst h;rfl
 | y::r,c+1,x,v,h=>by
  have:=GY r c x v Nv;rw[show (c+1)*4+1=c*4+1+4 from VH];simp only[Ui,XY,this]
theorem RK.TR {K:U0}(h:RK w m K){g cap:Nat}(hv:K.vc=.slice (some (VJ g 0)) K.cl.length cap)(o:Nat)(v:Value)(cl:List Cl)(hcl:(Ui K.cl).set o v=Ui cl)(hl:cl.length=K.cl.length)(ho:o<K.cl.length*4)(hv1:v.oneCell'=true)
 (hm:U3 m') (Ra:m'.obs=m.obs) (hlk:m'.looks=m.looks) (hrel:Ri w m' K.Q cl):Vu w (w.setCell (VJ g o) v) m K m' {K with cl:=cl}:=by
 have hgl:=h.lc g (by rw[hv];rfl);have hoth:∀k,k≠g->(w.setCell (VJ g o) v).heap[k]?=w.heap[k]?:=λk e=>ZW w _ v k (λx=>e x);have key:∀k l,K.lab k=l->l≠.cls->k≠g:=λk l e hne hb=>aeD;refine⟨⟨hm,?_,?_,?_,?_,?_,h.lh,h.lc,h.lo,?_⟩,(Vt.refl w _).setCell _ _ (λ_=>⟨by show K.lab g≠_;rw[hgl];simp,by show K.lab g≠_;rw[hgl];simp⟩),λk _=>rfl,rfl⟩
 . rw[hlk];exact(hoth _ (key _ _ h.lh Vy)).trans h.hd
 . have hown:=h.own;rw[hv]at hown;have:=World.ownsRow.stored hown o v;rw[hcl]at this;show (w.setCell (VJ g o) v).ownsRow 0 _ 4 K.vc cl.length (Ui cl);rw[hl,hv];exact this.1
 . exact hrel.same (by rw[UN];exact ZN _) iH
 . rw[Ra];exact Uk h.obs adE
 . intro i x hx;rw[Ra]at hx;obtain⟨h1,h2⟩:=h.slot i x hx;exact fB
 . rw[UN];exact h.lt
theorem Ri.Om {Q:Nat->Prop}{cl:List Cl}(h:Ri w m Q cl){c:Nat}{k:Kl}{x:Cl}(hk:m.kl[c]?=some k)(hx:cl[c]?=some x)(ms:List Mt)(v:Value)(hv:jD w Q v ms):Ri w (m.UY c (λk=>{k with ms:=ms})) Q (cl.set c {x with Om:=v}):=by
 have htot:(m.UY c (λk=>{k with ms:=ms})).tot=m.tot:=by
  exact anP
 refine⟨by simp[Im.UY,h.len],λd l y hl hy=>?_⟩;rw[htot];simp only[Im.UY,Y4]at hl;rw[Wu]at hy;by_cases e:c=d
 . subst e;have hlt:=(Z7.1 hx).1;rw[hk]at hl;simp at hl;simp[hlt]at hy;subst hl hy;obtain⟨h1,h2,h3,_⟩:=h.rel c k x hk hx;exact⟨h1,h2,h3,hv⟩
 . simp[e]at hl hy;exact h.rel d l y hl hy
theorem abY {c:Nat}{k:Kl}(hk:m.kl[c]?=some k)(f:Kl->Kl)(ms:List Mt)(hf:f k={k with ms:=ms}):m.UY c f=m.UY c (λk=>{k with ms:=ms}):=by
 unfold Im.UY;congr 1;apply XH;intro d;simp only[Y4];by_cases e:c=d
 . subst e;rw[hk];simp[hf]
 . simp[e]
theorem RK.Om {K:U0}(h:RK w m K){c:Nat}{k:Kl}(hk:m.kl[c]?=some k)(f:Kl->Kl)(ms:List Mt)(hf:f k={k with ms:=ms}) (hm:U3 (m.UY c f)) {W:World}{v:Value}{g Zs:Nat}{xs:List Value} (I6:K.vc=.slice (some (VJ g 0)) K.cl.length Zs) (hb:Below w.heap.size w W) (ho:W.ownsRow w.heap.size 180 2 v ms.length xs) (hr:Qu w K.Q ms xs):
 ∃K',Vu w (W.setCell (VJ g (c*4+3)) v) m K (m.UY c f) K'/\K'.fu=K.fu/\K'.en=K.en:=by
 have hs:=Vu.still h hb (λk=>v.ownBlock=some k) (λk e=>ho.lt k e);have hc:=(Z7.1 hk).1;have hl:=h.rel.len
 obtain⟨x,hx⟩:∃x,K.cl[c]?=some x:=⟨_,Z8 VH⟩
 have hat:jD W ({K with lab:=λk=>if v.ownBlock=some k then .still else K.lab k}:U0).Q v ms:=hr.at ho hb (λk e=>by show (if v.ownBlock=some k then Lb.still else K.lab k)=.still;rw[ZU e]) (λk e=>by show (if v.ownBlock=some k then Lb.still else K.lab k)=.still;split<;>first|rfl|exact e);have Ra:v.oneCell'=true:=by obtain⟨p,cap,rfl⟩:=Rn ho;rfl
 have h2:=hs.rk.TR (m':=m.UY c f) I6 (c*4+3) v (K.cl.set c {x with Om:=v}) (Hw K.cl c x v hx) Vy (by show c*4+3<K.cl.length*4;omega) Ra hm rfl rfl (by rw[abY hk f ms hf];exact hs.rk.rel.Om hk hx ms v hat);exact⟨_,hs.trans h2,rfl,rfl⟩
theorem LD (h:U3 m):∀(c:Nat) (k:Kl),m.kl[c]?=some k->k.ms.length<=1600000000:=λc k hk=>by
 have:=abW (h.Am c k hk) (λs hs=>by
  obtain⟨x,hx,rfl⟩:=Zy.1 hs
  exact(h.meth c k x hk hx).1)
 simp at this;omega
theorem vW (ob:Nat->Nat):∀(l:List Ob) (k i:Nat) (o:Ob),l[i]?=some o->(Uj ob k l)[i*2]?=some (VI (o.cls:Nat))/\(Uj ob k l)[i*2+1]?=some (.slice (some (VJ (ob (k+i)) 0)) o.slots.length o.slots.length)
 | [],k,i,o,h=>MO
 | x::r,k,0,o,h=>by
  simp at h;subst h;exact KP
 | x::r,k,i+1,o,h=>by
  have:=vW ob r (k+1) i o Nv;rw[show (i+1)*2=i*2+1+1 from VH,show k+(i+1)=k+1+i from VH];simpa[Uj]using this
theorem GI {ob ob':Nat->Nat}:∀(l l':List Ob) (k:Nat),l'.length=l.length->(∀i o o',l[i]?=some o->l'[i]?=some o'->o'.cls=o.cls/\ob' (k+i)=ob (k+i)/\o'.slots.length=o.slots.length)->Uj ob' k l'=Uj ob k l
 | [],[],_,_,_=>rfl
 | [],_::_,_,h,_=>MO
 | _::_,[],_,h,_=>MO
 | x::r,x'::r',k,h,hx=>by
  obtain⟨h1,h2,h3⟩:=hx 0 x x' rfl rfl
  have:=GI (ob:=ob) (ob':=ob') r r' (k+1) Nv (λi o o' ho ho'=>by
   have:=hx (i+1) o o' (by simpa using ho) (by simpa using ho');rw[show k+1+i=k+(i+1) from VH]
   exact this)
  simp only[Yt]at h2;simp[Uj,h1,h2,h3,this]
theorem uF (ob:Nat->Nat):∀(l:List Ob) (k:Nat) (o:Ob),Uj ob k (l++[o])=Uj ob k l++[VI (o.cls:Nat),.slice (some (VJ (ob (k+l.length)) 0)) o.slots.length o.slots.length]
 | [],k,o=>rfl
 | x::r,k,o=>by
  have:=uF ob r (k+1) o;simp only[YR,Uj,this,ZI];rw[show k+1+r.length=k+(r.length+1) from VH]
theorem gB (ob:Nat->Nat):∀(l:List Ob) (k i:Nat) (o o':Ob),l[i]?=some o->o'.slots.length=o.slots.length->Uj ob k (l.set i o')=(Uj ob k l).set (i*2) (VI (o'.cls:Nat))
 | [],_,_,_,_,h,_=>MO
 | x::r,k,0,o,o',h,hs=>by
  simp at h;subst h;simp[Uj,hs]
 | x::r,k,i+1,o,o',h,hs=>by
  have:=gB ob r (k+1) i o o' Nv hs;rw[show (i+1)*2=i*2+1+1 from VH];simp[Uj,this]
structure ajY (w:World)(K:U0)(i:Nat)(o:Ob)(g cap n:Nat):Prop where
 v:K.vo=.slice (some (VJ g 0)) n cap
 c0:w.cell? (VJ g (i*2))=some (VI (o.cls:Nat))
 c1:w.cell? (VJ g (i*2+1))=some (.slice (some (VJ (K.ob i) 0)) o.slots.length o.slots.length)
 Vb:UL w g
 s:UL w (K.ob i)
 sc:∀j v,o.slots[j]?=some v->w.cell? (VJ (K.ob i) (j*2))=some (.bool v.obj)/\w.cell? (VJ (K.ob i) (j*2+1))=some (VI v.n)
theorem RK.ob_ {K:U0}(h:RK w m K){i:Nat}{o:Ob}(ho:m.obs[i]?=some o):∃g cap,ajY w K i o g cap m.obs.length:=by
 have hi:=(Z7.1 ho).1;rcases h.obs.2 with⟨_,e⟩|⟨g,cap,cur,e,_,hg,_⟩
 . omega
 . have hown:=h.obs;rw[e]at hown;refine⟨g,cap,e,?_,?_,⟨_,_,hg⟩,⟨_,_,(h.slot i o ho).1⟩,λj v hv=>?_⟩
   . rw[hown.cellAt (i*2) VH];exact(vW K.ob m.obs 0 i o ho).1
   . rw[hown.cellAt (i*2+1) VH];have:=(vW K.ob m.obs 0 i o ho).2;rw[YU]at this;exact this
   . have hs:=(h.slot i o ho).1;obtain⟨h1,h2⟩:=PV o.slots j v hv;simp only[World.cell?,hs];exact⟨by simpa using h1,by simpa using h2⟩
theorem RK.vo_ {K:U0}(h:RK w m K):∃p cap,K.vo=.slice p m.obs.length cap:=Rn h.obs
theorem uK {K:U0}{k:Nat}{l:Lb}(h:K.lab k=l)(h1:l≠.no)(h2:l≠.still):K.Mu k:=⟨by rw[h];exact h1,by rw[h];exact h2⟩
theorem RK.be_ {K:U0}(h:RK w m K){i:Nat}{o:Ob}(ho:m.obs[i]?=some o){g cap n:Nat}(hF:ajY w K i o g cap n)(c:Nat)(hm:U3 {m with obs:=m.obs.set i {o with cls:=c} }):
 Vu w (w.setCell (VJ g (i*2)) (VI (c:Nat))) m K {m with obs:=m.obs.set i {o with cls:=c} } K:=by
 have hi:=(Z7.1 ho).1;have hv:=hF.v;obtain⟨p,cap',hv'⟩:=h.vo_;rw[hv]at hv';injection hv' with _ hn _;subst hn;have hgl:=h.lo g (by rw[hv];rfl);have hoth:∀k,k≠g->(w.setCell (VJ g (i*2)) (VI (c:Nat))).heap[k]?=w.heap[k]?:=λk e=>ZW w _ _ k (λx=>e x);have key:∀k l,K.lab k=l->l≠.obs->k≠g:=λk l e hne hb=>aeD;have hz:=UN w (VJ g (i*2)) (VI (c:Nat));refine⟨⟨hm,(hoth _ (key _ _ h.lh Vy)).trans h.hd,Uk h.own aeF,?_,?_,?_,h.lh,h.lc,h.lo,by rw[hz];exact h.lt⟩,(Vt.refl w _).setCell _ _ acJ,λk _=>rfl,rfl⟩
 . have:=h.rel.same (w':=w.setCell (VJ g (i*2)) (VI (c:Nat))) ac4 (Q':=K.Q) iH;exact⟨this.len,this.rel⟩
 . have hown:=h.obs;rw[hv]at hown;have:=World.ownsRow.stored hown (i*2) (VI (c:Nat));rw[hv];show (w.setCell (VJ g (i*2)) (VI (c:Nat))).ownsRow 0 _ 2 (.slice (some (VJ g 0)) m.obs.length cap) (m.obs.set i {o with cls:=c}).length (Uj K.ob 0 (m.obs.set i {o with cls:=c}));rw[gB K.ob m.obs 0 i o {o with cls:=c} ho rfl,List.length_set];exact this.1
 . intro j x hx;simp only[Wu]at hx;by_cases e:i=j
   . subst e;simp[hi]at hx;subst hx;obtain⟨h1,h2⟩:=h.slot i o ho;exact fB
   . simp[e]at hx;obtain⟨h1,h2⟩:=h.slot j x hx;exact fB
theorem RK.store {K:U0}(h:RK w m K){i j:Nat}{o:Ob}(ho:m.obs[i]?=some o)(hj:j<o.slots.length)(v:Vl)(hm:U3 {m with obs:=m.obs.modify i (λo=>{o with slots:=o.slots.set j v})}):
 Vu w ((w.setCell (VJ (K.ob i) (j*2)) (.bool v.obj)).setCell (VJ (K.ob i) (j*2+1)) (VI v.n)) m K {m with obs:=m.obs.modify i (λo=>{o with slots:=o.slots.set j v})} K:=by
 obtain⟨hs,hgl⟩:=h.slot i o ho;obtain⟨W,hW⟩:∃W,W=(w.setCell (VJ (K.ob i) (j*2)) (.bool v.obj)).setCell (VJ (K.ob i) (j*2+1)) (VI v.n):=Vx
 have hoth:∀k,k≠K.ob i->W.heap[k]?=w.heap[k]?:=λk e=>by
  rw[hW];exact(ZW _ _ _ k yV).trans (ZW w _ _ k yV)
 have key:∀k l,K.lab k=l->l≠.slot i->k≠K.ob i:=λk l e hne hb=>aeD;have hz:W.heap.size=w.heap.size:=by rw[hW,UN,UN]
 have hblk:W.heap[K.ob i]?=some (.cells (vcs (o.slots.set j v)).toArray 79):=by
  rw[hW,QK (QK hs _ _) _ _,Ej _ _ _ hj];simp
 have hC:Vt w W K.Mu:=by
  rw[hW];exact((Vt.refl w _).setCell _ _ acJ).setCell _ _ acJ
 rw[<- hW];refine⟨⟨hm,(hoth _ (key _ _ h.lh Vy)).trans h.hd,Uk h.own aeF,?_,?_,?_,h.lh,h.lc,h.lo,by rw[hz];exact h.lt⟩,hC,λk _=>rfl,rfl⟩
 . have:=h.rel.same (w':=W) ac4 (Q':=K.Q) iH;exact⟨this.len,this.rel⟩
 . have h1:=Uk (w':=W) h.obs adE;show W.ownsRow 0 _ 2 K.vo (m.obs.modify i (λo=>{o with slots:=o.slots.set j v})).length (Uj K.ob 0 (m.obs.modify i (λo=>{o with slots:=o.slots.set j v})));rw[List.length_modify,GI (ob:=K.ob) (ob':=K.ob) m.obs _ 0 Vy (λk x x' hx hx'=>?_)]
   . exact h1
   . simp only[Y4,hx]at hx';by_cases e:i=k
     . subst e;simp at hx';subst hx';exact⟨rfl,rfl,Vy⟩
     . simp[e]at hx';subst hx';exact vg
 . intro k x hx;simp only[Y4]at hx;by_cases e:i=k
   . subst e;rw[ho]at hx;simp at hx;subst hx;exact⟨hblk,hgl⟩
   . simp[e]at hx;obtain⟨h1,h2⟩:=h.slot k x hx;exact⟨(hoth _ (key _ _ h2 (by intro x;injection x with x;exact e x.symm))).trans h1,h2⟩
theorem RK.more {w W:World}{K:U0}(h:RK w m K)(c n z:Nat)(v:Value)(hm:U3 {m with obs:=m.obs++[⟨c,List.replicate n Vl.zero⟩]}) (hC:Vt w W (λk=>K.vo.ownBlock=some k)) (hz:w.heap.size<=z) (hzb:W.heap[z]?=some (.cells (vcs (List.replicate n Vl.zero)).toArray 79))
 (ho:W.ownsRow 0 122 2 v (m.obs.length+1) (Uj K.ob 0 m.obs++[VI (c:Nat),.slice (some (VJ z 0)) n n])) (hv:v.ownBlock=K.vo.ownBlock\/∃k,w.heap.size<=k/\v.ownBlock=some k):
 ∃K',Vu w (W.setCell (VJ K.b 1) v) m K {m with obs:=m.obs++[⟨c,List.replicate n Vl.zero⟩]} K'/\K'.fu=K.fu/\K'.en=K.en:=by
 have hzl:=(Z5.1 hzb).1
 have hvz:v.ownBlock≠some z:=λe=>by
  rcases ho.2 with⟨_,e1⟩|⟨g,cap,cur,e1,_,e2,_⟩
  . omega
  . rw[e1]at e;injection e with e;have e:g=z:=e;rw[e,hzb]at e2;injection e2 with e2;injection e2 with _ e2;exact absurd e2 Vz
 have hvb:v.ownBlock≠some K.b:=λe=>by
  rcases hv with e1|⟨k,hk,e1⟩
  . rw[e1]at e;have:=h.lo _ e;rw[h.lh]at this;cases this
  . rw[e1]at e;injection e with e;have:=h.Vb.lt;omega
 obtain⟨K',hK⟩:∃K':U0,K'={K with vo:=v,ob:=λi=>if i=m.obs.length then z else K.ob i,lab:=λk=>if k=z then .slot m.obs.length else if v.ownBlock=some k/\w.heap.size<=k then .obs else K.lab k}:=Vx;obtain⟨W',hW⟩:∃W',W'=W.setCell (VJ K.b 1) v:=Vx;rw[<- hW]
 have ox:Vt w W' K.Mu:=by
  rw[hW];exact(hC.mono (λk _ e=>uK (h.lo k e) Vy Vy)).setCell _ _ (λ_=>uK h.lh Vy Vy)
 have hoth:∀k,k≠K.b->W'.heap[k]?=W.heap[k]?:=λk e=>ajy
 have hlab:∀k,k<w.heap.size->K'.lab k=K.lab k:=λk hk=>by
  rw[hK];show (if k=z then Lb.slot m.obs.length else if v.ownBlock=some k/\w.heap.size<=k then .obs else K.lab k)=K.lab k;rw[ZX VH,ZX VH]
 have key:∀k l,K.lab k=l->l≠.no->l≠.obs->l≠.head->W'.heap[k]?=w.heap[k]?/\K'.lab k=l:=λk l e h0 h1 h2=>by
  have hk:=h.lt k (by rw[e];exact h0);refine⟨(hoth k (λx=>by rw[x,h.lh]at e;exact h2 e.symm)).trans (hC.block k hk (λx=>by have:=h.lo k x;rw[this]at e;exact h1 e.symm)),(hlab k hk).trans e⟩
 have lr:z≠K.b:=by have:=h.Vb.lt;omega
 have hsz:W'.heap.size=W.heap.size:=by rw[hW,UN]
 refine⟨K',⟨⟨hm,?_,?_,?_,?_,?_,?_,?_,?_,?_⟩,ox,hlab,Oa⟩,Oa,Oa⟩
 . have h1:=hC.block _ h.Vb.lt (λx=>by have:=h.lo _ x;rw[h.lh]at this;cases this);rw[hK,hW];exact QK (h1.trans h.hd) 1 v
 . rw[hK];exact Uk h.own (λk e=>(key _ _ (h.lc k e) Vy Vy Vy).1)
 . refine aht ?_;intro h1;have e:K'.cl=K.cl:=Oa;rw[e];exact⟨h1.len,h1.rel⟩
 . have h1:=Uk (w':=W') ho (λk e=>hoth k (λx=>hvb (by rw[e,x])));have e1:K'.vo=v:=Oa;rw[e1];show W'.ownsRow 0 _ 2 v (m.obs++[(⟨c,List.replicate n Vl.zero⟩:Ob)]).length (Uj K'.ob 0 (m.obs++[(⟨c,List.replicate n Vl.zero⟩:Ob)]));rw[uF,GI (ob:=K.ob) (ob':=K'.ob) m.obs m.obs 0 rfl (λi o o' h1 h2=>?_)]
   . have e2:K'.ob (0+m.obs.length)=z:=by rw[hK];simp
     rw[e2];simp only[Zw,ZI,YJ,List.length_replicate,YU];exact h1
   . rw[h1]at h2;injection h2 with h2;subst h2;refine⟨rfl,?_,rfl⟩;have:=(Z7.1 h1).1;rw[hK];exact ZX VH
 . intro i o BV;by_cases e:i<m.obs.length
   . rw[ZH e]at BV;obtain⟨h1,h2⟩:=h.slot i o BV;have e1:K'.ob i=K.ob i:=by rw[hK];exact ZX VH
     rw[e1];have:=key _ _ h2 Vy Vy Vy;exact⟨this.1.trans h1,this.2⟩
   . have hi:i=m.obs.length:=by
      have:=(Z7.1 BV).1;simp at this;omega
     subst hi;rw[ZP UM]at BV;simp at BV;subst BV;have e1:K'.ob m.obs.length=z:=by rw[hK];exact ZU rfl
     rw[e1];refine⟨(hoth z lr).trans hzb,?_⟩;rw[hK];exact ZU rfl
 . have e1:K'.b=K.b:=by rw[hK]
   rw[e1,hlab _ h.Vb.lt];exact h.lh
 . intro k e;have e1:K'.vc=K.vc:=Oa;rw[e1]at e;exact(key _ _ (h.lc k e) Vy Vy Vy).2
 . intro k e;have e1:K'.vo=v:=Oa;rw[e1]at e;by_cases hk:k<w.heap.size
   . rw[hlab k hk];rcases hv with e2|⟨j,hj,e2⟩
     . exact h.lo k (by rw[<- e2];exact e)
     . rw[e2]at e;injection e with e;omega
   . have Be:k≠z:=λx=>hvz (by rw[e,x]);rw[hK];show (if k=z then Lb.slot m.obs.length else if v.ownBlock=some k/\w.heap.size<=k then .obs else K.lab k)=.obs;rw[ZX Be,ZU ⟨e,VH⟩]
 . intro k e;by_cases hk:k<w.heap.size
   . omega
   . rw[hK]at e;simp only at e;by_cases Be:k=z
     . rw[hsz,Be];exact hzl
     . rw[ZX Be]at e;exact ao1
theorem RK.amU {w W:World}{K:U0}(h:RK w m K)(name:ByteArray)(a n:Nat)(ha:a<m.kl.length)(v:Value)(hm:U3 {m with kl:=m.kl++[⟨name,some a,m.tot a+n,[]⟩]}) (hC:Vt w W (λk=>K.vc.ownBlock=some k))
 (ho:W.ownsRow 0 74 4 v (K.cl.length+1) (Ui K.cl++[.string name,VI (a:Nat),VI (n:Nat),.slice none 0 0])) (hv:v.ownBlock=K.vc.ownBlock\/∃k,w.heap.size<=k/\v.ownBlock=some k):
 ∃K',Vu w (W.setCell (VJ K.b 0) v) m K {m with kl:=m.kl++[⟨name,some a,m.tot a+n,[]⟩]} K'/\K'.fu=K.fu/\K'.en=K.en:=by
 have hvb:v.ownBlock≠some K.b:=λe=>by
  rcases hv with e1|⟨k,hk,e1⟩
  . rw[e1]at e;have:=h.lc _ e;rw[h.lh]at this;cases this
  . rw[e1]at e;injection e with e;have:=h.Vb.lt;omega
 obtain⟨K',hK⟩:∃K':U0,K'={K with vc:=v,cl:=K.cl++[⟨name,(a:Nat),(n:Nat),.slice none 0 0⟩],lab:=λk=>if v.ownBlock=some k/\w.heap.size<=k then .cls else K.lab k}:=Vx;obtain⟨W',hW⟩:∃W',W'=W.setCell (VJ K.b 0) v:=Vx;rw[<- hW]
 have ox:Vt w W' K.Mu:=by
  rw[hW];exact(hC.mono (λk _ e=>uK (h.lc k e) Vy Vy)).setCell _ _ (λ_=>uK h.lh Vy Vy)
 have hoth:∀k,k≠K.b->W'.heap[k]?=W.heap[k]?:=λk e=>ajy
 have hlab:∀k,k<w.heap.size->K'.lab k=K.lab k:=λk hk=>by
  rw[hK];show (if v.ownBlock=some k/\w.heap.size<=k then Lb.cls else K.lab k)=K.lab k;rw[ZX VH]
 have key:∀k l,K.lab k=l->l≠.no->l≠.cls->l≠.head->W'.heap[k]?=w.heap[k]?/\K'.lab k=l:=λk l e h0 h1 h2=>by
  have hk:=h.lt k (by rw[e];exact h0);refine⟨(hoth k (λx=>by rw[x,h.lh]at e;exact h2 e.symm)).trans (hC.block k hk (λx=>by have:=h.lc k x;rw[this]at e;exact h1 e.symm)),(hlab k hk).trans e⟩
 have hsz:W'.heap.size=W.heap.size:=by rw[hW,UN]
 refine⟨K',⟨⟨hm,?_,?_,?_,?_,?_,?_,?_,?_,?_⟩,ox,hlab,Oa⟩,Oa,Oa⟩
 . have h1:=hC.block _ h.Vb.lt (λx=>by have:=h.lc _ x;rw[h.lh]at this;cases this);rw[hK,hW];exact QK (h1.trans h.hd) 0 v
 . have h1:=Uk (w':=W') ho (λk e=>hoth k (λx=>hvb (by rw[e,x])));rw[hK];simp only[Ls,Zw,ZI,YJ,YU];exact h1
 . refine aht ?_;intro h1;have e:K'.cl=K.cl++[⟨name,(a:Nat),(n:Nat),.slice none 0 0⟩]:=Oa;rw[e]
   have htot:∀d,d<m.kl.length->Im.tot {m with kl:=m.kl++[⟨name,some a,m.tot a+n,[]⟩]} d=m.tot d:=λd hd=>by
    unfold Im.tot;simp only;rw[ZH hd]
   refine⟨by simp[h1.len],λd l x hl hx=>?_⟩;simp only at hl;by_cases hd:d<m.kl.length
   . rw[ZH hd]at hl;rw[ZH (by rw[h1.len];exact hd)]at hx;obtain⟨q1,q2,q3,q4⟩:=h1.rel d l x hl hx;refine⟨q1,q2,?_,q4⟩;rw[q3]
     cases hab:l.above with
     | none=>rfl
     | some u=>
      have hu:u<m.kl.length:=by
       by_cases hd0:d=0
       . obtain⟨ms,hm0⟩:=h.ok.any;rw[hd0,hm0]at hl;injection hl with hl;rw[<- hl]at hab;cases hab
       . obtain⟨a',ha',hal,_⟩:=h.ok.up d l hl hd0;rw[hab]at ha';exact acv
      simp only[ZG,YX,htot u hu]
   . have BS:d=m.kl.length:=by
      have:=(Z7.1 hl).1;simp at this;omega
     subst BS;rw[ZP UM]at hl;rw[ZP (by rw[h1.len];exact ZN _),h1.len]at hx;simp at hl hx;subst hl hx;refine⟨rfl,rfl,?_,none,0,rfl,λe=>sH⟩;simp only[ZG,YX,htot a ha];omega
 . rw[hK];exact Uk h.obs (λk e=>(key _ _ (h.lo k e) Vy Vy Vy).1)
 . intro i o BV;obtain⟨h1,h2⟩:=h.slot i o BV;have:=key _ _ h2 Vy Vy Vy;have e1:K'.ob=K.ob:=Oa;rw[e1];exact⟨this.1.trans h1,this.2⟩
 . have e1:K'.b=K.b:=by rw[hK]
   rw[e1,hlab _ h.Vb.lt];exact h.lh
 . intro k e;have e1:K'.vc=v:=Oa;rw[e1]at e;by_cases hk:k<w.heap.size
   . rw[hlab k hk];rcases hv with e2|⟨j,hj,e2⟩
     . exact h.lc k (by rw[<- e2];exact e)
     . rw[e2]at e;injection e with e;omega
   . rw[hK];exact ZU ⟨e,VH⟩
 . intro k e;have e1:K'.vo=K.vo:=Oa;rw[e1]at e;exact(key _ _ (h.lo k e) Vy Vy Vy).2
 . intro k e;by_cases hk:k<w.heap.size
   . have:=ox.size;omega
   . rw[hK]at e;simp only at e;exact ao1
theorem RK.akw {K:U0}(h:RK w m K){c a:Nat}{k:Kl}(hk:m.kl[c]?=some k)(ha:a<m.kl.length)(hc0:c≠0)(ht:m.tot a=m.tot ((m.kl[c]?.bind (·.above)).getD 0))(hm:U3 (m.UY c (λk=>{k with above:=some a}))) {g cap:Nat} (hv:K.vc=.slice (some (VJ g 0)) K.cl.length cap):
 ∃K',Vu w (w.setCell (VJ g (c*4+1)) (VI (a:Nat))) m K (m.UY c (λk=>{k with above:=some a})) K'/\K'.fu=K.fu/\K'.en=K.en:=by
 have hc:=(Z7.1 hk).1;have hl:=h.rel.len
 obtain⟨x,hx⟩:∃x,K.cl[c]?=some x:=⟨_,Z8 VH⟩
 have htot:(m.UY c (λk=>{k with above:=some a})).tot=m.tot:=by
  exact anP
 have hrel:Ri w (m.UY c (λk=>{k with above:=some a})) K.Q (K.cl.set c {x with above:=(a:Nat)}):=by
  refine⟨by simp[Im.UY,hl],λd l y hl' hy=>?_⟩;rw[htot];simp only[Im.UY,Y4]at hl';rw[Wu]at hy;by_cases e:c=d
  . subst e;have hlt:=(Z7.1 hx).1;rw[hk]at hl';simp at hl';simp[hlt]at hy;subst hl' hy;obtain⟨h1,h2,h2,h4⟩:=h.rel.rel c k x hk hx;refine⟨h1,rfl,?_,h4⟩;obtain⟨u,hu,_⟩:=h.ok.up c k hk hc0;rw[hk]at ht;simp only[YA,hu,YX]at ht;simp only[ZG,YX,ht];rw[hu]at h2;exact h2
  . simp[e]at hl' hy;exact h.rel.rel d l y hl' hy
 exact⟨_,h.TR hv (c*4+1) (VI (a:Nat)) _ (GY K.cl c x a hx) Vy VH rfl hm rfl rfl hrel,rfl,rfl⟩
theorem akm (b:Nat)(sel:ByteArray)(hs:sel.size<=maxLen):
 Calls prog 64 #[VG b,.string sel] w λe w'=>e=.returned (VI (Q7 sel))/\w'=w:=by
 by_cases he:sel=⟨#[]⟩
 . have D4:Q7 sel=0:=by unfold Q7;rw[ZX];exact λe=>e.1 he
   rw[D4];subst he;go_enter func64,ntmps64;go_wp2
   go_ret
   exact KP
 . refine ahN ?_;intro hne UB;have HN:Hid _:=he;clear he;go_enter func64,ntmps64;go_wp2_with fail;refine(Pj sel w hs).mono ?_;rintro e w1 ⟨rfl,hw⟩;replace hw:=hw.symm;subst hw
   cases hs:selector (bl sel) with
   | false=>
    go_wp2
    go_ret
    exact⟨by unfold Q7;rw[ZU ⟨HN.o,hs⟩];rfl,rfl⟩
   | true=>
    go_wp2
    go_ret
    exact⟨by unfold Q7;rw[ZX (by rw[hs];exact λe=>by cases e.2)];rfl,rfl⟩
theorem RK.there {K:U0}(h:RK w m K)(o:Int):Calls prog 53 #[VG K.b,VI o] w λe w'=>e=.returned (.bool (m.there o))/\w'=w:=by
 obtain⟨p,cap,hv⟩:=h.vo_;have c1:=h.c1;rw[hv]at c1;exact acy h.ok.objs c1 h.Vb.lt o
theorem RK.vc_ {K:U0}(h:RK w m K):∃g cap,K.vc=.slice (some (VJ g 0)) K.cl.length cap/\als w (some (VJ g 0)) g K.cl:=by
 obtain⟨p,g,cap,hv,hat⟩:=Qa h.own;have hp:=hat.head (by rw[h.rel.len];have:=h.ok.two;omega);subst hp;exact⟨g,cap,hv,hat⟩
def SG (w:World)(m:Im)(K:U0)(m':Im)(w':World):Prop:=∃K',Vu w w' m K m' K'/\K'.fu=K.fu/\K'.en=K.en
theorem SG.refl {K:U0}(h:RK w m K):SG w m K m w:=⟨K,Vu.refl h,rfl,rfl⟩
theorem SG.below {K:U0}(h:RK w m K)(hb:Below w.heap.size w w'):SG w m K m w':=⟨K,Vu.below h hb,rfl,rfl⟩
theorem RK.class {K:U0}(h:RK w m K)(s:ByteArray):Calls prog 93 #[VG K.b,.string s] w λe w'=>e=.returned (VI (Qh (m.cls s)))/\w'=w:=BK h.ok h.im h.rel s
theorem RK.slots {K:U0}(h:RK w m K){c:Nat}(hc:c<m.kl.length):Calls prog 51 #[VG K.b,VI (c:Nat)] w λe w'=>e=.returned (VI (m.tot c:Nat))/\w'=w:=abe h.ok h.im h.rel c hc
theorem RK.agJ {K:U0}(h:RK w m K){c:Nat}{k:Kl}(hk:m.kl[c]?=some k)(sel:ByteArray):Calls prog 96 #[VG K.b,VI (c:Nat),.string sel] w λe w'=>e=.returned (VI (A8 k.ms sel))/\w'=w:=kJ h.ok h.im h.rel hk sel (LD h.ok c k hk)
theorem Cm {s:ByteArray}{c:Nat}(h:m.cls s=some c):c<m.kl.length:=by
 obtain⟨k,hk,_⟩:=RJ h;exact(Z7.1 hk).1
theorem JJ (h:U3 m)(c:Nat):m.tot c<=10:=by
 unfold Im.tot
 cases hk:m.kl[c]? with
 | none=>simp
 | some k=>exact h.tot c k hk
theorem lq {c:Nat}{k:Kl}(hk:m.kl[c]?=some k)(sel:ByteArray):m.own c sel=k.own sel:=by unfold Im.own;rw[hk];rfl
theorem rof {K:U0}(h:RK w m K)(o:Int):
 Calls prog 26 #[VG K.b,VI o] w λe w'=>e=.returned (.tuple #[.string (m.nP o).1,VI (m.nP o).2])/\Below w.heap.size w w':=by
 have hcall:=h.there o;obtain⟨r,hr⟩:∃r,m.nP o=r:=Vx;rw[hr];have hlt:=h.Vb.lt
 cases ht:m.there o with
 | false=>
  have hdr:r=(⟨#[]⟩,4):=by rw[<- hr];unfold Im.nP;rw[ht];rfl
  subst hdr;rw[ht]at hcall;clear h hr ht;go_enter func26,ntmps26;go_wp2_with fail;refine hcall.mono ?_;rintro e w' ⟨rfl,rfl⟩;go_wp2
  go_ret2
  exact⟨rfl,ZR _ _⟩
 | true=>
  obtain⟨i,x,rfl,hx,hi,hil⟩:=Rj ht;obtain⟨g,cap,hF⟩:=h.ob_ hx;have hxo:=h.ok.obj x (ZK hx)
  obtain⟨kc,hk⟩:∃kc,m.kl[x.cls]?=some kc:=⟨_,Z8 hxo.1⟩
  have hdr:r=(kc.name,0):=amm;subst hdr;obtain⟨g2,cap2,hv2,hat⟩:=h.vc_
  obtain⟨y,hy⟩:∃y,K.cl[x.cls]?=some y:=⟨_,Z8 (by rw[h.rel.len];exact hxo.1)⟩
  have n0:=hat.c0 _ y hy;rw[(h.rel.rel _ kc y hk hy).1]at n0;have o0:=hF.c0;have c0:=h.c0;have c1:=h.c1;rw[hv2]at c0;rw[hF.v]at c1;rw[ht]at hcall;refine Jz ?_;intro R6;have hcl:(x.cls:Int)<(K.cl.length:Int):=by rw[h.rel.len];omega
  clear h hr ht hF hat hxo hk hx hy hv2;go_enter func26,ntmps26;go_wp2_with fail;refine zA ?_;go_wp2_with fail
  go_quiet (fail)
  go_wp2
  go_ret2
  exact⟨rfl,uq⟩
theorem O1 {fn:Func}{p k:Tmp}(h:fn.results=#[.cell p 79,.tmp k]){tmps:Array Value}{z:Nat}(v0 v1 v:Value)(hp:tmps.getD p undef=(VG z))(hk:tmps.getD k undef=v)(z0:w.cell? (VJ z 0)=some v0)(z1:w.cell? (VJ z 1)=some v1):
 (results fn tmps).run prog w=.ok (.tuple #[.agg #[v0,v1],v]) w:=by
 exact alm
structure Rz (w W:World):Prop where
 bel:Below w.heap.size w W
 lt:w.heap.size<W.heap.size
 blk:W.heap[w.heap.size]?=some (.cells #[.bool false,VI 0] 79)
theorem Rz.z0 {w W:World}(h:Rz w W):W.cell? (VJ w.heap.size 0)=some (.bool false):=by simp only[World.cell?,h.blk];rfl
theorem Rz.z1 {w W:World}(h:Rz w W):W.cell? (VJ w.heap.size 1)=some (VI 0):=by simp only[World.cell?,h.blk];rfl
theorem Rz.Vb {w W:World}(h:Rz w W):UL W w.heap.size:=⟨_,_,h.blk⟩
theorem RK.res {K:U0}(h:RK w m K):∃W,W=w.alloc (.cells #[.bool false,VI 0] 79)/\RK W m K/\Rz w W:=by
 have hb:Below w.heap.size w (w.alloc (.cells #[.bool false,VI 0] 79)):=(ZR _ w).alloc UM _;exact⟨_,rfl,(Vu.below h hb).rk,hb,Vy,(Z4 w _).1⟩
theorem RQ {W:World}{z:Nat}{c0 c1:Value}(z0:W.cell? (VJ z 0)=some c0)(z1:W.cell? (VJ z 1)=some c1)(a b:Value):((W.setCell (VJ z 0) a).setCell (VJ z 1) b).cell? (VJ z 0)=some a/\((W.setCell (VJ z 0) a).setCell (VJ z 1) b).cell? (VJ z 1)=some b:=by
 have h1:(VJ z 1)≠(VJ z 0):=by intro e;injection e with _ e;cases e
 exact⟨(VD h1).trans (Vr z0),Vr ((VD h1.symm).trans z1)⟩
theorem pW {w W:World}(h:Below w.heap.size w W){z:Nat}(hz:w.heap.size<=z)(a b:Value):Below w.heap.size w ((W.setCell (VJ z 0) a).setCell (VJ z 1) b):=
 (((Vt.of_below h (λk=>k=z)).setCell _ _ (λ_=>rfl)).setCell _ _ (λ_=>rfl)).below UM (λk _ e=>VH)
theorem anU {K:U0}(h:RK w m K)(o j:Int):
 Calls prog 24 #[VG K.b,VI o,VI j] w λe w'=>e=.returned (.tuple #[(m.slot o j).1.val,VI (m.slot o j).2])/\Below w.heap.size w w':=by
 obtain⟨W,hW,h,hz⟩:=h.res;have HB:=UQ hz.bel;have z0:=hz.z0;have z1:=hz.z1;have zf:=λo=>hz.Vb.free o;have hcall:=h.there o;obtain⟨r,hr⟩:∃r,m.slot o j=r:=Vx;rw[hr];clear hz
 cases ht:m.there o with
 | false=>
  have hdr:r=(Vl.zero,4):=by rw[<- hr];unfold Im.slot;rw[ht];rfl
  subst hdr;rw[ht]at hcall;clear h hr ht;go_enter func24,ntmps24;go_wp2_with fail;rw[<- hW];clear hW;refine zA ?_;go_wp2;obtain⟨y0,y1⟩:=RQ z0 z1 (.bool false) (VI 0);exact ZQ (O1 results24 _ _ _ rfl rfl y0 y1) rfl acR
 | true=>
  obtain⟨i,x,rfl,hx,hi,hil⟩:=Rj ht;obtain⟨g,cap,hF⟩:=h.ob_ hx;have hxo:=h.ok.obj x (ZK hx);have h10:x.slots.length<=10:=by rw[hxo.2.2.1];exact JJ h.ok _
  rw[ht]at hcall;have o1:=hF.c1;have c1:=h.c1;rw[hF.v]at c1;refine Jz ?_;intro R6;have hsc:=hF.sc;obtain⟨n,hn⟩:∃n,n=x.slots.length:=Vx;rw[<- hn]at o1 h10;by_cases hj:0<=j/\j<(n:Int)
  . obtain⟨j,rfl⟩:=YP hj.1
    obtain⟨v,hv⟩:∃v,x.slots[j]?=some v:=⟨_,Z8 VH⟩
    have hdr:r=(v,0):=by rw[<- hr];unfold Im.slot;rw[ht,ZU rfl,hi,hx];simp only;rw[ZU hj.1,Zp,hv]
    subst hdr;obtain⟨s0,s0⟩:=hsc j v hv;have eK:=hj.2;clear h hr ht hF hxo hx hsc hn hj hv;unfold Vl.val;go_enter func24,ntmps24;go_wp2_with fail;rw[<- hW];clear hW;refine zA ?_;go_wp2;obtain⟨y0,y1⟩:=RQ z0 z1 (.bool v.obj) (VI v.n);exact ZQ (O1 results24 _ _ _ rfl rfl y0 y1) rfl acR
  . have hdr:r=(Vl.zero,4):=by
     rw[<- hr];unfold Im.slot;rw[ht,ZU rfl,hi,hx];simp only;by_cases h0:0<=j
     . rw[ZU h0];have:x.slots[j.toNat]?=none:=Y8 VH;rw[this]
     . rw[ZX h0]
    subst hdr;clear h hr ht hF hxo hx hsc hn;by_cases h0:0<=j
    . have h1:¬j<(n:Int):=λe=>hj ⟨h0,e⟩;exact aoq
    . exact aoq
theorem rbe {K:U0}(h:RK w m K)(o:Int)(s:ByteArray):
 Calls prog 63 #[VG K.b,VI o,.string s] w λe w'=>e=.returned (VI (m.be o s).1)/\SG w m K (m.be o s).2 w':=by
 have hok:=(adH h.ok o s).1;have hcall:=h.there o;have Z3:=eY h.ok h.im h.rel s;have HR:=UQ (SG.refl h);obtain⟨r,hr⟩:∃r,m.be o s=r:=Vx;rw[hr]at hok ⊢;unfold Im.be at hr
 cases ht:m.there o with
 | false=>
  rw[ZU ht]at hr;subst hr;rw[ht]at hcall;clear h hok Z3;go_enter func63,ntmps63;go_wp2_with fail;refine hcall.mono ?_;rintro e w' ⟨rfl,rfl⟩;go_wp2
  go_ret
  exact O5
 | true=>
  rw[ZX (by rw[ht];simp)]at hr;rw[ht]at hcall
  cases hm:m.made s with
  | none=>
   rw[hm]at hr Z3;simp only at hr;subst hr;simp only[Qh]at Z3;clear h hok;go_enter func63,ntmps63;go_wp2_with fail;refine hcall.mono ?_;rintro e w' ⟨rfl,rfl⟩;go_wp2_with fail;refine Z3.mono ?_;rintro e w' ⟨rfl,rfl⟩;go_wp2
   go_ret
   exact O5
  | some c=>
   obtain⟨i,x,rfl,hx,hi,hil⟩:=Rj ht;rw[hm,hi,hx]at hr;rw[hm]at Z3;simp only at hr;simp only[Qh]at Z3;have hcl:=Cm (O7 hm).2;have hsl:=(Vu.below h (ZR _ w).drew).rk.slots hcl;obtain⟨g,cap,hF⟩:=h.ob_ hx;have hxo:=h.ok.obj x (ZK hx);have h10:x.slots.length<=10:=by rw[hxo.2.2.1];exact JJ h.ok _
   have Kj:=JJ h.ok c;have o0:=hF.c0;have o0:=hF.c1;have c1:=h.c1;rw[hF.v]at c1;refine Jz ?_;intro R6;have gf:=λk=>hF.Vb.free k;obtain⟨n,hn⟩:∃n,n=x.slots.length:=Vx;obtain⟨tc,yd⟩:∃tc,tc=m.tot c:=Vx;rw[<- hn]at o0 h10 hr;rw[<- yd]at hsl Kj hr
   have HH:Hid (RK w m K/\m.obs[i]?=some x/\ajY w K i x g cap m.obs.length):=⟨h,hx,hF⟩
   by_cases he:tc=n
   . rw[ZX (by simp[he])]at hr;subst hr;have HO:Hid _:=hok;clear h hok hx hF hxo hm ht hn yd hi;go_enter func63,ntmps63;go_wp2_with fail;refine zA ?_;go_wp2_with fail;refine Z3.mono ?_;refine Sl ?_;go_wp2_with fail;refine Uy ?_;refine aiV ?_;intro hHeld;refine Ep ?_;refine afr ?_;refine dX ?_;refine Ur 11 ?_;refine Ul 2 λY_ Z_=>?_;go_simp;refine hsl.mono ?_;rintro e w3 ⟨rfl,rfl⟩
     try go_wp2_with fail
     refine Z_.go λhHeld=>?_;clear Z_ Y_;refine BD ?_;refine Nr ?_;go_wp2
     go_ret
     have hst:=HH.o.1.be_ HH.o.2.1 HH.o.2.2 c HO.o;exact⟨rfl,K,hst.trans (Vu.below hst.rk (ZR _ _).drew),rfl,rfl⟩
   . rw[ZU he]at hr;subst hr;clear h hok hx hF hxo hm ht hn yd hi;go_enter func63,ntmps63;go_wp2_with fail;refine zA ?_;go_wp2_with fail;refine Z3.mono ?_;refine Sl ?_;go_wp2_with fail;refine Uy ?_;refine aiV ?_;intro hHeld;refine Ep ?_;refine afr ?_;refine dX ?_;refine Ur 11 ?_;refine Ul 2 λY_ Z_=>?_;go_simp;refine hsl.mono ?_;rintro e w3 ⟨rfl,rfl⟩
     try go_wp2_with fail
     refine Z_.go λhHeld=>?_;clear Z_ Y_;refine BD ?_;refine Nr ?_;go_wp2
     go_ret
     exact⟨rfl,SG.below HH.o.1 (ZR _ _).drew⟩
theorem aks {K:U0}(h:RK w m K)(s t:ByteArray)(n:Int)(hs:s.size<=maxLen):
 Calls prog 58 #[VG K.b,.string s,.string t,VI n] w λe w'=>e=.returned (VI (m.TR s t n).1)/\∃K',Vu w w' m K (m.TR s t n).2 K':=by
 have hok:=(Kn.H9 h.ok s t n).1;obtain⟨r,hdr⟩:∃r,m.TR s t n=r:=Vx;rw[hdr]at hok ⊢;unfold Im.TR at hdr;have HS:=UQ (Vu.refl h);have h1:=h.class s;have h2:=h.class t
 cases hcn:className (bl s) with
 | false=>
  rw[ZU (.inl hcn)]at hdr;subst hdr;have hcl:=QV s w hs;rw[hcn]at hcl;clear h h1 h2 hok;go_enter func58,ntmps58;go_wp2_with fail;refine hcl.mono ?_;rintro e w' ⟨rfl,rfl⟩;go_wp2
  go_ret
  exact Ou
 | true=>
  have hcl:=QV s w hs;rw[hcn]at hcl;by_cases hn:n<0
  . rw[ZU (.inr hn)]at hdr;subst hdr;clear h h1 h2 hok;go_enter func58,ntmps58;go_wp2_with fail;refine hcl.mono ?_;rintro e w' ⟨rfl,rfl⟩;go_wp2
    go_ret
    exact Ou
  . rw[ZX (by rw[hcn];simp;omega)]at hdr
    cases hc:m.cls s with
    | some c=>
     rw[hc]at hdr h1;simp only at hdr;subst hdr;simp only[Qh]at h1;clear h h2 hok;go_enter func58,ntmps58;go_wp2_with fail;refine hcl.mono ?_;rintro e w' ⟨rfl,rfl⟩;go_wp2_with fail;refine h1.mono ?_;rintro e w' ⟨rfl,rfl⟩;go_wp2
     go_ret
     exact Ou
    | none=>
     rw[hc]at hdr h1;simp only[Qh]at h1;simp only at hdr
     cases ha:m.cls t with
     | none=>
      rw[ha]at hdr h2;simp only[Qh]at h2;simp only at hdr;subst hdr;clear h hok;go_enter func58,ntmps58;go_wp2_with fail;refine hcl.mono ?_;rintro e w' ⟨rfl,rfl⟩;go_wp2_with fail;refine h1.mono ?_;rintro e w' ⟨rfl,rfl⟩;go_wp2_with fail;refine h2.mono ?_;rintro e w' ⟨rfl,rfl⟩;go_wp2
      go_ret
      exact Ou
     | some a=>
      rw[ha]at hdr h2;simp only[Qh]at h2;simp only at hdr;have hal:=Cm ha;have h3:=h.slots hal;have Mr:=JJ h.ok a;by_cases hbig:10<(m.tot a:Int)+n
      . rw[ZU hbig]at hdr;subst hdr;obtain⟨ta,Nf⟩:∃ta,ta=m.tot a:=Vx;rw[<- Nf]at h3 Mr hbig;clear h hok Nf;by_cases sX:10<n
        . go_enter func58,ntmps58;go_wp2_with fail;refine hcl.mono ?_;rintro e w' ⟨rfl,rfl⟩;go_wp2_with fail;refine h1.mono ?_;rintro e w' ⟨rfl,rfl⟩;go_wp2_with fail;refine h2.mono ?_;rintro e w' ⟨rfl,rfl⟩;go_wp2
          go_ret
          exact Ou
        . go_enter func58,ntmps58;go_wp2_with fail;refine hcl.mono ?_;rintro e w' ⟨rfl,rfl⟩;go_wp2_with fail;refine h1.mono ?_;rintro e w' ⟨rfl,rfl⟩;go_wp2_with fail;refine h2.mono ?_;rintro e w' ⟨rfl,rfl⟩;go_wp2_with fail;refine h3.mono ?_;rintro e w' ⟨rfl,rfl⟩;go_wp2
          go_ret
          exact Ou
      . rw[ZX hbig]at hdr;have hlen:=h.rel.len;obtain⟨q,cap,hv⟩:=Rn h.own;have c0:=h.c0;rw[hv]at c0;by_cases h12:12<=m.kl.length
        . rw[ZU h12]at hdr;subst hdr;have L4:(12:Int)<=(K.cl.length:Int):=VH;obtain⟨ta,Nf⟩:∃ta,ta=m.tot a:=Vx;rw[<- Nf]at h3 Mr hbig;clear h hok Nf hlen h12;go_enter func58,ntmps58;go_wp2_with fail;refine hcl.mono ?_;rintro e w' ⟨rfl,rfl⟩;go_wp2_with fail;refine h1.mono ?_;rintro e w' ⟨rfl,rfl⟩;go_wp2_with fail;refine h2.mono ?_;rintro e w' ⟨rfl,rfl⟩;go_wp2_with fail;refine h3.mono ?_;rintro e w' ⟨rfl,rfl⟩;go_wp2
          go_ret
          exact Ou
        . rw[ZX h12]at hdr;subst hdr;obtain⟨n,rfl⟩:=YP (by omega:0<=n);rw[Zp]at hok ⊢;have L4:(K.cl.length:Int)<12:=VH;have hown:=h.own;have fa:=h.Vb.free 0;have hlt:=h.Vb.lt;have hnb:some K.b≠K.vc.ownBlock:=λe=>by have:=h.lc _ e.symm;rw[h.lh]at this;cases this
          have HK:Hid (RK w m K/\U3 {m with kl:=m.kl++[⟨s,some a,m.tot a+n,[]⟩]}/\a<m.kl.length):=⟨h,hok,hal⟩
          obtain⟨i0,hi0,hz0,hz1,hz2⟩:=YQ ng;have hnews:=Us w [.string s,VI (a:Nat),VI (n:Nat),.slice none 0 0] 74;have HV:Hid _:=hv;rw[hv]at hown hnb;obtain⟨ta,Nf⟩:∃ta,ta=m.tot a:=Vx;rw[<- Nf]at h3 Mr hbig;clear h hok Nf hlen h12 hv;go_enter func58,ntmps58;go_wp2_with fail;refine hcl.mono ?_;refine Sl ?_;go_wp2_with fail;refine h1.mono ?_;refine Sl ?_;go_wp2_with fail;refine h2.mono ?_;refine Sl ?_;go_wp2_with fail;refine h3.mono ?_;refine Sl ?_
          go_upto_region 12 with fail
          generalize hq:Value.slice q K.cl.length cap=vc at *;clear hq
          go_wp2_with first
           | (at_builtin;refine wpList_append_own_at _ rfl _ _ 75 rfl 0 74 i0 (.agg #[.string ⟨#[]⟩,VI 0,VI 0,.slice none 0 0]) 4 56 underlying75 hi0 hz0 hz1 hz2 rfl Vz _ _ _ rfl (hown.alloc _) (VJ w.heap.size 0) 1 1 [.string s,VI (a:Nat),VI (n:Nat),.slice none 0 0] rfl rfl hnews vH SE VH nO ?_)
           | fail
          intro v2 W2 hown2 hg2 _ hblk
          have hb2:W2.heap[K.b]?=w.heap[K.b]?:=by
           rw[hg2.block K.b Ey hnb];exact ZV w _ K.b hlt
          have ot:=(Z9 hb2).trans c0;have fa2:=(Zr hb2).trans fa
          have HC:Hid (Vt w W2 (λk=>K.vc.ownBlock=some k)):=by
           have hx1:Vt w W2 (λk=>K.vc.ownBlock=some k):=⟨hg2.os,hg2.tape,hg2.output,anV,λk hk hn=>by
            rw[hg2.block k Ey (λe=>hn (by rw[HV.o,e]))]
            exact ZV w _ k hk⟩
           exact hx1
          have HB:Hid (v2.ownBlock=K.vc.ownBlock\/∃k,w.heap.size<=k/\v2.ownBlock=some k):=by
           have hx1:v2.ownBlock=K.vc.ownBlock\/∃k,w.heap.size<=k/\v2.ownBlock=some k:=by
            rw[HV.o];exact hblk.imp id (λe=>⟨w.heap.size+1,VH,pI⟩)
           exact hx1
          have HO:=UQ hown2;clear hblk hg2 c0 fa hnews hb2;obtain⟨q2,c0,rfl⟩:=Rn hown2;go_wp2
          go_ret
          obtain⟨K',hs,_,_⟩:=HK.o.1.amU s a n HK.o.2.2 _ HK.o.2.1 HC.o HO.o HB.o;exact⟨rfl,K',hs⟩
theorem Vu.told {K K':U0}(h:Vu w w' m K m' K'){z:Nat}(hz:w.heap.size<=z)(hl:K'.lab z=.no)(a b:Value):Vu w ((w'.setCell (VJ z 0) a).setCell (VJ z 1) b) m K m' K':=
 ⟨h.rk.same (by rw[UN,UN];exact ZN _) (λk e=>by
  have hne:k≠z:=λx=>e (by rw[x];exact hl)
  exact(ZW _ _ _ k (λx=>hne x)).trans (ZW _ _ _ k (λx=>hne x))) K'.lab Ji (λk e=>by rw[UN,UN];exact h.rk.lt k e),(h.Ut.setCell _ _ (λe=>by have e:z<w.heap.size:=e;omega)).setCell _ _ (λe=>by have e:z<w.heap.size:=e;omega),h.lab,h.b⟩
theorem RK.QF {K:U0}(h:RK w m K){k:Nat}(hk:w.heap.size<=k):K.lab k=.no:=Zt λe=>by have:=h.lt k e;omega
theorem jK:∀n,n<=10->madeCells #[.bool false,VI 0] (n*2)=(vcs (List.replicate n Vl.zero)).toArray
 | 0,_=>VE
 | 1,_=>VE
 | 2,_=>VE
 | 3,_=>VE
 | 4,_=>VE
 | 5,_=>VE
 | 6,_=>VE
 | 7,_=>VE
 | 8,_=>VE
 | 9,_=>VE
 | 10,_=>VE
 | n+11,h=>VH
theorem GV:(prog.info? 79).map (λi=>(i.zero,i.size,i.bytes))=some (some (.agg #[.bool false,VI 0]),2,16):=VE
theorem Ba (n:Nat)(hn:n<=10)(w:World):(Instr.makeSlice 89 (VI (n:Int)) (VI (n:Int))).run prog w=.ok (.slice (some (VJ w.heap.size 0)) n n) (w.alloc (.cells (vcs (List.replicate n Vl.zero)).toArray 79)):=by
 obtain⟨i0,hi,h0,h1,h2⟩:=YQ GV;have h:=VN (P:=prog) w 89 79 i0 _ underlying89 hi h0 .i64 .i64 (n:Int) (n:Int) VH VH (by rw[h2];omega) VH;refine ajb ?_;rw[jK n hn]
theorem aeH:(prog.info? 122).map (λi=>(i.zero,i.size,i.bytes))=some (some (.agg #[VI 0,.slice none 0 0]),2,32):=VE
theorem F7 {P:Program}{o:Oper}{a:Act}{K':Act->World->Prop}{Q:Exit->Act->World->Prop}(s x:Operand)(t:TypeId)(ho:o.op=.call {callee:=.builtin .append,args:=#[s,x],argTypes:=#[t,t]}) {v':Value} (hr:(Builtin.append_ #[t,t] o.type #[a.eval s,a.eval x]).run P w=.ok v' w') (h:K' (a.put o.dst v') w'):Oper.wp P o a w K' Q:=by
 unfold Oper.wp execOp;simp only[ho,resolve,invoke,builtin,Sem.run_bind,Sem.run_pure,Result.andThen_ok,List.map_toArray,Zc,Xj,hr];exact h
theorem ajN {K:U0}(h:RK w m K)(s:ByteArray):
 Calls prog 21 #[VG K.b,.string s] w λe w'=>e=.returned (.tuple #[(m.make s).1.val,VI (m.make s).2.1])/\SG w m K (m.make s).2.2 w':=by
 have hok:=(xX h.ok s).1;obtain⟨r,hdr⟩:∃r,m.make s=r:=Vx;rw[hdr]at hok ⊢;unfold Im.make at hdr;have HH:Hid _:=h;obtain⟨W,hW,h,hz⟩:=h.res;have HB:=UQ hz.bel;have z0:=hz.z0;have z1:=hz.z1;have zf:=λo=>hz.Vb.free o;have hwl:=hz.lt;have hlt:=h.Vb.lt;have Z3:=eY h.ok h.im h.rel s;obtain⟨q,cap,hv⟩:=h.vo_;have c1:=h.c1;rw[hv]at c1;have Ra:=h.ok.objs;clear hz
 cases hm:m.made s with
 | none=>
  rw[hm]at hdr Z3;simp only at hdr;subst hdr;simp only[Qh]at Z3;exact aov
 | some c=>
  rw[hm]at hdr Z3;simp only at hdr;simp only[Qh]at Z3;have hcl:=Cm (O7 hm).2;by_cases Uq:40<=m.obs.length
  . rw[ZU Uq]at hdr;subst hdr;have A2:(40:Int)<=(m.obs.length:Int):=VH;exact aov
  . rw[ZX Uq]at hdr;subst hdr;have hsl:=h.slots hcl;have Kj:=JJ h.ok c;have hown:=h.obs;have fa:=h.Vb.free 1;have hnb:some K.b≠K.vo.ownBlock:=λe=>by have:=h.lo _ e.symm;rw[h.lh]at this;cases this
    have hvl:∀k,K.vo.ownBlock=some k->k<w.heap.size:=λk e=>(HH.o.obs.lt k e).2
    have HK:Hid (RK W m K/\U3 {m with obs:=m.obs++[⟨c,List.replicate (m.tot c) Vl.zero⟩]}):=⟨h,hok⟩
    have HV:Hid _:=hv;rw[hv]at hown hnb hvl;obtain⟨tc,yd⟩:∃tc,tc=m.tot c:=Vx;have dt:Hid _:=yd;rw[<- yd]at hsl Kj;clear h hok yd hv hm;have hmk:=Ba tc Kj;obtain⟨i0,hi0,hz0,hz1,hz2⟩:=YQ aeH;obtain⟨W3,hW3⟩:∃W3,W3=((W.alloc (.cells (vcs (List.replicate tc Vl.zero)).toArray 79)).alloc (.cells #[VI (c:Nat),.slice (some (VJ W.heap.size 0)) tc tc] 122)).drew:=Vx;have hz3:W3.heap.size=W.heap.size+2:=by rw[hW3];show ((W.alloc _).alloc _).heap.size=_;simp
    have hold:∀k,k<W.heap.size->W3.heap[k]?=W.heap[k]?:=λk hk=>by
     rw[hW3];exact(ZV (W.alloc _) _ k Vo).trans (ZV W _ k hk)
    have hzb:W3.heap[W.heap.size]?=some (.cells (vcs (List.replicate tc Vl.zero)).toArray 79):=by
     rw[hW3];exact(ZV (W.alloc _) _ W.heap.size Vy).trans (Z4 W _).1
    have hnews:∀j u,[Value.int .i64 (c:Nat),.slice (some (VJ W.heap.size 0)) tc tc][j]?=some u->W3.cell? ((VJ (W.heap.size+1) 0).add j)=some u:=by
     have:=Us (W.alloc (.cells (vcs (List.replicate tc Vl.zero)).toArray 79)) [VI (c:Nat),.slice (some (VJ W.heap.size 0)) tc tc] 122;rw[ZJ]at this;rw[hW3];exact this
    have SR:=Uk hown (λk e=>hold k (VW (hvl k e) hwl));obtain⟨v2,W2,hr,SR,hg2,_,hbl⟩:=run_append_own_at (P:=prog) W3 0 76 76 122 i0 (.agg #[VI 0,.slice none 0 0]) 2 32 underlying76 hi0 hz0 hz1 hz2 rfl Vz (.slice q m.obs.length cap) m.obs.length (Uj K.ob 0 m.obs) SR (VJ (W.heap.size+1) 0) 1 1 [VI (c:Nat),.slice (some (VJ W.heap.size 0)) tc tc] rfl hnews vH SE VH nO;have O':∀k,k<W3.heap.size->(Value.slice q m.obs.length cap).ownBlock≠some k->W2.heap[k]?=W3.heap[k]?:=λk hk hn=>hg2.block k hk (λe=>hn e.symm);have hkb:=(O' K.b VH (λe=>hnb e.symm)).trans (hold K.b hlt);have Be:=(O' w.heap.size VH (λe=>by have:=hvl _ e;omega)).trans (hold w.heap.size hwl);have b1:=(Z9 (a:=(VJ K.b 1)) hkb).trans c1;have bf:=(Zr (a:=(VJ K.b 1)) hkb).trans fa;have y0:=(Z9 (a:=(VJ w.heap.size 0)) Be).trans z0;have y1:=(Z9 (a:=(VJ w.heap.size 1)) Be).trans z1;have yf:∀o,W2.frozen? (VJ w.heap.size o)=false:=λo=>(Zr (a:=(VJ w.heap.size o)) Be).trans (zf o);have hl2:W2.heap.size ≥ W3.heap.size:=hg2.size;have L_:=HH.o.Vb.lt;have ph:¬K.b=w.heap.size:=VH;obtain⟨p2,c1,hv2⟩:=Rn SR;go_enter func21,ntmps21;go_wp2_with fail;rw[<- hW];clear hW;refine Z3.mono ?_;refine Sl ?_;go_wp2_with fail;refine CB ?_;go_wp2_with fail;refine Uy ?_;refine ZT (S:=(λw'=>True)) VE UG (λhHeld=>?_);refine pJ ?_;refine tC ?_;refine Zv (rs:=[4,7]) VE Vy ?_;refine(ZO (o:=_) rfl (λY_ Z_=>?nB) (ZO (o:=_) rfl (λY_ Z_=>?kr) ZA))
    case' nB=>
     refine Vg ?_;intro hHeld;clear Z_ Y_
     try refine UE ?_
     refine Ul 7 λY_ Z_=>?_;refine Vg ?_;intro hHeld;clear Z_ Y_
     try refine UE ?_
     refine Ur 8 ?_;refine Ul 9 λY_ Z_=>?_;refine Vg ?_;intro hHeld;clear Z_ Y_
     try refine UE ?_
     refine ?lf
    case' kr=>
     refine Vg ?_;intro hHeld;clear Z_ Y_
     try refine UE ?_
     refine Ur 8 ?_;refine Zv (rs:=[4,9]) VE Vy ?_;refine(ZO (o:=_) rfl (λY_ Z_=>?Bs1) (ZO (o:=_) rfl (λY_ Z_=>?Bs2) ZA))
     case' Bs1=>
      refine Vg ?_;intro hHeld;clear Z_ Y_;refine abk ?_;intro hHeld
      try refine UE ?_
      refine ?lf
     case' Bs2=>
      refine Vg ?_;intro hHeld;clear Z_ Y_
      try refine UE ?_
      refine Ul 4 λY_ Z_=>?_;refine Vg ?_;intro hHeld;clear Z_ Y_
      try refine UE ?_
      refine ?lf
    all_goals
     refine Zv (rs:=[10]) VE Vy ?_;refine ZO (o:=_) rfl (λY_ Z_=>?_) ZA;rw[ZU (by rfl),<- hW3];refine F7 (.tmp 28) (.tmp 33) 76 rfl hr ?_;subst hv2;refine Z_.o _ _ trivial (λhHeld=>?_);clear Z_ Y_;refine MC ?_;refine uZ ?_;refine Ul 13 λY_ Z_=>?_;refine Vg ?_;intro hHeld;clear Z_ Y_;refine Um ?_;go_wp2
     have hC:Vt W W2 (λk=>K.vo.ownBlock=some k):=⟨hg2.os.trans (by rw[hW3];rfl),hg2.tape.trans (by rw[hW3];rfl),hg2.output.trans (by rw[hW3];rfl),VH,λk hk hn=>(O' k VH (λe=>hn (by rw[HV.o];exact e))).trans (hold k hk)⟩
     have lB:=(O' W.heap.size VH (λe=>by have:=hvl _ e;omega)).trans hzb
     obtain⟨K',hs,hf,he⟩:=HK.o.1.more c tc W.heap.size _ (by rw[dt.o];exact HK.o.2) hC UM lB SR (by
      rw[HV.o]
      exact hbl.imp id (λe=>⟨_,by rw[hz3];omega,e⟩))
     have hst:=(Vu.below HH.o HB.o).trans hs;have hln:=(hs.lab _ hwl).trans (HH.o.QF UM);have z':=hst.told UM hln (.bool true) (VI (m.obs.length:Nat));have x0:(W2.setCell (VJ K.b 1) (.slice p2 (m.obs.length+1) c1)).cell? (VJ w.heap.size 0)=some (.bool false):=(VD (by intro e;injection e with e;exact ph e)).trans y0;have x1:(W2.setCell (VJ K.b 1) (.slice p2 (m.obs.length+1) c1)).cell? (VJ w.heap.size 1)=some (VI 0):=(VD (by intro e;injection e with e;exact ph e)).trans y1;obtain⟨x0,x1⟩:=RQ x0 x1 (.bool true) (VI (m.obs.length:Nat));refine ZQ (O1 results21 _ _ _ rfl rfl x0 x1) rfl ⟨rfl,K',?_,hf,he⟩;rw[<- dt.o];exact z'
structure RU where
 wv:Value
 av:Value
 sv:Value
 wp:Option Addr
 wh:Nat
 wc:Nat
 ab:Nat
structure SX (z:Nat)(w:World)(K:U0)(fb:Nat)(f:Fr)(d:RU):Prop where
 blk:w.heap[fb]?=some (.cells #[.slice d.wp f.ws.length d.wc,VI (f.home:Nat),.bool f.self.obj,VI f.self.n,d.av,d.sv,VI (f.pc:Nat)] 182)
 ws:pG w d.wp d.wh f.ws
 wq:1<=f.ws.length->K.Q d.wh
 args:UH w d.av f.args d.ab
 ga:f.args≠[]->K.lab d.ab=.no/\d.ab<z/\d.ab≠fb
 st:w.ownsRow 0 79 2 d.sv f.st.length (vcs f.st.reverse)
 gf:K.lab fb=.no/\fb<z
 gs:∀k,d.sv.ownBlock=some k->K.lab k=.no/\z<=k
 zl:z<=w.heap.size
variable {f : Fr}
theorem SX.lt {z:Nat}{K:U0}{fb:Nat}{d:RU}(h:SX z w K fb f d):fb<w.heap.size:=(Z5.1 h.blk).1
theorem SX.Vb {z:Nat}{K:U0}{fb:Nat}{d:RU}(h:SX z w K fb f d):UL w fb:=⟨_,_,h.blk⟩
theorem SX.f0 {z:Nat}{K:U0}{fb:Nat}{d:RU}(h:SX z w K fb f d):w.cell? (VJ fb 0)=some (.slice d.wp f.ws.length d.wc):=by simp only[World.cell?,h.blk];rfl
theorem SX.f1 {z:Nat}{K:U0}{fb:Nat}{d:RU}(h:SX z w K fb f d):w.cell? (VJ fb 1)=some (VI (f.home:Nat)):=by simp only[World.cell?,h.blk];rfl
theorem SX.f2 {z:Nat}{K:U0}{fb:Nat}{d:RU}(h:SX z w K fb f d):w.cell? (VJ fb 2)=some (.bool f.self.obj):=by simp only[World.cell?,h.blk];rfl
theorem SX.f3 {z:Nat}{K:U0}{fb:Nat}{d:RU}(h:SX z w K fb f d):w.cell? (VJ fb 3)=some (VI f.self.n):=by simp only[World.cell?,h.blk];rfl
theorem SX.f4 {z:Nat}{K:U0}{fb:Nat}{d:RU}(h:SX z w K fb f d):w.cell? (VJ fb 4)=some d.av:=by simp only[World.cell?,h.blk];rfl
theorem SX.f5 {z:Nat}{K:U0}{fb:Nat}{d:RU}(h:SX z w K fb f d):w.cell? (VJ fb 5)=some d.sv:=by simp only[World.cell?,h.blk];rfl
theorem SX.f6 {z:Nat}{K:U0}{fb:Nat}{d:RU}(h:SX z w K fb f d):w.cell? (VJ fb 6)=some (VI (f.pc:Nat)):=by simp only[World.cell?,h.blk];rfl
theorem SX.same {z:Nat}{K K':U0}{fb:Nat}{d:RU}(h:SX z w K fb f d)(hz:w.heap.size<=w'.heap.size)(hl:∀k,k<w.heap.size->K'.lab k=K.lab k)(hb:∀k,k<w.heap.size->K.lab k=.no\/K.lab k=.still->w'.heap[k]?=w.heap[k]?):SX z w' K' fb f d:=
 ⟨(hb fb h.lt (.inl h.gf.1)).trans h.blk,h.ws.same hz (λe=>hb _ (h.ws.lt e) (.inr (h.wq e))),λe=>(hl _ (h.ws.lt e)).trans (h.wq e),h.args.same (λe=>hb _ (ZY (h.ga e).2.1 h.zl) (.inl (h.ga e).1)),λe=>⟨(hl _ (ZY (h.ga e).2.1 h.zl)).trans (h.ga e).1,(h.ga e).2⟩,Uk h.st (λk e=>hb k (h.st.lt k e).2 (.inl (h.gs k e).1)),⟨(hl _ h.lt).trans h.gf.1,h.gf.2⟩,λk e=>⟨(hl _ (h.st.lt k e).2).trans (h.gs k e).1,(h.gs k e).2⟩,ZC h.zl hz⟩
theorem SX.step {z:Nat}{K K':U0}{fb:Nat}{d:RU}(h:SX z w K fb f d)(s:Vu w w' m K m' K'):SX z w' K' fb f d:=
 h.same s.Ut.size s.lab (λk hk e=>s.Ut.block k hk (λx=>by
  rcases e with e|e
  . exact x.1 e
  . exact x.2 e))
def U0.Own (K:U0)(fb z k:Nat):Prop:=K.Mu k\/k=fb\/(z<=k/\K.lab k=.no)
structure Pm (z fb:Nat)(w w':World)(K K':U0):Prop where
 Ut:Vt w w' (K.Own fb z)
 lab:∀k,k<w.heap.size->K'.lab k=K.lab k
 b:K'.b=K.b
theorem Pm.trans {z fb:Nat}{K K1 K2:U0}(h:Pm z fb w w1 K K1)(h':Pm z fb w1 w2 K1 K2):Pm z fb w w2 K K2:=
 ⟨h.Ut.then h'.Ut (λk hk e=>by unfold U0.Own U0.Mu at e ⊢;rw[h.lab k hk]at e;exact e),λk hk=>(h'.lab k (ZY hk h.Ut.size)).trans (h.lab k hk),h'.b.trans h.b⟩
theorem Vu.run {K K':U0}(h:Vu w w' m K m' K')(z fb:Nat):Pm z fb w w' K K':=⟨h.Ut.mono jJ,h.lab,h.b⟩
theorem Pm.refl (z fb:Nat)(w:World)(K:U0):Pm z fb w w K K:=⟨Vt.refl _ _,λ_ _=>rfl,rfl⟩
theorem RK.frame {K:U0}(h:RK w m K)(hC:Vt w w' (λk=>K.lab k=.no)):RK w' m K:=
 h.same hC.size (λk e=>hC.block k (h.lt k e) e) K.lab Ji (λk e=>ZY (h.lt k e) hC.size)
theorem SX.set {z:Nat}{K:U0}{fb:Nat}{f f':Fr}{d d':RU}(h:SX z w K fb f d)(hk:RK w m K)(o:Nat)(v:Value)
 (hh:#[.slice d.wp f.ws.length d.wc,VI (f.home:Nat),.bool f.self.obj,VI f.self.n,d.av,d.sv,VI (f.pc:Nat)].setIfInBounds o v=#[.slice d'.wp f'.ws.length d'.wc,VI (f'.home:Nat),.bool f'.self.obj,VI f'.self.n,d'.av,d'.sv,VI (f'.pc:Nat)])
 (e1:f'.ws=f.ws) (e2:d'.wp=d.wp) (e3:d'.wh=d.wh) (e4:f'.args=f.args) (e5:d'.av=d.av) (e6:d'.ab=d.ab) (hst:w.ownsRow 0 79 2 d'.sv f'.st.length (vcs f'.st.reverse)) (Kh:∀k,d'.sv.ownBlock=some k->K.lab k=.no/\z<=k):
 SX z (w.setCell (VJ fb o) v) K fb f' d'/\RK (w.setCell (VJ fb o) v) m K:=by
 have hoth:∀k,k≠fb->(w.setCell (VJ fb o) v).heap[k]?=w.heap[k]?:=λk e=>ZW w _ v k (λx=>e x);have hz:=UN w (VJ fb o) v;refine⟨⟨by rw[<- hh];exact QK h.blk _ _,?_,?_,?_,?_,?_,h.gf,Kh,by rw[hz];exact h.zl⟩,hk.frame ((Vt.refl w _).setCell _ _ (λ_=>h.gf.1))⟩
 . rw[e1,e2,e3];exact h.ws.same ac4 (λe=>hoth _ (λx=>by have:=h.wq e;rw[x]at this;have h2:K.lab fb=.still:=this;rw[h.gf.1]at h2;cases h2))
 . rw[e1,e3];exact h.wq
 . rw[e4,e5,e6];exact h.args.same (λe=>hoth _ (h.ga e).2.2)
 . rw[e4,e6];exact h.ga
 . exact Uk hst (λk e=>hoth k (λx=>by have:=(Kh k e).2;have:=h.gf.2;omega))
structure Off (w:World)(K:U0)(fb:Nat)(sv:Value)(p:Nat):Prop where
 lt:p<w.heap.size
 nf:p≠fb
 ns:sv.ownBlock≠some p
 nl:K.lab p=.no
structure U5 (z fb:Nat)(w w':World)(m:Im)(K:U0)(sv:Value)(f:Fr)(d:RU):Prop where
 rk:RK w' m K
 fr:SX z w' K fb f d
 run:Pm z fb w w' K K
 off:∀p,Off w K fb sv p->Off w' K fb d.sv p/\w'.heap[p]?=w.heap[p]?
theorem Off.step {K K':U0}{fb p:Nat}{sv:Value}(h:Off w K fb sv p)(s:Vu w w' m K m' K'):Off w' K' fb sv p/\w'.heap[p]?=w.heap[p]?:=
 ⟨⟨ZY h.lt s.Ut.size,h.nf,h.ns,(s.lab p h.lt).trans h.nl⟩,s.Ut.block p h.lt (λe=>e.1 h.nl)⟩
theorem Ii {z fb:Nat}{K:U0}(hC:Vt w w' (λk=>k=fb\/(z<=k/\K.lab k=.no))):Pm z fb w w' K K:=⟨hC.mono lF,λ_ _=>rfl,rfl⟩
theorem SX.stack {z:Nat}{K:U0}{fb:Nat}{d:RU}(h:SX z w K fb f d)(hk:RK w m K)(st:List Vl)(sv:Value)(hC:Vt w w2 (λk=>d.sv.ownBlock=some k))(hst:w2.ownsRow 0 79 2 sv st.length (vcs st.reverse))(Kh:∀k,sv.ownBlock=some k->K.lab k=.no/\z<=k)(sj:∀k,sv.ownBlock=some k->d.sv.ownBlock=some k\/w.heap.size<=k):
 U5 z fb w (w2.setCell (VJ fb 5) sv) m K d.sv {f with st:=st} {d with sv:=sv}:=by
 have hzl:=h.zl;have hfz:=h.gf.2
 have hb2:∀k,k<w.heap.size->(K.lab k=.still\/k<z)->w2.heap[k]?=w.heap[k]?:=λk hk e=>hC.block k hk (λx=>by
  have:=h.gs k x;rcases e with e|e
  . rw[this.1]at e;cases e
  . omega)
 have hoth:∀k,k≠fb->(w2.setCell (VJ fb 5) sv).heap[k]?=w2.heap[k]?:=λk e=>ZW w2 _ sv k (λx=>e x);have hz:=UN w2 (VJ fb 5) sv;have e9:Vt w (w2.setCell (VJ fb 5) sv) (λk=>k=fb\/(z<=k/\K.lab k=.no)):=(hC.mono (λk _ e=>.inr ⟨(h.gs k e).2,(h.gs k e).1⟩)).setCell _ _ (λ_=>.inl rfl);refine⟨hk.frame (e9.mono (λk _ e=>?_)),⟨?_,?_,h.wq,?_,h.ga,?_,h.gf,Kh,by rw[hz];exact ZC hzl hC.size⟩,Ii e9,λp hp=>⟨⟨by rw[hz];exact ZY hp.lt hC.size,hp.nf,λe=>?_,hp.nl⟩,(hoth p hp.nf).trans (hC.block p hp.lt (λe=>hp.ns e))⟩⟩
 . rcases e with e|e
   . rw[e];exact h.gf.1
   . exact e.2
 . exact QK ((hb2 fb h.lt (.inr hfz)).trans h.blk) 5 sv
 . exact h.ws.same (by rw[hz];exact hC.size) (λe=>by
    have hq:K.lab d.wh=.still:=h.wq e
    exact(hoth _ (λx=>by rw[x,h.gf.1]at hq;cases hq)).trans (hb2 _ (h.ws.lt e) (.inl hq)))
 . exact h.args.same (λe=>(hoth _ (h.ga e).2.2).trans (hb2 _ (ZY (h.ga e).2.1 hzl) (.inr (h.ga e).2.1)))
 . exact Uk hst (λk e=>hoth k (λx=>by have:=(Kh k e).2;omega))
 . rcases sj p e with e|e
   . exact hp.ns e
   . have:=hp.lt;omega
theorem U5.below {z fb:Nat}{K:U0}{sv:Value}{d:RU}(h:U5 z fb w w' m K sv f d)(hb:Below w'.heap.size w' w2):U5 z fb w w2 m K sv f d:=
 have s:=Vu.below h.rk hb
 ⟨s.rk,h.fr.step s,h.run.trans (s.run z fb),λp hp=>⟨((h.off p hp).1.step s).1,((h.off p hp).1.step s).2.trans (h.off p hp).2⟩⟩
theorem U5.trans {z fb:Nat}{K:U0}{sv:Value}{f f2:Fr}{d d2:RU}(h:U5 z fb w w' m K sv f d)(h2:U5 z fb w' w2 m K d.sv f2 d2):U5 z fb w w2 m K sv f2 d2:=⟨h2.rk,h2.fr,h.run.trans h2.run,λp hp=>⟨(h2.off p (h.off p hp).1).1,(h2.off p (h.off p hp).1).2.trans (h.off p hp).2⟩⟩
theorem UF (w:World)(o:Obj):Below w.heap.size w (w.alloc o):=(ZR _ w).alloc UM _
theorem J5 (w:World)(o o':Obj):Below w.heap.size w ((w.alloc o).alloc o'):=((ZR _ w).alloc UM _).alloc Vy _
theorem RI {fn:Func}{p:Tmp}(h:fn.results=#[.cell p 79]){tmps:Array Value}{z:Nat}(v0 v1:Value)(hp:tmps.getD p undef=(VG z))(z0:w.cell? (VJ z 0)=some v0)(z1:w.cell? (VJ z 1)=some v1):
 (results fn tmps).run prog w=.ok (.agg #[v0,v1]) w:=by
 exact aa8
theorem MV:∀(l r:List Vl),vcs (l++r)=vcs l++vcs r
 | [],r=>rfl
 | x::l,r=>by simp only[YR,vcs,MV l r]
theorem PK {z:Nat}{K:U0}{fb:Nat}{d:RU}(hk:RK w m K)(h:SX z w K fb f d)(hs:f.st.length<=1000)(v:Vl):
 Calls prog 151 #[VG fb,v.val] w λe w'=>e=.returned (.tuple #[])/\∃sv,U5 z fb w w' m K d.sv {f with st:=v::f.st} {d with sv:=sv}:=by
 have HK:Hid (RK w m K/\SX z w K fb f d):=⟨hk,h⟩
 have f5:=h.f5;have hfl:=h.lt;have hfz:=h.Vb.free 5;have hst:=h.st;obtain⟨i0,hi0,hz0,hz1,hz2⟩:=YQ GV;obtain⟨sv,sj⟩:∃x,x=d.sv:=Vx;obtain⟨n,hn⟩:∃n,n=f.st.length:=Vx;rw[<- sj]at f5 hst;rw[<- hn]at hst hs
 have HN:Hid (sv=d.sv/\n=f.st.length):=⟨sj,hn⟩
 clear h hk sj hn;obtain⟨W1,hW1⟩:∃W1,W1=w.alloc (.cells #[.bool v.obj,VI v.n] 79):=Vx;have Hp:Vt w W1 (λ_=>False):=by rw[hW1];exact(Vt.refl w _).alloc _
 have v0:W1.cell? (VJ w.heap.size 0)=some (.bool v.obj):=by rw[hW1];exact Ug w _ _ _ 0 rfl
 have v1:W1.cell? (VJ w.heap.size 1)=some (VI v.n):=by rw[hW1];exact Ug w _ _ _ 1 rfl
 have f5:=(Z9 (a:=(VJ fb 5)) (Hp.block fb hfl (λe=>e))).trans f5;have i7:=(Zr (a:=(VJ fb 5)) (Hp.block fb hfl (λe=>e))).trans hfz;have hz:w.heap.size+1=W1.heap.size:=acn;have GM:=Uk hst (λk e=>Hp.block k (hst.lt k e).2 (λe=>e));obtain⟨W3,hW3⟩:∃W3,W3=(W1.alloc (.cells #[.bool v.obj,VI v.n] 79)).drew:=Vx;have hnews:∀j u,[Value.bool v.obj,VI v.n][j]?=some u->W3.cell? ((VJ W1.heap.size 0).add j)=some u:=by rw[hW3];exact Us W1 [.bool v.obj,VI v.n] 79
 have z_:W3.ownsRow 0 79 2 sv n (vcs f.st.reverse):=by rw[hW3];exact GM.alloc _
 obtain⟨v2,W2,hr,hown2,hg2,_,hbl⟩:=run_append_own_at (P:=prog) W3 0 89 89 79 i0 (.agg #[.bool false,VI 0]) 2 16 underlying89 hi0 hz0 hz1 hz2 rfl Vz sv n (vcs f.st.reverse) z_ (VJ W1.heap.size 0) 1 1 [.bool v.obj,VI v.n] rfl hnews vH SE VH nO;have Kh:=HK.o.2.gs;rw[<- HN.o.1]at Kh;have hz0:w.heap.size+2=W3.heap.size:=by rw[hW3];show _=(W1.alloc _).heap.size;rw[ZJ];omega
 have O':∀k,k<w.heap.size+1->sv.ownBlock≠some k->W2.heap[k]?=W1.heap[k]?:=λk hk hn=>by
  rw[hg2.block k VH (λe=>hn e.symm),hW3];exact ZV W1 _ k VH
 have Mw:sv.ownBlock≠some fb:=λe=>by have:=(Kh _ e).2;have:=HK.o.2.gf.2;omega
 have cT:sv.ownBlock≠some w.heap.size:=λe=>by have:=(hst.lt _ e).2;omega
 have q0:=(Z9 (a:=(VJ w.heap.size 0)) (O' w.heap.size VH cT)).trans v0;have q1:=(Z9 (a:=(VJ w.heap.size 1)) (O' w.heap.size VH cT)).trans v1;have q5:=(Z9 (a:=(VJ fb 5)) (O' fb VH Mw)).trans f5;have qz:=(Zr (a:=(VJ fb 5)) (O' fb VH Mw)).trans i7;have ph:¬fb=w.heap.size:=VH;have ph:fb<W1.heap.size:=VH;obtain⟨p2,c2,hv2⟩:=Rn hown2;unfold Vl.val;go_enter func151,ntmps151;go_wp2_with fail;rw[<- hW1];clear hW1;refine Uy ?_;refine ZT (S:=(λw'=>w'.cell? (VJ w.heap.size 0)=some (.bool v.obj)/\w'.cell? (VJ w.heap.size 1)=some (VI v.n))) VE UG (λhHeld=>?_);refine pJ ?_;refine Ur 5 ?_;refine Zv (rs:=[4,6]) VE Vy ?_;refine(ZO (o:=_) rfl (λY_ Z_=>?nB) (ZO (o:=_) rfl (λY_ Z_=>?kr) ZA))
 case' nB=>
  refine Vg ?_;intro hHeld;clear Z_ Y_
  try refine UE ?_
  refine Bf ?_;intro hHeld;refine ?lf
 case' kr=>
  refine Vg ?_;intro hHeld;clear Z_ Y_
  try refine UE ?_
  refine Ul 4 λY_ Z_=>?_;refine Vg ?_;intro hHeld;clear Z_ Y_
  try refine UE ?_
  refine ?lf
 all_goals
  refine Zv (rs:=[7]) VE Vy ?_;refine ZO (o:=_) rfl (λY_ Z_=>?_) ZA;rw[ZU (by rfl),<- hW3];refine F7 (.tmp 8) (.tmp 10) 89 rfl hr ?_;subst hv2;refine Z_.o _ _ ⟨q0,q1⟩ (λhHeld=>?_);clear Z_ Y_;refine MC ?_;refine Uh 8 ?_;refine Ur 9 ?_;refine Fe ?_;intro hHeld;refine Um ?_
  go_end0
  have SR:W2.ownsRow 0 79 2 (.slice p2 (n+1) c2) (v::f.st).length (vcs (v::f.st).reverse):=by
   rw[Xf,MV,ZI,<- HN.o.2];exact hown2
  have hC2:Vt w W2 (λk=>d.sv.ownBlock=some k):=⟨hg2.os.trans (by rw[hW3];exact Hp.os),hg2.tape.trans (by rw[hW3];exact Hp.tape),hg2.output.trans (by rw[hW3];exact Hp.output),by have:=hg2.size;omega,λk hk hn=>(O' k VH (by rw[HN.o.1];exact hn)).trans (Hp.block k hk (λe=>e))⟩
  refine⟨rfl,_,HK.o.2.stack HK.o.1 _ _ hC2 SR (λk e=>?_) (λk e=>?_)⟩
  case' refine_2=>
   rcases hbl with e1|e1
   . left;rw[<- HN.o.1,<- e1];exact e
   . right;rw[e1]at e;injection e with e;omega
  rcases hbl with e1|e1
  . exact Kh k (by rw[<- e1];exact e)
  . rw[e1]at e;injection e with e;have:=HK.o.2.zl;exact⟨Zt λe2=>by have:=HK.o.1.lt k e2;omega,VH⟩
theorem Hr {z:Nat}{K:U0}{fb:Nat}{d:RU}{v:Vl}{r:List Vl}(hk:RK w m K)(h:SX z w K fb {f with st:=v::r} d) (hs:r.length<=1000):
 Calls prog 139 #[VG fb] w λe w'=>e=.returned v.val/\∃sv,U5 z fb w w' m K d.sv {f with st:=r} {d with sv:=sv}:=by
 have HK:Hid (RK w m K/\SX z w K fb {f with st:=v::r} d):=⟨hk,h⟩
 have f5:=h.f5;have hfl:=h.lt;have hfz:=h.Vb.free 5;have hst:=h.st;simp only[ZI,Xf,MV]at hst
 obtain⟨g,cap,hv⟩:∃g cap,d.sv=.slice (some (VJ g 0)) (r.length+1) cap:=by
  rcases hst.2 with⟨_,e⟩|⟨g,cap,cur,e,_⟩
  . omega
  . exact⟨g,cap,e⟩
 obtain⟨n,hn⟩:∃n,n=r.length:=Vx;have hvl:(vcs r.reverse).length=n*2:=by rw[Kr,X9,hn]
 rw[hv,<- hn]at hst;have Lx:=ownsRow_pop hvl hst
 have s0:w.cell? (VJ g (n*2))=some (.bool v.obj):=by
  rw[hst.cellAt (n*2) VH,ZP VH,hvl];simp[vcs]
 have s0:w.cell? (VJ g (n*2+1))=some (VI v.n):=by
  rw[hst.cellAt (n*2+1) VH,ZP VH,hvl];simp[vcs]
 have hgl:=(hst.lt g rfl).2;rw[hv,<- hn]at f5
 have hcap:n+1<=cap:=by
  rcases hst.2 with⟨e,_⟩|⟨g',cap',cur,e,_,_,hc,_⟩
  . cases e
  . injection e with _ _ e;omega
 rw[<- hn]at hs
 have HN:Hid (d.sv=.slice (some (VJ g 0)) (n+1) cap/\n=r.length/\w.ownsRow 0 79 2 (.slice (some (VJ g 0)) n cap) n (vcs r.reverse)):=⟨by rw[hv,hn],hn,Lx⟩
 clear h hk hn hst hv Lx hvl;unfold Vl.val;go_enter func139,ntmps139;go_wp2_with fail;have hz:=UN w (VJ fb 5) (.slice (some (VJ g 0)) n cap);have hp:=HK.o.2.stack HK.o.1 r (.slice (some (VJ g 0)) n cap) (Vt.refl w _) (by rw[<- HN.o.2.1];exact HN.o.2.2) (λk e=>HK.o.2.gs k (by rw[HN.o.1];exact e)) (λk e=>.inl (by rw[HN.o.1];exact e));refine ZQ (RI (z:=w.heap.size) results139 (.bool v.obj) (VI v.n) rfl ?_ ?_) rfl ⟨rfl,_,hp.below (J5 _ _ _)⟩
 all_goals
  refine(Z9 (a:=(VJ w.heap.size _)) (ZV _ _ _ (by rw[ZJ,hz];exact XA _))).trans ?_;exact Ug _ _ _ _ _ hz.symm
theorem ajn {K:U0}(h:RK w m K)(s sel:ByteArray):
 Calls prog 60 #[VG K.b,.string s,.string sel] w λe w'=>e=.returned (VI (m.drop s sel).1)/\SG w m K (m.drop s sel).2 w':=by
 have hok:=(yw h.ok s sel).1;have h1:=h.class s;have HR:=UQ (SG.refl h)
 cases hc:m.cls s with
 | none=>
  have hdr:m.drop s sel=(2,m):=by unfold Im.drop;rw[hc]
  rw[hdr];rw[hc]at h1;simp only[Qh]at h1;clear h hok hdr;go_enter func60,ntmps60;go_wp2_with fail;refine h1.mono ?_;rintro e w' ⟨rfl,rfl⟩;go_wp2
  go_ret
  exact O5
 | some c=>
  obtain⟨k,hk,_⟩:=RJ hc;have h2:=h.agJ hk sel;have ho:=BA (k:=k) (sel:=sel)
  cases hw:k.own sel with
  | none=>
   have hdr:m.drop s sel=(4,m):=agU;rw[hdr];rw[hc]at h1;rw[hw]at ho;have ho0:=VY.1 λe=>alx;simp only[Qh]at h1;clear h hok hdr ho;go_enter func60,ntmps60;go_wp2_with fail;refine h1.mono ?_;rintro e w' ⟨rfl,rfl⟩;go_wp2_with fail;refine h2.mono ?_;rintro e w' ⟨rfl,rfl⟩;go_wp2
   go_ret
   exact O5
  | some ws=>
   have hdr:m.drop s sel=(0,m.UY c (·.drop sel)):=agU;rw[hdr]at hok ⊢;rw[hw]at ho;refine(l9 h.ok h.im h.rel hk (LD h.ok c k hk) s sel hc (ho.2 rfl)).mono ?_;rintro e w' ⟨rfl,W,v,g,Zs,xs,I6,rfl,hb,hown,hrow⟩;exact⟨rfl,h.Om hk (·.drop sel) (k.drop sel).ms rfl hok I6 hb hown hrow⟩
theorem acI (l:List (Kn.W×Nat))(x:Kn.W×Nat):greatest (l++[x])=if x.1.k=103\/x.1.k=112 then max (greatest l) (x.1.n.toNat+1) else greatest l:=by
 unfold greatest;rw[Wy];rfl
theorem cZ {p:Option Addr}{g cap:Nat}{ws:List (Kn.W×Nat)}(hw:pG w p g ws)(hl:ws.length<=40)(hn:∀(i:Nat) (x:Kn.W×Nat),ws[i]?=some x->(x.1.k=103\/x.1.k=112)->0<=x.1.n/\x.1.n<10)(o_:∀(i:Nat) (x:Kn.W×Nat),ws[i]?=some x->x.1.k<256):
 Calls prog 102 #[.slice p ws.length cap] w λe w'=>e=.returned (VI (greatest ws:Nat))/\w'=w:=by
 have HW:Hid (pG w p g ws/\(∀(i:Nat) (x:Kn.W×Nat),ws[i]?=some x->(x.1.k=103\/x.1.k=112)->0<=x.1.n/\x.1.n<10)/\(∀(i:Nat) (x:Kn.W×Nat),ws[i]?=some x->x.1.k<256)):=⟨hw,hn,o_⟩
 obtain⟨n,hnn⟩:∃n,n=ws.length:=Vx;have HN:Hid _:=hnn;rw[<- hnn]at hl ⊢;clear hw hn o_ hnn;go_enter func102,ntmps102;go_wp2
 go_loopw [3,4] (λnv i wr=>∃j a:Nat,i=VI j/\nv=VI a/\j<=n/\a<=10/\a=greatest (ws.take j)/\wr=w) (λ_ i _=>n-(intOf i).toNat)
 case atStart=>exact⟨0,0,rfl,rfl,VH,VH,rfl,rfl⟩
 case round=>
  obtain⟨j,a,rfl,rfl,hj,ha,hag,rfl⟩:=hrel;have HA:Hid _:=hag;clear hag;by_cases hjn:j<n
  . obtain⟨x,hx⟩:∃x,ws[j]?=some x:=⟨_,Z8 agI⟩
    obtain rfl:p=some (VJ g 0):=HW.o.1.head aeV;have d0:=HW.o.1.c0 j x hx;have d1:=HW.o.1.c1 j x hx;have o_:=HW.o.2.2 j x hx;have F4:=HW.o.2.1 j x hx;have htk:ws.take (j+1)=ws.take j++[x]:=by rw[Yc,hx];rfl
    have HG:Hid (greatest (ws.take (j+1))=if x.1.k=103\/x.1.k=112 then max a (x.1.n.toNat+1) else a):=by
     have hx1:greatest (ws.take (j+1))=if x.1.k=103\/x.1.k=112 then max a (x.1.n.toNat+1) else a:=by rw[htk,acI,HA.o]
     exact hx1
    obtain⟨xk,hxk⟩:∃xk,xk=x.1.k:=Vx;obtain⟨xn,vp⟩:∃xn,xn=x.1.n:=Vx;rw[<- hxk]at d0 o_ HG F4;rw[<- vp]at d1 HG F4;have FE:(j:Int)<(n:Int):=VH;clear hx htk hxk vp;by_cases E6:xk=103\/xk=112
    . obtain⟨h0,h0⟩:=F4 E6;by_cases hge:(a:Int)<=xn
      . have HR:Hid ((xn.toNat+1:Nat)=greatest (ws.take (j+1))/\xn+1=((xn.toNat+1:Nat):Int)):=by
         have hx1:(xn.toNat+1:Nat)=greatest (ws.take (j+1))/\xn+1=((xn.toNat+1:Nat):Int):=⟨by rw[HG.o,ZU E6];omega,VH⟩
         exact hx1
        rcases E6 with rfl|rfl
        . go_wp2
          go_roundw
          case rel=>exact⟨j+1,xn.toNat+1,Uu,by rw[<- HR.o.2],VH,VH,HR.o.1,sK⟩
          case measure=>simp[intOf]<;>omega
        . go_wp2
          go_roundw
          case rel=>exact⟨j+1,xn.toNat+1,Uu,by rw[<- HR.o.2],VH,VH,HR.o.1,sK⟩
          case measure=>simp[intOf]<;>omega
      . have HR:Hid (a=greatest (ws.take (j+1))):=by
         have hx1:a=greatest (ws.take (j+1)):=by rw[HG.o,ZU E6];omega
         exact hx1
        rcases E6 with rfl|rfl
        . go_wp2
          go_roundw
          case rel=>exact adS
          case measure=>simp[intOf]<;>omega
        . go_wp2
          go_roundw
          case rel=>exact adS
          case measure=>simp[intOf]<;>omega
    . have HR:Hid (a=greatest (ws.take (j+1))):=by
       have hx1:a=greatest (ws.take (j+1)):=by rw[HG.o,ZX E6]
       exact hx1
      have n1:¬(xk:Int)=103:=λe=>E6 (.inl VH);have n1:¬(xk:Int)=112:=λe=>E6 (.inr VH);clear F4 E6;go_wp2
      go_roundw
      case rel=>exact adS
      case measure=>simp[intOf]<;>omega
  . obtain rfl:j=n:=by omega
    have HR:Hid (greatest ws=a):=by
     have hx1:greatest ws=a:=by rw[HA.o,HN.o,Yv]
     exact hx1
    go_wp2
    go_ret
    exact⟨jS,rfl⟩
def uD (g:SN)(fs:List Fr)(v:Vl)(m':Im)(K':U0):Prop:=(K'.en=0/\To g (QJ m' K'.fu v fs))\/(K'.en≠0/\To g (.stop m' K'.en))
def lJ (w:World)(m:Im)(K:U0)(g:SN)(fs:List Fr)(e:Ending)(w':World):Prop:=∃v m' K',e=.returned (Vl.val v)/\Vu w w' m K m' K'/\K'.fu<=K.fu/\uD g fs v m' K'
def FQ (d:Nat):Prop:=∀(w:World) (m:Im) (K:U0) (fs:List Fr) (to:Vl) (C_:Option Nat) (sel:ByteArray) (av:Value) (args:List Vl) (ab:Nat),RK w m K->K.en=0->K.fu<=3000->fs.length=d->(∀g∈fs,Rk m 1 g)->TF m to->(∀v∈args,TF m v)->selector (bl sel)=true->args.length=U6 (bl sel)->(∀c,C_=some c->c<m.kl.length/\m.tot c<=m.width to)->UH w av args ab->(args≠[]->K.lab ab=.no/\ab<w.heap.size)->
 Calls prog 56 #[VG K.b,to.val,VI (Qh C_),.string sel,av,VI (d:Nat)] w (lJ w m K (m.send K.fu C_ to sel args fs) fs)
def apK (z fb:Nat)(g:SN)(fs:List Fr)(w':World)(m':Im)(K':U0):Prop:=(K'.en=0/\∃f' d',SX z w' K' fb f' d'/\To g (.on m' K'.fu (f'::fs)))\/(K'.en≠0/\To g (.stop m' K'.en))
def UZ (z fb:Nat)(w:World)(K:U0)(g:SN)(fs:List Fr)(e:Ending)(w':World):Prop:=∃m' K',e=.returned (.tuple #[])/\RK w' m' K'/\Pm z fb w w' K K'/\K'.fu<=K.fu/\apK z fb g fs w' m' K'
def aoV (d:Nat):Prop:=∀(w:World) (m:Im) (K:U0) (fb:Nat) (f:Fr) (fs:List Fr) (dd:RU),RK w m K->K.en=0->K.fu<=3000->SX w.heap.size w K fb f dd->(SN.on m K.fu (f::fs)).Ok->fs.length+1=d->
 Calls prog 97 #[VG K.b,VG fb,VI (d:Nat)] w λe w'=>∃v m' K',e=.returned (Vl.val v)/\RK w' m' K'/\Pm w.heap.size fb w w' K K'/\K'.fu<=K.fu/\uD (.on m K.fu (f::fs)) fs v m' K'
theorem uQ (m:Im)(n:Nat)(sel:ByteArray):∀f c,Im.up {m with looks:=n} sel f c=m.up sel f c
 | 0,_=>rfl
 | _+1,none=>rfl
 | f+1,some c=>by
  show (match m.own c sel with
   | some ws=>some (c,ws)
   | none=>Im.up {m with looks:=n} sel f (m.kl[c]?.bind (·.above)))=(match m.own c sel with
   | some ws=>some (c,ws)
   | none=>m.up sel f (m.kl[c]?.bind (·.above)))
  rw[uQ m n sel f]
theorem FV (m:Im)(n:Nat)(sel:ByteArray)(c:Option Nat):Im.find {m with looks:=n} sel c=m.find sel c:=uQ m n sel _ c
theorem RK.ahr {K:U0}(h:RK w m K)(c:Option Nat)(hc:∀x,c=some x->x<m.kl.length)(sel:ByteArray):Calls prog 95 #[VG K.b,VI (Qh c),.string sel] w λe w'=>e=.returned (VI (Qh ((m.find sel c).map (·.1))))/\w'=w:=agk h.ok h.im h.rel c hc sel (LD h.ok)
theorem RK.found {K:U0}(h:RK w m K){c:Nat}{sel:ByteArray}{ws:List (Kn.W×Nat)}(ho:m.own c sel=some ws):∃(k:Kl) (i:Nat) (g Zs mg RM:Nat) (q:Option Addr) (hh cc:Nat),m.kl[c]?=some k/\A8 k.ms sel=(i:Nat)/\i<k.ms.length/\K.vc=.slice (some (VJ g 0)) K.cl.length Zs/\g<w.heap.size/\w.cell? (VJ g (c*4+3))=some (.slice (some (VJ mg 0)) k.ms.length RM)/\mg<w.heap.size/\w.cell? (VJ mg (i*2+1))=some (.slice q ws.length cc)/\w.cell? (VJ mg (i*2))=some (.string sel)/\pG w q hh ws/\(1<=ws.length->K.Q hh)/\c<K.cl.length:=by
 obtain⟨k,x,hk,hx,hxs,hxw⟩:=Oz ho;have hc:=(Z7.1 hk).1;obtain⟨g,Zs,hv,hat⟩:=h.vc_
 obtain⟨y,hy⟩:∃y,K.cl[c]?=some y:=⟨_,Z8 (by rw[h.rel.len];exact hc)⟩
 obtain⟨_,_,_,mp,RM,hmv,R2⟩:=h.rel.rel c k y hk hy;have c3:=hat.c3 c y hy;rw[lq hk]at ho;unfold Kl.own at ho
 cases hf:k.ms.find? (λx=>x.sel==sel) with
 | none=>rw[hf]at ho;cases ho
 | some u=>
  rw[hf]at ho;simp at ho
  cases hi:k.ms.findIdx? (λx=>x.sel==sel) with
  | none=>
   have:=YI.1 hi u (Xw hf);have h2:=Xr hf;rw[h2]at this;cases this
  | some i=>
   obtain⟨hil,hip,hib⟩:=YZ.1 hi
   have hiu:k.ms[i]?=some u:=by
    have e1:=List.find?_eq_some_iff_getElem.1 hf;obtain⟨_,j,hj,dv,hjb⟩:=e1
    have:i=j:=by
     rcases Xg i j with e|e|e
     . have:=hjb i e;rw[hip]at this;cases this
     . exact e
     . have h2:=hib j e;rw[dv]at h2;have h4:=Xr hf;exact absurd h4 h2
    subst this;rw[Z8 hj,dv]
   have dy:u.sel=sel:=by
    have h2:=Xr hf;exact(SK _ _).1 h2
   obtain⟨mg,rfl,hQ,hlt,hget⟩:=R2 VH;obtain⟨d0,q,hh,cc,d1,d2,d3⟩:=hget i u hiu;rw[hmv]at c3;rw[ho]at d1 d2 d3;rw[dy]at d0;refine⟨k,i,g,Zs,mg,RM,q,hh,cc,hk,?_,hil,hv,hat.lt (by have:=h.rel.len;omega),c3,hlt,d1,d0,d2,d3,by rw[h.rel.len];exact hc⟩;unfold A8;rw[hi]
theorem aas {ws:List (Kn.W×Nat)}{args slots:Nat}(h:Lp ws args slots)(h10:slots<=10):∀(i:Nat) (x:Kn.W×Nat),ws[i]?=some x->(x.1.k=103\/x.1.k=112)->0<=x.1.n/\x.1.n<10:=λi x hx hk=>by
 have hlt:=(Z7.1 hx).1;have hw:EG ws i=x.1:=ql;have hn:=h.num i hlt;unfold SC TG at hn;rw[hw]at hn;have h1:=VY.1 λe=>hn (.inr ⟨hk,e⟩);have h0:=(h.shp i x hx).low (by rcases hk with e|e<;>simp[e]);omega
theorem jP {ws:List (Kn.W×Nat)}{args slots:Nat}(h:Lp ws args slots):∀(i:Nat) (x:Kn.W×Nat),ws[i]?=some x->x.1.k<256:=λi x hx=>by
 have:=(h.fine i x hx).kind;simp only[kinds,ZM,Zx,YE]at this;omega
theorem aiE {K:U0}(h:RK w m K)(s sel to:ByteArray):
 Calls prog 62 #[VG K.b,.string s,.string sel,.string to] w λe w'=>e=.returned (VI (m.copy s sel to).1)/\SG w m K (m.copy s sel to).2 w':=by
 have hok:=(xC h.ok s sel to).1;have h1:=h.class s;have h2:=h.class to;have HH:Hid _:=h;have HR:Hid (SG w m K m w):=SG.refl h;obtain⟨r,hdr⟩:∃r,m.copy s sel to=r:=Vx;rw[hdr]at hok ⊢;unfold Im.copy at hdr
 cases hc:m.cls s with
 | none=>
  rw[hc]at hdr h1;simp only at hdr;subst hdr;simp only[Qh]at h1;obtain⟨tn,htn⟩:∃tn,tn=Qh (m.cls to):=Vx;rw[<- htn]at h2;clear h hok htn;go_enter func62,ntmps62;go_wp2_with fail;refine h1.mono ?_;rintro e w' ⟨rfl,rfl⟩;go_wp2_with fail;refine h2.mono ?_;rintro e w' ⟨rfl,rfl⟩;go_wp2
  go_ret
  exact O5
 | some c=>
  rw[hc]at hdr h1;simp only[Qh]at h1
  cases ht2:m.cls to with
  | none=>
   rw[ht2]at hdr h2;simp only at hdr;subst hdr;simp only[Qh]at h2;clear h hok;go_enter func62,ntmps62;go_wp2_with fail;refine h1.mono ?_;rintro e w' ⟨rfl,rfl⟩;go_wp2_with fail;refine h2.mono ?_;rintro e w' ⟨rfl,rfl⟩;go_wp2
   go_ret
   exact O5
  | some t=>
   rw[ht2]at hdr h2;simp only[Qh]at h2;simp only at hdr;obtain⟨k,hk,_⟩:=RJ hc;have h3:=h.agJ hk sel;have ho:=BA (k:=k) (sel:=sel);rw[<- lq hk]at ho
   cases hw:m.own c sel with
   | none=>
    rw[hw]at hdr ho;simp only at hdr;subst hdr;have ho0:A8 k.ms sel<0:=VY.1 λe=>alx;clear h hok ho;go_enter func62,ntmps62;go_wp2_with fail;refine h1.mono ?_;rintro e w' ⟨rfl,rfl⟩;go_wp2_with fail;refine h2.mono ?_;rintro e w' ⟨rfl,rfl⟩;go_wp2_with fail;refine h3.mono ?_;rintro e w' ⟨rfl,rfl⟩;go_wp2
    go_ret
    exact O5
   | some ws=>
    rw[hw]at hdr;simp only at hdr;obtain⟨k',i,g,Zs,mg,RM,q,hh,cc,hk',hoi,hil,hv,hg,c3,r9,d1,d1,NF,xt,hcl⟩:=h.found hw;rw[hk]at hk';injection hk' with hk';subst hk';rw[hoi]at h3;have H_:=IZ h.ok hw;have htl:=Cm ht2;have Kj:=JJ h.ok c;have Lw:=LD h.ok c k hk;have L4:(K.cl.length:Int)<=12:=by rw[h.rel.len];have:=h.ok.few;omega
    refine adV ?_;intro Pu x6 Vn;have c0:=h.c0;rw[hv]at c0;have hlt:=h.Vb.lt;obtain⟨nm,E_⟩:∃nm,nm=k.ms.length:=Vx;rw[<- E_]at c3 x6 Vn;obtain⟨W,hW⟩:∃W,W=w.alloc (.cells #[.string sel,.slice q ws.length cc] 180):=Vx;have hB:Below w.heap.size w W:=by rw[hW];exact(ZR _ w).alloc UM _
    have hst:=Vu.below h hB;have x0:W.cell? (VJ w.heap.size 0)=some (.string sel):=by rw[hW];exact Ug _ _ _ _ _ rfl
    have x0:W.cell? (VJ w.heap.size 1)=some (.slice q ws.length cc):=by rw[hW];exact Ug _ _ _ _ _ rfl
    have hwl:w.heap.size<W.heap.size:=by rw[hW];simp
    have xN:=NF.below UM hB;have hgr:=cZ (cap:=cc) xN H_.2.len (aas H_.2 Kj) (jP H_.2);have hsl:=hst.rk.slots htl
    obtain⟨kt,o6⟩:∃kt,m.kl[t]?=some kt:=⟨_,Z8 htl⟩
    have hput:=abb hst.rk.ok hst.rk.im hst.rk.rel o6 (LD h.ok t kt o6) ⟨sel,ws⟩ q cc ⟨rfl,q,hh,cc,rfl,xN,xt⟩
    have HS:Hid (Vu w W m K m K/\m.kl[t]?=some kt):=⟨hst,o6⟩
    have j3:=JJ h.ok t;obtain⟨gr,ur⟩:∃gr,gr=greatest ws:=Vx;obtain⟨tt,eb⟩:∃tt,tt=m.tot t:=Vx;rw[<- ur]at hgr hdr;rw[<- eb]at hsl j3 hdr;simp only at hput;clear h hst NF xN hB H_ o6 hw ho hcl Lw ur eb;by_cases hgt:tt<gr
    . rw[ZU hgt]at hdr;subst hdr;clear hok hput;go_enter func62,ntmps62;go_wp2_with fail;refine h1.mono ?_;refine Sl ?_;go_wp2_with fail;refine h2.mono ?_;refine Sl ?_;go_wp2_with fail;refine h3.mono ?_;refine Sl ?_;go_wp2_with fail;rw[<- hW];clear hW;refine hgr.mono ?_;refine Sl ?_;go_wp2_with fail;refine CB ?_;go_wp2
      go_ret
      exact⟨rfl,K,HS.o.1,rfl,rfl⟩
    . rw[ZX hgt]at hdr;subst hdr;have HO:Hid _:=hok;clear hok;go_enter func62,ntmps62;go_wp2_with fail;refine h1.mono ?_;refine Sl ?_;go_wp2_with fail;refine h2.mono ?_;refine Sl ?_;go_wp2_with fail;refine h3.mono ?_;refine Sl ?_;go_wp2_with fail;rw[<- hW];clear hW;refine hgr.mono ?_;refine Sl ?_;go_wp2_with fail;refine CB ?_;go_wp2_with fail;refine hput.mono ?_;rintro e w' ⟨rfl,W2,v,g2,vy,xs,I6,rfl,hb,hown,hrow⟩;obtain⟨K',hs2,hf,he⟩:=HS.o.1.rk.Om HS.o.2 (·.put ⟨sel,ws⟩) _ rfl HO.o I6 hb hown hrow
      have HX:Hid (SG w m K (m.UY t (·.put ⟨sel,ws⟩)) (W2.setCell (VJ g2 (t*4+3)) v)):=⟨K',HS.o.1.trans hs2,hf,he⟩
      clear I6 hb hown hrow hs2 hf he hput;go_wp2
      go_ret
      exact⟨rfl,HX.o⟩
theorem ait {K:U0}(h:RK w m K)(s t:ByteArray):
 Calls prog 61 #[VG K.b,.string s,.string t] w λe w'=>e=.returned (VI (m.move s t).1)/\SG w m K (m.move s t).2 w':=by
 have hok:=(xA h.ok s t).1;have h1:=h.class s;have h2:=h.class t;have HH:Hid _:=h;have HR:=UQ (SG.refl h);obtain⟨r,hdr⟩:∃r,m.move s t=r:=Vx;rw[hdr]at hok ⊢;unfold Im.move at hdr;by_cases hbad:∃c a,m.cls s=some c/\m.cls t=some a/\2<=c
 . obtain⟨c,a,hc,ha,hc2⟩:=hbad;rw[hc,ha]at hdr;simp only at hdr;rw[ZX VH]at hdr;rw[hc]at h1;rw[ha]at h2;simp only[Qh]at h1 h2;obtain⟨k,hk,_⟩:=RJ hc;have hcl:=Cm hc;have hal:=Cm ha;obtain⟨g,Zs,hv,hat⟩:=h.vc_
   obtain⟨y,hy⟩:∃y,K.cl[c]?=some y:=⟨_,Z8 (by rw[h.rel.len];exact hcl)⟩
   obtain⟨_,hab,hown,_⟩:=h.rel.rel c k y hk hy;obtain⟨u,hu,hul,Ao⟩:=h.ok.up c k hk VH;rw[hu]at hown;simp only[ZG,YX]at hown;have htk:m.tot c=k.tot:=by unfold Im.tot;rw[hk];rfl
   rw[<- htk]at hown Ao;have hup:(m.kl[c]?.bind (·.above)).getD 0=u:=by rw[hk];simp[hu]
   rw[hup]at hdr;have c0:=h.c0;rw[hv]at c0;have hlt:=h.Vb.lt;have hg:=hat.lt (by rw[h.rel.len];omega);have o1:=hat.c1 c y hy;have o1:=hat.c2 c y hy;rw[hown]at o1;have hown2:=h.own;rw[hv]at hown2;have gf:=hown2.frozenAt (c*4+1);clear hown2;obtain⟨rk,hr1,hr2⟩:=h.ok.rank
   have vR:Hid (als w (some (VJ g 0)) g K.cl/\Ri w m K.Q K.cl/\U3 m):=⟨hat,h.rel,h.ok⟩
   have Pu:(c:Int)<(K.cl.length:Int):=by rw[h.rel.len];omega
   have HL:=UQ h.rel.len;have hD:=Vu.below h (ZR _ w).drew;have hsa:=hD.rk.slots hal;have hsc:=hD.rk.slots hcl;have ta:=JJ h.ok a;have tc:=JJ h.ok c
   have HX:Hid (m.kl[c]?=some k/\K.vc=.slice (some (VJ g 0)) K.cl.length Zs/\a<m.kl.length/\(m.kl[c]?.bind (·.above)).getD 0=u):=⟨hk,hv,hal,hup⟩
   obtain⟨na,hna⟩:∃x,x=m.tot a:=Vx;obtain⟨nc,hnc⟩:∃x,x=m.tot c:=Vx;obtain⟨nu,lE⟩:∃x,x=m.tot u:=Vx;rw[<- hna]at hsa ta hdr;rw[<- hnc]at hsc tc Ao o1;rw[<- lE]at hdr Ao o1
   have HT:Hid (na=m.tot a/\nu=m.tot u):=⟨hna,lE⟩
   clear hnc
   obtain⟨ow,rfl⟩:∃ow,nc=nu+ow:=⟨nc-nu,VH⟩
   have e2:(((nu+ow:Nat):Int)-(nu:Nat))=(ow:Nat):=VH;rw[e2]at o1;rw[XK]at hsc;clear e2;have HD:Hid _:=hdr;have HO:Hid _:=hok;clear h hat hk hdr hok hna lE hD hab hup hu hown htk hy hul hv;go_enter func61,ntmps61;go_wp2_with fail;refine h1.mono ?_;refine Sl ?_;go_wp2_with fail;refine h2.mono ?_;refine Sl ?_;go_wp2_with fail
   go_loopg [9] (m.kl.length+1) (λgk cv wr=>∃d:Option Nat,cv=VI (Qh d)/\(∀x,d=some x->x<m.kl.length)/\m.under c gk d=m.under c (m.kl.length+1) (some a)/\(∀x,d=some x->rk x<gk)/\wr=w)
   case atStart=>exact⟨some a,rfl,λx e=>by injection e with e;subst e;exact HX.o.2.2.1,rfl,λx _=>agw,rfl⟩
   case round=>
    obtain⟨d,rfl,hd,hun,Pc,rfl⟩:=hrel
    cases d with
    | none=>
     have hfn:m.under c (m.kl.length+1) (some a)=false:=by rw[<- hun];cases gk<;>rfl
     have hD:=HD.o;rw[ZX (by rw[hfn];simp)]at hD;simp only[Qh];clear hun Pc hd hfn HD;by_cases hne:na=nu
     . rw[ZX (by simp[hne])]at hD;have RT:=UQ hD.symm;subst hne;have hwr:IntKind.i64.wrap ((na:Int)+(ow:Int))=(na:Int)+(ow:Int):=Ar;clear hD;go_wp2_with fail;refine ai8 ?_;intro hHeld Y_ Z_;rintro e w3 ⟨rfl,rfl⟩
       try go_wp2_with fail
       refine Z_.go λhHeld=>?_;clear Z_ Y_;refine La ?_;refine Ul 14 λY_ Z_=>?_;go_simp;refine hsc.mono ?_;rintro e w3 ⟨rfl,rfl⟩
       try go_wp2_with fail
       refine Z_.go λhHeld=>?_;clear Z_ Y_
       try refine UE ?_
       refine Ur 15 ?_;refine Nr ?_
       try simp only[hwr]
       go_wp2
       go_ret
       have i_:=HO.o;rw[RT.o]at i_ ⊢;obtain⟨K',hst,hf,he⟩:=HH.o.akw HX.o.1 HX.o.2.2.1 VH (by rw[HX.o.2.2.2,<- HT.o.1,<- HT.o.2]) i_ HX.o.2.1;exact⟨rfl,K',hst.trans (Vu.below hst.rk (ZR _ _).drew),hf,he⟩
     . rw[ZU (by simp[hne])]at hD;subst hD;have hwr:IntKind.i64.wrap ((na:Int)+(ow:Int))=(na:Int)+(ow:Int):=Ar;have ya:¬(na:Int)+(ow:Int)=(nu:Int)+(ow:Int):=VH;go_wp2_with fail;refine ai8 ?_;intro hHeld Y_ Z_;rintro e w3 ⟨rfl,rfl⟩
       try go_wp2_with fail
       refine Z_.go λhHeld=>?_;clear Z_ Y_;refine La ?_;refine Ul 14 λY_ Z_=>?_;go_simp;refine hsc.mono ?_;rintro e w3 ⟨rfl,rfl⟩
       try go_wp2_with fail
       refine Z_.go λhHeld=>?_;clear Z_ Y_
       try refine UE ?_
       refine Ur 15 ?_;refine Nr ?_
       try simp only[hwr]
       go_wp2
       go_ret
       exact⟨rfl,SG.below HH.o (ZR _ _).drew⟩
    | some x=>
     have hx:=hd x rfl
     obtain⟨gj,rfl⟩:∃gj,gk=gj+1:=⟨gk-1,by have:=Pc x rfl;omega⟩
     obtain⟨kx,Bi⟩:∃kx,m.kl[x]?=some kx:=⟨_,Z8 hx⟩
     obtain⟨yx,hyx⟩:∃yx,K.cl[x]?=some yx:=⟨_,Z8 (by rw[HL.o];exact hx)⟩
     have d1:=vR.o.1.c1 x yx hyx;have hab:=(vR.o.2.1.rel x kx yx Bi hyx).2.1;rw[hab]at d1
     have hu:m.under c (gj+1) (some x)=(decide (x=c)||m.under c gj kx.above):=by
      show (decide (x=c)||m.under c gj (m.kl[x]?.bind (·.above)))=_;rw[Bi];rfl
     rw[hu]at hun;have hxi:(x:Int)<(K.cl.length:Int):=by rw[HL.o];omega
     have HK:Hid (m.kl[x]?=some kx/\rk x<gj+1):=⟨Bi,Pc x rfl⟩
     simp only[Qh];clear hd Pc Bi hyx hab hu;by_cases fN:x=c
     . subst fN;have hD:=HD.o;rw[ZU (by rw[<- hun];simp)]at hD;subst hD;clear hun;go_wp2
       go_ret
       exact O5
     . have aqh:¬(x:Int)=(c:Int):=by omega
       have HU:Hid (m.under c gj kx.above=m.under c (m.kl.length+1) (some a)):=by
        have hx1:m.under c gj kx.above=m.under c (m.kl.length+1) (some a):=by rw[<- hun,XQ fN];rfl
        exact hx1
       clear hun;go_wp2
       go_roundg gj
       case measure=>omega
       case rel=>
        refine⟨kx.above,?_,λu hu=>?_,HU.o,λu hu=>?_,?_⟩
        . cases kx.above<;>rfl
        . by_cases h0:x=0
          . obtain⟨ms,hm0⟩:=vR.o.2.2.any;have:=HK.o.1;rw[h0,hm0]at this;injection this with this;rw[<- this]at hu;cases hu
          . obtain⟨a',ha',hal,_⟩:=vR.o.2.2.up x kx HK.o.1 h0;rw[hu]at ha';exact acv
        . have:=hr2 x kx u HK.o.1 hu;have:=HK.o.2;omega
        . first|rfl|trivial
 . have hr2:r=(2,m):=by
    rw[<- hdr]
    cases hc:m.cls s with
    | none=>rfl
    | some c=>
     cases ha:m.cls t with
     | none=>rfl
     | some a=>
      have:=Nat.not_le.1 λe=>hbad ⟨c,a,hc,ha,e⟩;simp only;rw[ZU this]
   subst hr2
   have hcc:Qh (m.cls s)<2\/Qh (m.cls t)<0:=by
    cases hc:m.cls s with
    | none=>left;simp[Qh]
    | some c=>
     cases ha:m.cls t with
     | none=>right;simp[Qh]
     | some a=>
      have:=Nat.not_le.1 λe=>hbad ⟨c,a,hc,ha,e⟩;left;simp only[Qh];omega
   obtain⟨n1,Z1⟩:∃x,x=Qh (m.cls s):=Vx;obtain⟨n2,W7⟩:∃x,x=Qh (m.cls t):=Vx;rw[<- Z1]at h1 hcc;rw[<- W7]at h2 hcc;clear h hok hdr hbad Z1 W7;by_cases hlt2:n1<2
   . go_enter func61,ntmps61;go_wp2_with fail;refine h1.mono ?_;rintro e w' ⟨rfl,rfl⟩;go_wp2_with fail;refine h2.mono ?_;rintro e w' ⟨rfl,rfl⟩;go_wp2
     go_ret
     exact O5
   . have hlt3:=hcc.resolve_left hlt2;go_enter func61,ntmps61;go_wp2_with fail;refine h1.mono ?_;rintro e w' ⟨rfl,rfl⟩;go_wp2_with fail;refine h2.mono ?_;rintro e w' ⟨rfl,rfl⟩;go_wp2
     go_ret
     exact O5
theorem ae5 {K:U0}(h:RK w m K)(s sel src:ByteArray)(hs1:sel.size<=maxLen)(hs2:src.size<=maxLen):
 Calls prog 59 #[VG K.b,.string s,.string sel,.string src] w λe w'=>∃(r a:Int) (m':Im),e=.returned (.tuple #[VI r,VI a])/\Ua m s sel src r a m'/\SG w m K m' w':=by
 have h1:=h.class s;have HH:Hid _:=h
 cases hc:m.cls s with
 | none=>
  rw[hc]at h1;simp only[Qh]at h1
  have HM:Hid (Ua m s sel src 2 0 m):=by
   have hx1:Ua m s sel src 2 0 m:=by unfold Ua;rw[hc];exact vg
   exact hx1
  clear h;go_enter func59,ntmps59;go_wp2_with fail;refine h1.mono ?_;rintro e w' ⟨rfl,rfl⟩;go_wp2
  go_ret2
  exact⟨2,0,m,rfl,HM.o,SG.refl HH.o⟩
 | some c=>
  rw[hc]at h1;simp only[Qh]at h1;obtain⟨k,hk,_⟩:=RJ hc;have hcl:=Cm hc;have hn:=JJ h.ok c;obtain⟨n,hnn⟩:∃n,n=m.tot c:=Vx;rw[<- hnn]at hn
  have HN:Hid (n=m.tot c/\m.kl[c]?=some k/\c<m.kl.length):=⟨hnn,hk,hcl⟩
  have HM:Hid (∀r a,Ti (bl sel) (bl src) n r a->Ua m s sel src r a (if r=0 then m.UY c (·.put ⟨sel,(Vh (bl src)).1⟩) else m)):=by
   have hx1:∀r a,Ti (bl sel) (bl src) n r a->Ua m s sel src r a (if r=0 then m.UY c (·.put ⟨sel,(Vh (bl src)).1⟩) else m):=λr a hr=>by
    unfold Ua;rw[hc];exact⟨by rw[<- hnn];exact hr,rfl⟩
   exact hx1
  clear h hk hnn hcl;go_enter func59,ntmps59;go_wp2_with fail;refine h1.mono ?_;refine Sl ?_;go_wp2_with fail;refine(Pj sel _ hs1).mono ?_;refine Sl ?_;cases U_:selector (bl sel)
  . go_wp2
    go_ret2
    exact⟨1,0,m,rfl,HM.o 1 0 (.inl ⟨U_,rfl,rfl⟩),SG.refl HH.o⟩
  . by_cases Rc:120<src.size
    . go_wp2_with fail;refine(oC src _ Rc hs2).mono ?_;rintro e w' ⟨rfl,rfl⟩;go_wp2
      go_ret2
      exact⟨5,0,m,rfl,HM.o 5 0 (.inr (.inl ⟨U_,by rw[VB];exact Rc,rfl,rfl⟩)),SG.refl HH.o⟩
    . go_wp2_with fail;refine(dW src _ VH).mono ?_;rintro e w1 ⟨v,rfl,hown,hb1⟩;have SM:Hid _:=hb1;rcases zK (bl src) with hw|⟨j,hj,hw⟩
      . rw[hw];have hlts:=(hown hw).lt;obtain⟨p,g,cap,rfl,hat⟩:=acL (hown hw)
        have HG:Hid (1<=(Vh (bl src)).1.length->w.heap.size<=g/\g<w1.heap.size):=by
         have hx1:1<=(Vh (bl src)).1.length->w.heap.size<=g/\g<w1.heap.size:=λe=>hlts g (by rw[hat.head e];rfl);exact hx1
        clear hlts;have HW:Hid _:=hat;have nr:Hid _:=hw;have hwl:=Ic (bl src);have zg:=UQ (Jb (bl src));have fS:=UQ ((by omega:src.size<=120));clear hw hat hown hb1 Rc;obtain⟨ws,hws⟩:∃ws,(Vh (bl src)).1=ws:=Vx;have Al:Hid _:=hws;rw[hws]at HW hwl zg HG;rw[hws];clear hws;obtain⟨q3,q8,Pd,qa⟩:=Nu U_;have hst:=Vu.still HH.o SM.o (λk=>k=g/\1<=ws.length) (λk e=>by rw[e.1];exact HG.o e.2);obtain⟨K1,Sp⟩:∃K1:U0,K1={K with lab:=λk=>if k=g/\1<=ws.length then .still else K.lab k}:=Vx;rw[<- Sp]at hst
        have HS:Hid (Vu w w1 m K m K1/\K1.fu=K.fu/\K1.en=K.en/\K1.b=K.b/\(1<=ws.length->K1.Q g)):=by
         have hx1:Vu w w1 m K m K1/\K1.fu=K.fu/\K1.en=K.en/\K1.b=K.b/\(1<=ws.length->K1.Q g):=⟨hst,by rw[Sp],by rw[Sp],by rw[Sp],λe=>by rw[Sp];exact ZU ⟨rfl,e⟩⟩
         exact hx1
        have hsl:=hst.rk.slots HN.o.2.2;rw[<- HN.o.1,HS.o.2.2.2.1]at hsl;clear Sp hst;go_wp2_with fail;refine(LC sel _ q8 VH Pd).mono ?_;rintro e w1 ⟨rfl,hw⟩;replace hw:=hw.symm;subst hw;obtain⟨ar,har⟩:∃ar,U6 (bl sel)=ar:=Vx;have jz:Hid _:=har;rw[har]at qa;rw[har];clear har q3 q8 Pd;go_wp2_with fail;refine hsl.mono ?_;rintro e w1 ⟨rfl,hw⟩;replace hw:=hw.symm;subst hw;go_wp2_with fail;refine(fits_any ws p g cap ar n _ hwl qa hn HW.o zg.o).mono ?_;rintro e w1 ⟨er,i,rfl,hfit,hb1⟩;have Jx:=UQ hfit;have z_:=Vu.below HS.o.1.rk hb1
        have FA:Hid (Vu w w1 m K m K1/\RK w1 m K1):=⟨HS.o.1.trans z_,z_.rk⟩
        have nk:=UQ (HW.o.below UM hb1)
        have PB:Hid (∀e' a',((∃j x,i=((j:Nat):Int)/\ws[j]?=some x/\e'=er/\a'=((x.2:Nat):Int))\/(i=-1/\e'=0/\a'=0))->Ti (bl sel) (bl src) n e' a'):=by
         have hx1:∀e' a',((∃j x,i=((j:Nat):Int)/\ws[j]?=some x/\e'=er/\a'=((x.2:Nat):Int))\/(i=-1/\e'=0/\a'=0))->Ti (bl sel) (bl src) n e' a':=λe' a' hh=>
          .inr (.inr (.inr ⟨U_,by rw[VB];exact fS.o,nr.o,er,i,by rw[Al.o,jz.o];exact Jx.o,by rw[Al.o];exact hh⟩))
         exact hx1
        clear z_ hsl;rcases sG hfit with rfl|⟨j,hj,rfl⟩
        . clear hfit hb1;have hput:=abb FA.o.2.ok FA.o.2.im FA.o.2.rel HN.o.2.1 (LD FA.o.2.ok c k HN.o.2.1) ⟨sel,ws⟩ p cap ⟨rfl,p,g,cap,rfl,nk.o,HS.o.2.2.2.2⟩;rw[HS.o.2.2.2.1]at hput;simp only at hput;have Vn:=PB.o 0 0 (.inr ⟨by trivial,rfl,rfl⟩);have hres:=HM.o 0 0 Vn;rw[ZU rfl,Al.o]at hres
          have HO:Hid (U3 (m.UY c (·.put ⟨sel,ws⟩))/\Ua m s sel src 0 0 (m.UY c (·.put ⟨sel,ws⟩))):=⟨(jc HH.o.ok hres).1,hres⟩
          clear Vn hres;go_wp2_with fail;refine hput.mono ?_;rintro e w' ⟨rfl,W2,v,g2,vy,xs,I6,rfl,hb,hown,hrow⟩;obtain⟨K',hs2,hf,he⟩:=FA.o.2.Om HN.o.2.1 (·.put ⟨sel,ws⟩) _ rfl HO.o.1 I6 hb hown hrow
          have HX:Hid (SG w m K (m.UY c (·.put ⟨sel,ws⟩)) (W2.setCell (VJ g2 (c*4+3)) v)):=⟨K',FA.o.1.trans hs2,hf.trans HS.o.2.1,he.trans HS.o.2.2.1⟩
          clear I6 hb hown hrow hs2 hf he hput;go_wp2
          go_ret2
          exact⟨0,0,_,rfl,HO.o.2,HX.o⟩
        . clear hfit hb1
          obtain⟨x,hx⟩:∃x,ws[j]?=some x:=⟨_,Z8 hj⟩
          obtain rfl:p=some (VJ g 0):=nk.o.head VH;have d5:=nk.o.c5 j x hx;have HX:Hid _:=hx;have FE:(j:Int)<(ws.length:Int):=VH;clear hx;go_wp2_with fail
          go_quiet (fail)
          go_wp2
          go_ret2
          have Vn:=PB.o er x.2 alD;have hres:=HM.o er x.2 Vn
          have hne:er≠0:=by
           rcases Jx.o with⟨j',_,ea,_,_,h1,h7⟩|⟨_,h6,_⟩
           . by_cases ha:TJ ws ar j'
             . have:=h1 ha;omega
             . have:=h7 ha;omega
           . omega
          rw[ZX hne]at hres;exact⟨er,x.2,m,rfl,hres,K1,FA.o.1.trans (Vu.below FA.o.2 uq),HS.o.2.1,HS.o.2.2.1⟩
      . rw[hw];clear hown;go_wp2
        go_ret2
        exact⟨5,j,m,rfl,HM.o 5 j (.inr (.inr (.inl ⟨U_,G8,by rw[hw];omega,rfl,by rw[hw]⟩))),SG.below HH.o SM.o⟩
def U4 (x:Kn.W×Nat):Array Value:=#[.int .u8 x.1.k,VI x.1.n,.string (VF x.1.sel),.string (VF x.1.a),.string (VF x.1.b),VI (x.2:Nat)]
theorem Qk {z:Nat}{K:U0}{fb:Nat}{d:RU}(hk:RK w m K)(h:SX z w K fb f d)(o:Obj):Off (w.alloc o) K fb d.sv w.heap.size:=
 ⟨Vy,λe=>by have:=h.lt;omega,λe=>by have:=(h.st.lt _ e).2;omega,hk.QF UM⟩
theorem U5.refl {z:Nat}{K:U0}{fb:Nat}{d:RU}(hk:RK w m K)(h:SX z w K fb f d):U5 z fb w w m K d.sv f d:=⟨hk,h,Pm.refl _ _ _ _,λp hp=>⟨hp,rfl⟩⟩
theorem U5.new {z fb:Nat}{K:U0}{sv:Value}{d:RU}(h:U5 z fb w w' m K sv f d)(o:Obj):U5 z fb w (w'.alloc o) m K sv f d:=h.below (UF _ _)
variable {fs : List Fr}
theorem U5.word {z fb:Nat}{K:U0}{sv:Value}{d:RU}{g:SN}(h:U5 z fb w w' m K sv f d)(hen:K.en=0)(hg:g=.on m K.fu (f::fs)):UZ z fb w K g fs (.returned (.tuple #[])) w':=
 ⟨m,K,rfl,h.rk,h.run,ZN _,.inl ⟨hen,f,d,h.fr,by rw[hg];exact To.refl _⟩⟩
theorem UW {z:Nat}{K:U0}{fb:Nat}{d:RU}(hk:RK w m K)(h:SX z w K fb f d)(x:Kn.W×Nat):∃W,W=w.alloc (.cells (U4 x) 188)/\U5 z fb w W m K d.sv f d/\Off W K fb d.sv w.heap.size/\W.heap[w.heap.size]?=some (.cells (U4 x) 188):=
 ⟨_,rfl,(U5.refl hk h).new _,Qk hk h _,(Z4 w _).1⟩
theorem Vp {p:Nat}{a b:Value}{t:TypeId}(h:w.heap[p]?=some (.cells #[a,b] t)):w.cell? (VJ p 0)=some a/\w.cell? (VJ p 1)=some b:=by
 simp only[World.cell?,h];exact KP
theorem akZ {z:Nat}{K:U0}{fb:Nat}{d:RU}(fs:List Fr)(D:Int)(hk:RK w m K)(hen:K.en=0)(h:SX z w K fb f d)(hs:f.st.length<=900)(n:Int)(sl xa xb:List UInt8)(xi:Nat):
 Calls prog 140 #[VG K.b,VG fb,.agg (U4 (⟨110,n,sl,xa,xb⟩,xi)),VI D] w (UZ z fb w K (VA m K.fu ⟨110,n,sl,xa,xb⟩ f fs) fs):=by
 obtain⟨W,hW,hF,hO,hb⟩:=UW hk h (⟨110,n,sl,xa,xb⟩,xi);change W=w.alloc (.cells #[.int .u8 110,VI n,.string (VF sl),.string (VF xa),.string (VF xb),VI (xi:Nat)] 188) at hW;change Calls _ _ #[VG K.b,VG fb,.agg #[.int .u8 110,VI n,.string (VF sl),.string (VF xa),.string (VF xb),VI (xi:Nat)],VI D] _ _;refine NK ?_;intro HH;have HF:Hid (U5 z fb w W m K d.sv f d/\Off W K fb d.sv w.heap.size/\W.heap[w.heap.size]?=some (.cells (U4 (⟨110,n,sl,xa,xb⟩,xi)) 188)):=SH;have hp:=PK hF.rk hF.fr VH ⟨false,n⟩;unfold Vl.val at hp;clear hk h hF hO hb hen;go_enter func140,ntmps140;go_wp2_with fail;refine kS ?_;rintro e w' ⟨rfl,Hd,hF2⟩;have QP:Hid _:=HF.o.1.trans hF2;clear hF2 hp hW;go_wp2
 go_end0
 exact QP.o.word HH.o.2 rfl
theorem aeR {z:Nat}{K:U0}{fb:Nat}{d:RU}(fs:List Fr)(D:Int)(hk:RK w m K)(hen:K.en=0)(h:SX z w K fb f d)(hs:f.st.length<=900)(n:Int)(sl xa xb:List UInt8)(xi:Nat):
 Calls prog 140 #[VG K.b,VG fb,.agg (U4 (⟨109,n,sl,xa,xb⟩,xi)),VI D] w (UZ z fb w K (VA m K.fu ⟨109,n,sl,xa,xb⟩ f fs) fs):=by
 obtain⟨W,hW,hF,hO,hb⟩:=UW hk h (⟨109,n,sl,xa,xb⟩,xi);change W=w.alloc (.cells #[.int .u8 109,VI n,.string (VF sl),.string (VF xa),.string (VF xb),VI (xi:Nat)] 188) at hW;change Calls _ _ #[VG K.b,VG fb,.agg #[.int .u8 109,VI n,.string (VF sl),.string (VF xa),.string (VF xb),VI (xi:Nat)],VI D] _ _;refine NK ?_;intro HH;have HF:Hid (U5 z fb w W m K d.sv f d/\Off W K fb d.sv w.heap.size/\W.heap[w.heap.size]?=some (.cells (U4 (⟨109,n,sl,xa,xb⟩,xi)) 188)):=SH;have hp:=PK hF.rk hF.fr VH f.self;unfold Vl.val at hp;have f2:=h.f2;have f2:=h.f3;have hfl:=h.lt;clear hk h hF hO hb hen;go_enter func140,ntmps140;go_wp2_with fail;refine kS ?_;rintro e w' ⟨rfl,Hd,hF2⟩;have QP:Hid _:=HF.o.1.trans hF2;clear hF2 hp hW;go_wp2
 go_end0
 exact QP.o.word HH.o.2 rfl
theorem akA {z:Nat}{K:U0}{fb:Nat}{d:RU}(fs:List Fr)(D:Int)(hk:RK w m K)(hen:K.en=0)(h:SX z w K fb f d)(hs:f.st.length<=900)(n:Int)(sl xa xb:List UInt8)(xi:Nat)(i:Nat)(hi:n=i)(h3:f.args.length<=3)(v:Vl)(hv:f.args[i]?=some v):
 Calls prog 140 #[VG K.b,VG fb,.agg (U4 (⟨97,n,sl,xa,xb⟩,xi)),VI D] w (UZ z fb w K (VA m K.fu ⟨97,n,sl,xa,xb⟩ f fs) fs):=by
 obtain⟨W,hW,hF,hO,hb⟩:=UW hk h (⟨97,n,sl,xa,xb⟩,xi);change W=w.alloc (.cells #[.int .u8 97,VI n,.string (VF sl),.string (VF xa),.string (VF xb),VI (xi:Nat)] 188) at hW;change Calls _ _ #[VG K.b,VG fb,.agg #[.int .u8 97,VI n,.string (VF sl),.string (VF xa),.string (VF xb),VI (xi:Nat)],VI D] _ _;refine NK ?_;intro HH;have HF:Hid (U5 z fb w W m K d.sv f d/\Off W K fb d.sv w.heap.size/\W.heap[w.heap.size]?=some (.cells (U4 (⟨97,n,sl,xa,xb⟩,xi)) 188)):=SH;have hne:f.args≠[]:=λe=>qN;have hD:=hF.below (ZR _ W).drew;have hp:=PK hD.rk hD.fr VH v;have f4:=hF.fr.f4;have oT:=hF.fr.ga hne;have hzl:=hF.fr.zl;obtain⟨ap,cap,W8,_⟩:=hF.fr.args;have hargs:=hF.fr.args;rw[W8]at hargs f4;obtain⟨o,hap,hget⟩:=KL hargs hne;obtain⟨a0,a1⟩:=hget i v hv;subst hap;have hil:=(Z7.1 hv).1;have aqe:(i:Int)<(f.args.length:Int):=VH;have hal:=ZY oT.2.1 hzl
 have HV:Hid (f.args[i]?=some v/\d.av=.slice (some (VJ d.ab o)) f.args.length cap):=⟨hv,W8⟩
 subst hi;have p1:W.cell? (VJ w.heap.size 1)=some (VI (i:Nat)):=by simp only[World.cell?,hb];rfl
 have HO:Hid (Off W.drew K fb d.sv d.ab/\Off W.drew K fb d.sv w.heap.size/\U5 z fb w W.drew m K d.sv f d):=⟨⟨hal,oT.2.2,λe=>by have:=(hF.fr.gs _ e).2;omega,oT.1⟩,⟨hO.lt,hO.nf,hO.ns,hO.nl⟩,hD⟩
 unfold Vl.val at hp;clear hargs hget oT W8 hil hv hne hD;clear hk h hF hO hb hen;go_enter func140,ntmps140;go_wp2_with fail;rw[<- hW];clear hW;refine Uy ?_;refine ZT (S:=(λw'=>w'.cell? (VJ fb 4)=some (.slice (some (VJ d.ab o)) f.args.length cap)/\w'.cell? (VJ d.ab (o+i*2))=some (.bool v.obj)/\w'.cell? (VJ d.ab (o+i*2+1))=some (VI v.n)/\w'.cell? (VJ w.heap.size 1)=some (VI (i:Nat)))) VE UG (λhHeld=>?_);refine zr1 ?_;refine Uh 7 ?_;refine Ur 8 ?_;refine Ul 9 λY_ Z_=>?_;go_simp;refine hp.mono ?_;rintro e w' ⟨rfl,Hd,hF2⟩;have s4:w'.cell? (VJ fb 4)=some (.slice (some (VJ d.ab o)) f.args.length cap):=hF2.fr.f4.trans (by rw[<- HV.o.2]);have s4:=(Z9 (a:=(VJ d.ab (o+i*2))) (hF2.off _ HO.o.1).2).trans a0;have s4:=(Z9 (a:=(VJ d.ab (o+i*2+1))) (hF2.off _ HO.o.1).2).trans a1;have s4:=(Z9 (a:=(VJ w.heap.size 1)) (hF2.off _ HO.o.2.1).2).trans p1;have QP:Hid _:=HO.o.2.2.trans hF2;clear hF2 hp
 try go_wp2_with fail
 refine Z_.go λhHeld=>?_;clear Z_ Y_;refine Um ?_;go_wp2
 go_end0
 refine QP.o.word HH.o.2 ?_;simp[VA,HV.o.1]
theorem agN {z:Nat}{K:U0}{fb:Nat}{d:RU}(fs:List Fr)(D:Int)(hk:RK w m K)(hen:K.en=0)(h:SX z w K fb f d)(hs:f.st.length<=900)(n:Int)(sl xa xb:List UInt8)(xi:Nat)(i j:Nat)(o:Ob)(v:Vl)(hi:f.self.n=i)(hj:n=j)(ho:m.obs[i]?=some o)(hv:o.slots[j]?=some v):
 Calls prog 140 #[VG K.b,VG fb,.agg (U4 (⟨103,n,sl,xa,xb⟩,xi)),VI D] w (UZ z fb w K (VA m K.fu ⟨103,n,sl,xa,xb⟩ f fs) fs):=by
 obtain⟨W,hW,hF,hO,hb⟩:=UW hk h (⟨103,n,sl,xa,xb⟩,xi);change W=w.alloc (.cells #[.int .u8 103,VI n,.string (VF sl),.string (VF xa),.string (VF xb),VI (xi:Nat)] 188) at hW;change Calls _ _ #[VG K.b,VG fb,.agg #[.int .u8 103,VI n,.string (VF sl),.string (VF xa),.string (VF xb),VI (xi:Nat)],VI D] _ _;refine NK ?_;intro HH;have HF:Hid (U5 z fb w W m K d.sv f d/\Off W K fb d.sv w.heap.size/\W.heap[w.heap.size]?=some (.cells (U4 (⟨103,n,sl,xa,xb⟩,xi)) 188)):=SH;have hD:=hF.below (ZR _ W).drew;have hp:=PK hD.rk hD.fr VH v;have f3:=hF.fr.f3;rw[hi]at f3;obtain⟨g,cap,hR⟩:=hF.rk.ob_ ho;have hxo:=hk.ok.obj o (ZK ho);have o1:=hR.c1;have c1:=hF.rk.c1;rw[hR.v]at c1;have hil:=(Z7.1 ho).1;have hjl:=(Z7.1 hv).1;refine Jz ?_;intro R6;have tT:(j:Int)<(o.slots.length:Int):=VH;obtain⟨s0,s0⟩:=hR.sc j v hv
 have HV:Hid (f.self.n=i/\m.obs[i]?=some o/\o.slots[j]?=some v/\K.vo=.slice (some (VJ g 0)) m.obs.length cap):=⟨hi,ho,hv,hR.v⟩
 subst hj;have p1:W.cell? (VJ w.heap.size 1)=some (VI (j:Nat)):=by simp only[World.cell?,hb];rfl
 have HO:Hid (Off W.drew K fb d.sv w.heap.size/\U5 z fb w W.drew m K d.sv f d):=⟨⟨hO.lt,hO.nf,hO.ns,hO.nl⟩,hD⟩
 unfold Vl.val at hp;clear hR hxo hil hjl hv ho hi hD;clear hk h hF hO hb hen;go_enter func140,ntmps140;go_wp2_with fail;rw[<- hW];clear hW;refine Uy ?_;refine ZT (S:=(λw'=>w'.cell? (VJ fb 3)=some (VI (i:Nat))/\w'.cell? (VJ K.b 1)=some (.slice (some (VJ g 0)) m.obs.length cap)/\w'.cell? (VJ g (i*2+1))=some (.slice (some (VJ (K.ob i) 0)) o.slots.length o.slots.length)/\w'.cell? (VJ (K.ob i) (j*2))=some (.bool v.obj)/\w'.cell? (VJ (K.ob i) (j*2+1))=some (VI v.n)/\w'.cell? (VJ w.heap.size 1)=some (VI (j:Nat)))) VE UG (λhHeld=>?_);refine KG ?_;refine iO ?_;refine Uh 15 ?_;refine Ur 16 ?_;refine Ul 17 λY_ Z_=>?_;go_simp;refine hp.mono ?_;rintro e w' ⟨rfl,Hd,hF2⟩;obtain⟨g',cap',hR2⟩:=hF2.rk.ob_ HV.o.2.1;have e1:=hR2.v.symm.trans HV.o.2.2.2;simp only[Value.slice.injEq,Y2,Addr.mk.injEq,VK,true_and]at e1;rw[e1.1,e1.2]at hR2
 have q3:w'.cell? (VJ fb 3)=some (VI (i:Nat)):=(by rw[<- HV.o.1];exact hF2.fr.f3)
 have q3:w'.cell? (VJ K.b 1)=some (.slice (some (VJ g 0)) m.obs.length cap):=(by rw[<- HV.o.2.2.2];exact hF2.rk.c1)
 have q3:=hR2.c1;obtain⟨q3,q3⟩:=hR2.sc j v HV.o.2.2.1;have q3:=(Z9 (a:=(VJ w.heap.size 1)) (hF2.off _ HO.o.1).2).trans p1;have QP:Hid _:=HO.o.2.trans hF2;clear hF2 hp hR2
 try go_wp2_with fail
 refine Z_.go λhHeld=>?_;clear Z_ Y_;refine Um ?_;go_wp2
 go_end0
 refine QP.o.word HH.o.2 ?_;simp[VA,HV.o.1,HV.o.2.1,HV.o.2.2.1]
theorem agu {z:Nat}{K:U0}{fb:Nat}{d:RU}(fs:List Fr)(D:Int)(hk:RK w m K)(hen:K.en=0)(h:SX z w K fb f d)(hs:f.st.length<=900)(n:Int)(sl xa xb:List UInt8)(xi:Nat)(i:Nat)(hi:n=i):
 Calls prog 140 #[VG K.b,VG fb,.agg (U4 (⟨62,n,sl,xa,xb⟩,xi)),VI D] w (UZ z fb w K (VA m K.fu ⟨62,n,sl,xa,xb⟩ f fs) fs):=by
 obtain⟨W,hW,hF,hO,hb⟩:=UW hk h (⟨62,n,sl,xa,xb⟩,xi);change W=w.alloc (.cells #[.int .u8 62,VI n,.string (VF sl),.string (VF xa),.string (VF xb),VI (xi:Nat)] 188) at hW;change Calls _ _ #[VG K.b,VG fb,.agg #[.int .u8 62,VI n,.string (VF sl),.string (VF xa),.string (VF xb),VI (xi:Nat)],VI D] _ _;refine NK ?_;intro HH;have HF:Hid (U5 z fb w W m K d.sv f d/\Off W K fb d.sv w.heap.size/\W.heap[w.heap.size]?=some (.cells (U4 (⟨62,n,sl,xa,xb⟩,xi)) 188)):=SH;have hfl:=h.lt;have f6:=h.f6;have hfz:=h.Vb.free 6;subst hi;have hg:=h.set (f':={f with pc:=i}) (d':=d) hk 6 (VI (i:Nat)) rfl rfl rfl rfl rfl rfl rfl h.st h.gs
 have HG:Hid (U5 z fb w (w.setCell (VJ fb 6) (VI (i:Nat))) m K d.sv {f with pc:=i} d):=by
  have hx1:U5 z fb w (w.setCell (VJ fb 6) (VI (i:Nat))) m K d.sv {f with pc:=i} d:=⟨hg.2,hg.1,Ii akQ,λp hp=>⟨⟨by rw[UN];exact hp.lt,hp.nf,hp.ns,hp.nl⟩,ZW _ _ _ _ (λe=>hp.nf e)⟩⟩
  exact hx1
 clear hg;clear hk h hF hO hb hen;go_enter func140,ntmps140;go_wp2_with fail
 go_end0
 exact(HG.o.new _).word HH.o.2 rfl
theorem akk {z:Nat}{K:U0}{fb:Nat}{d:RU}(fs:List Fr)(D:Int)(hk:RK w m K)(hen:K.en=0)(v:Vl)(r:List Vl)(h:SX z w K fb {f with st:=v::r} d) (n:Int) (sl xa xb:List UInt8) (xi:Nat) (hr:r.length<=900):
 Calls prog 140 #[VG K.b,VG fb,.agg (U4 (⟨111,n,sl,xa,xb⟩,xi)),VI D] w (UZ z fb w K (VA m K.fu ⟨111,n,sl,xa,xb⟩ {f with st:=v::r} fs) fs):=by
 obtain⟨W,hW,hF,hO,hb⟩:=UW hk h (⟨111,n,sl,xa,xb⟩,xi);change W=w.alloc (.cells #[.int .u8 111,VI n,.string (VF sl),.string (VF xa),.string (VF xb),VI (xi:Nat)] 188) at hW;change Calls _ _ #[VG K.b,VG fb,.agg #[.int .u8 111,VI n,.string (VF sl),.string (VF xa),.string (VF xb),VI (xi:Nat)],VI D] _ _;refine NK ?_;intro HH;have HF:Hid (U5 z fb w W m K d.sv {f with st:=v::r} d/\Off W K fb d.sv w.heap.size/\W.heap[w.heap.size]?=some (.cells (U4 (⟨111,n,sl,xa,xb⟩,xi)) 188)):=SH;have hp:=Hr hF.rk hF.fr VH;unfold Vl.val at hp;clear hk h hF hO hb hen;go_enter func140,ntmps140;go_wp2_with fail;refine kS ?_;rintro e w' ⟨rfl,Hd,hF2⟩;have QP:Hid _:=HF.o.1.trans hF2;clear hF2 hp hW;go_wp2
 go_end0
 exact QP.o.word HH.o.2 rfl
theorem aaw {z:Nat}{K:U0}{fb:Nat}{d:RU}(fs:List Fr)(D:Int)(hk:RK w m K)(hen:K.en=0){vn:Int}{r:List Vl}(hr:r.length<=900)(h:SX z w K fb {f with st:=⟨true,vn⟩::r} d) (n:Int) (sl xa xb:List UInt8) (xi:Nat):
 Calls prog 140 #[VG K.b,VG fb,.agg (U4 (⟨63,n,sl,xa,xb⟩,xi)),VI D] w (UZ z fb w K (VA m K.fu ⟨63,n,sl,xa,xb⟩ {f with st:=⟨true,vn⟩::r} fs) fs):=by
 refine alq ?_;intro W hF hO hb hW;have HF:Hid (U5 z fb w W m K d.sv {f with st:=⟨true,vn⟩::r} d/\Off W K fb d.sv w.heap.size/\W.heap[w.heap.size]?=some (.cells (U4 (⟨63,n,sl,xa,xb⟩,xi)) 188)):=SH;refine zG ?_;intro hp;clear hk h hF hO hb hen;go_enter func140,ntmps140;go_wp2_with fail;refine EF ?_;intro w1 P' S_;have hoff:=S_.off _ HF.o.2.1;have hpb:=hoff.2.trans HF.o.2.2;have G_:=HF.o.1.trans S_;have HA:Hid _:=G_;have hbl:=G_.rk.Vb.lt;have c4:=G_.rk.c4;have cf:=λo=>G_.rk.Vb.free o;have hE:=G_.rk.end_ 3;have HE:Hid _:=hE;clear hp S_ G_ hW hE hoff hpb;go_wp2_with fail
 go_end0
 have hs2:=Vu.below HE.o.rk (UF _ (.cells #[.bool true,VI vn] 79));exact⟨m,_,rfl,hs2.rk,(HA.o.run.trans (HE.o.run z fb)).trans (hs2.run z fb),ZN _,.inr ⟨by show (3:Int)≠0;omega,by simp only[VA];exact To.refl _⟩⟩
theorem nS {z:Nat}{K:U0}{fb:Nat}{d:RU}(fs:List Fr)(D:Int)(hk:RK w m K)(hen:K.en=0){vn:Int}(hv:¬vn=0){r:List Vl}(hr:r.length<=900)(h:SX z w K fb {f with st:=⟨false,vn⟩::r} d) (n:Int) (sl xa xb:List UInt8) (xi:Nat):
 Calls prog 140 #[VG K.b,VG fb,.agg (U4 (⟨63,n,sl,xa,xb⟩,xi)),VI D] w (UZ z fb w K (VA m K.fu ⟨63,n,sl,xa,xb⟩ {f with st:=⟨false,vn⟩::r} fs) fs):=by
 refine alq ?_;intro W hF hO hb hW;refine NK ?_;intro HH;have HF:Hid (U5 z fb w W m K d.sv {f with st:=⟨false,vn⟩::r} d/\Off W K fb d.sv w.heap.size/\W.heap[w.heap.size]?=some (.cells (U4 (⟨63,n,sl,xa,xb⟩,xi)) 188)):=SH;refine zG ?_;intro hp;clear hk h hF hO hb hen;go_enter func140,ntmps140;go_wp2_with fail;refine EF ?_;intro w1 P' S_;have hoff:=S_.off _ HF.o.2.1;have hpb:=hoff.2.trans HF.o.2.2;have G_:=HF.o.1.trans S_;have HA:Hid _:=G_;have T':¬w.heap.size=fb:=hoff.1.nf;clear hp S_ G_ hW hoff hpb;go_wp2_with fail
 go_end0
 refine(HA.o.new _).word HH.o.2 ?_;simp[VA,hv]
theorem lM {z:Nat}{K:U0}{fb:Nat}{d:RU}(fs:List Fr)(D:Int)(hk:RK w m K)(hen:K.en=0){r:List Vl}(hr:r.length<=900)(h:SX z w K fb {f with st:=⟨false,0⟩::r} d) (n:Int) (sl xa xb:List UInt8) (xi:Nat) (i:Nat) (hi:n=i):
 Calls prog 140 #[VG K.b,VG fb,.agg (U4 (⟨63,n,sl,xa,xb⟩,xi)),VI D] w (UZ z fb w K (VA m K.fu ⟨63,n,sl,xa,xb⟩ {f with st:=⟨false,0⟩::r} fs) fs):=by
 refine alq ?_;intro W hF hO hb hW;refine NK ?_;intro HH;have HF:Hid (U5 z fb w W m K d.sv {f with st:=⟨false,0⟩::r} d/\Off W K fb d.sv w.heap.size/\W.heap[w.heap.size]?=some (.cells (U4 (⟨63,n,sl,xa,xb⟩,xi)) 188)):=SH;subst hi;refine zG ?_;intro hp;clear hk h hF hO hb hen;go_enter func140,ntmps140;go_wp2_with fail;refine EF ?_;intro w1 P' S_;have hoff:=S_.off _ HF.o.2.1;have hpb:=hoff.2.trans HF.o.2.2;have hpl:=hoff.1.lt;have p1:w1.cell? (VJ w.heap.size 1)=some (VI (i:Nat)):=by simp only[World.cell?,hpb];rfl
 have G_:=HF.o.1.trans S_;have HA:Hid _:=G_;have hfl:=G_.fr.lt;have f6:=G_.fr.f6;have hfz:=G_.fr.Vb.free 6;have hg:=G_.fr.set (f':={f with st:=r,pc:=i}) (d':={d with sv:=P'}) G_.rk 6 (VI (i:Nat)) rfl rfl rfl rfl rfl rfl rfl G_.fr.st G_.fr.gs
 have HG:Hid (U5 z fb w1 (w1.setCell (VJ fb 6) (VI (i:Nat))) m K P' {f with st:=r,pc:=i} {d with sv:=P'}):=by
  have hx1:U5 z fb w1 (w1.setCell (VJ fb 6) (VI (i:Nat))) m K P' {f with st:=r,pc:=i} {d with sv:=P'}:=⟨hg.2,hg.1,Ii ((Vt.refl w1 _).setCell _ _ Dx),λp hp=>⟨⟨by rw[UN];exact hp.lt,hp.nf,hp.ns,hp.nl⟩,ZW _ _ _ _ (λe=>hp.nf e)⟩⟩
  exact hx1
 clear hp S_ G_ hW hoff hpb hg;go_wp2_with fail
 go_end0
 refine((HA.o.trans HG.o).new _).word HH.o.2 ?_;simp[VA]
theorem abR {z:Nat}{K:U0}{fb:Nat}{d:RU}(fs:List Fr)(D:Int)(hk:RK w m K)(hen:K.en=0){v:Vl}{r:List Vl}(hr:r.length<=900)(h:SX z w K fb {f with st:=v::r} d) (n:Int) (sl xa xb:List UInt8) (xi:Nat) (i j:Nat) (o:Ob) (hi:f.self.n=i) (hj:n=j) (ho:m.obs[i]?=some o) (hjl:j<o.slots.length) (hm:U3 {m with obs:=m.obs.modify i (λo=>{o with slots:=o.slots.set j v})}):
 Calls prog 140 #[VG K.b,VG fb,.agg (U4 (⟨112,n,sl,xa,xb⟩,xi)),VI D] w (UZ z fb w K (VA m K.fu ⟨112,n,sl,xa,xb⟩ {f with st:=v::r} fs) fs):=by
 obtain⟨W,hW,hF,hO,hb⟩:=UW hk h (⟨112,n,sl,xa,xb⟩,xi);change W=w.alloc (.cells #[.int .u8 112,VI n,.string (VF sl),.string (VF xa),.string (VF xb),VI (xi:Nat)] 188) at hW;change Calls _ _ #[VG K.b,VG fb,.agg #[.int .u8 112,VI n,.string (VF sl),.string (VF xa),.string (VF xb),VI (xi:Nat)],VI D] _ _;refine NK ?_;intro HH;have HF:Hid (U5 z fb w W m K d.sv {f with st:=v::r} d/\Off W K fb d.sv w.heap.size/\W.heap[w.heap.size]?=some (.cells (U4 (⟨112,n,sl,xa,xb⟩,xi)) 188)):=SH;subst hj;refine zG ?_;intro hp;clear hk h hF hO hb hen;go_enter func140,ntmps140;go_wp2_with fail;refine EF ?_;intro w1 P' S_;refine ahY ?_;intro G_ ho1 k_
 have hoff:=(S_.off _ HF.o.2.1)
 have hpb:=(ZV w1 (.cells #[.bool v.obj,VI v.n] 79) _ hoff.1.lt).trans (hoff.2.trans HF.o.2.2);obtain⟨W2,hW2⟩:∃W2,W2=w1.alloc (.cells #[.bool v.obj,VI v.n] 79):=Vx;rw[<- hW2]at G_ ho1 k_ hpb;have p1:W2.cell? (VJ w.heap.size 1)=some (VI (j:Nat)):=by simp only[World.cell?,hpb];rfl
 have v0:=(Vp k_).1;have v0:=(Vp k_).2;have f3:=G_.fr.f3;rw[hi]at f3;obtain⟨g,cap,hR⟩:=G_.rk.ob_ ho;have hxo:=G_.rk.ok.obj o (ZK ho);have o1:=hR.c1;have c1:=G_.rk.c1;rw[hR.v]at c1;have hil:=(Z7.1 ho).1;refine Jz ?_;intro R6;have tT:(j:Int)<(o.slots.length:Int):=VH;have sf:=λo=>hR.s.free o
 obtain⟨v',hv'⟩:∃v',o.slots[j]?=some v':=⟨_,Z8 hjl⟩
 obtain⟨s0,s0⟩:=hR.sc j v' hv';have hlab:=(G_.rk.slot i o ho).2;have n1:¬K.ob i=K.b:=λe=>by rw[e,G_.rk.lh]at hlab;cases hlab
 have n1:¬K.ob i=g:=λe=>by rw[e,G_.rk.lo g (by rw[hR.v];rfl)]at hlab;cases hlab
 have n1:¬K.ob i=fb:=λe=>by rw[e,G_.fr.gf.1]at hlab;cases hlab
 have n1:¬K.ob i=w.heap.size:=λe=>by rw[e,HF.o.2.1.nl]at hlab;cases hlab
 have n1:¬K.ob i=w1.heap.size:=λe=>by rw[e,ho1.nl]at hlab;cases hlab
 have hst:=G_.rk.store ho hjl v hm
 have HS:Hid (Vu W2 ((W2.setCell (VJ (K.ob i) (j*2)) (.bool v.obj)).setCell (VJ (K.ob i) (j*2+1)) (VI v.n)) m K {m with obs:=m.obs.modify i (λo=>{o with slots:=o.slots.set j v})} K/\U5 z fb w W2 m K d.sv {f with st:=r} {d with sv:=P'}):=⟨hst,G_⟩
 have HV:Hid _:=hi;clear hp S_ G_ hW hoff hpb hR hxo hil ho hv' hst hm hjl hi hlab ho1 k_;go_wp2_with fail;rw[<- hW2];clear hW2;refine Uy ?_;refine ZT (S:=(λw'=>w'.cell? (VJ K.b 1)=some (.slice (some (VJ g 0)) m.obs.length cap)/\w'.cell? (VJ g (i*2+1))=some (.slice (some (VJ (K.ob i) 0)) o.slots.length o.slots.length)/\w'.cell? (VJ fb 3)=some (VI (i:Nat))/\w'.cell? (VJ w.heap.size 1)=some (VI (j:Nat))/\w'.cell? (VJ w1.heap.size 0)=some (.bool v.obj)/\w'.cell? (VJ w1.heap.size 1)=some (VI v.n))) VE UG (λhHeld=>?_);refine KG ?_;refine iO ?_;refine Ur 15 ?_;refine Ul 16 λY_ Z_=>?_;refine Vg ?_;intro hHeld;clear Z_ Y_;refine Um ?_
 go_end0
 have hx:=HS.o.1.trans (Vu.below HS.o.1.rk (ZR _ _).drew);exact⟨_,K,rfl,hx.rk,HS.o.2.run.trans (hx.run z fb),ZN _,.inl ⟨HH.o.2,{f with st:=r},_,HS.o.2.fr.step hx,by simp only[VA,HV.o];exact To.refl _⟩⟩
theorem UZ.pre {z fb:Nat}{w W w':World}{K:U0}{g:SN}{e:Ending}(h:Pm z fb w W K K)(h2:UZ z fb W K g fs e w'):UZ z fb w K g fs e w':=by
 obtain⟨m',K',e1,h3,h4,h5,h6⟩:=h2;exact⟨m',K',e1,h3,h.trans h4,h5,h6⟩
theorem J4 {z:Nat}{K:U0}{fb:Nat}{d:RU}(fs:List Fr)(hk:RK w m K)(hen:K.en=0){k:Nat}(hkk:k=43\/k=45\/k=42\/k=60){bo:Bool}{an bn:Int}{r:List Vl}(hr:r.length<=900)(h:SX z w K fb {f with st:=⟨bo,bn⟩::⟨true,an⟩::r} d) (n:Int) (sl xa xb:List UInt8) (xi:Nat):
 Calls prog 152 #[VG K.b,VG fb,.agg (U4 (⟨k,n,sl,xa,xb⟩,xi))] w (UZ z fb w K (VA m K.fu ⟨k,n,sl,xa,xb⟩ {f with st:=⟨bo,bn⟩::⟨true,an⟩::r} fs) fs):=by
 refine ahE ?_;intro W hF hO hb hW;have HF:Hid (U5 z fb w W m K d.sv {f with st:=⟨bo,bn⟩::⟨true,an⟩::r} d/\Off W K fb d.sv w.heap.size/\W.heap[w.heap.size]?=some (.cells (U4 (⟨k,n,sl,xa,xb⟩,xi)) 188)):=SH;refine qG ?_;intro hp;clear hk h hF hO hb hen;go_enter func152,ntmps152;go_wp2_with fail;refine EF ?_;intro w1 P' S_;refine ajK ?_;intro G_ ho1 k_;have hx1:=(S_.below (UF _ (.cells #[.bool bo,VI bn] 79))).off _ HF.o.2.1;obtain⟨W2,hW2⟩:∃W2,W2=w1.alloc (.cells #[.bool bo,VI bn] 79):=Vx;rw[<- hW2]at G_ ho1 k_ hx1;refine ni ?_;intro hp2 HA HO HX;clear hp S_ G_ ho1 hW hx1;go_wp2_with fail;refine alO ?_;intro w1 P' S_ Z6 hk2;refine ahJ ?_;intro hpb pk HQ k4 kf hbl HE;clear hp2 S_ Z6 hW2 hk2 k_ hpb;go_wp2_with fail
 go_end0
 have hs2:=Vu.below HE.o.rk (UF _ (.cells #[.bool true,VI an] 79));exact amk
theorem Kz {z:Nat}{K:U0}{fb:Nat}{d:RU}(fs:List Fr)(hk:RK w m K)(hen:K.en=0){k:Nat}(hkk:k=43\/k=45\/k=42\/k=60){an bn:Int}{r:List Vl}(hr:r.length<=900)(h:SX z w K fb {f with st:=⟨true,bn⟩::⟨false,an⟩::r} d) (n:Int) (sl xa xb:List UInt8) (xi:Nat):
 Calls prog 152 #[VG K.b,VG fb,.agg (U4 (⟨k,n,sl,xa,xb⟩,xi))] w (UZ z fb w K (VA m K.fu ⟨k,n,sl,xa,xb⟩ {f with st:=⟨true,bn⟩::⟨false,an⟩::r} fs) fs):=by
 refine ahE ?_;intro W hF hO hb hW;have HF:Hid (U5 z fb w W m K d.sv {f with st:=⟨true,bn⟩::⟨false,an⟩::r} d/\Off W K fb d.sv w.heap.size/\W.heap[w.heap.size]?=some (.cells (U4 (⟨k,n,sl,xa,xb⟩,xi)) 188)):=SH;refine qG ?_;intro hp;clear hk h hF hO hb hen;go_enter func152,ntmps152;go_wp2_with fail;refine EF ?_;intro w1 P' S_;have G_:=(HF.o.1.trans S_).new (.cells #[.bool true,VI bn] 79);have ho1:=Qk S_.rk S_.fr (.cells #[.bool true,VI bn] 79);have k_:(w1.alloc (.cells #[.bool true,VI bn] 79)).heap[w1.heap.size]?=some (.cells #[.bool true,VI bn] 79):=(Z4 w1 _).1;have hx1:=(S_.below (UF _ (.cells #[.bool true,VI bn] 79))).off _ HF.o.2.1;obtain⟨W2,hW2⟩:∃W2,W2=w1.alloc (.cells #[.bool true,VI bn] 79):=Vx;rw[<- hW2]at G_ ho1 k_ hx1;refine ni ?_;intro hp2 HA HO HX;clear hp S_ G_ ho1 hW hx1;go_wp2_with fail;refine alO ?_;intro w1 P' S_ Z6 hk2;have c0:=(Vp hk2).1;have hl2:=(S_.off _ HO.o).1.lt;refine ahJ ?_;intro hpb pk HQ k4 kf hbl HE;clear hp2 S_ Z6 hW2 hk2 k_ hpb;go_wp2_with fail
 go_end0
 have hs2:=Vu.below HE.o.rk (UF _ (.cells #[.bool false,VI an] 79));exact amk
theorem adT {z:Nat}{K:U0}{fb:Nat}{d:RU}(fs:List Fr)(hk:RK w m K)(hen:K.en=0)  {an bn:Int}{r:List Vl}(hr:r.length<=900)(h:SX z w K fb {f with st:=⟨false,bn⟩::⟨false,an⟩::r} d) (n:Int) (sl xa xb:List UInt8) (xi:Nat):
 Calls prog 152 #[VG K.b,VG fb,.agg (U4 (⟨43,n,sl,xa,xb⟩,xi))] w (UZ z fb w K (VA m K.fu ⟨43,n,sl,xa,xb⟩ {f with st:=⟨false,bn⟩::⟨false,an⟩::r} fs) fs):=by
 obtain⟨W,hW,hF,hO,hb⟩:=UW hk h (⟨43,n,sl,xa,xb⟩,xi);change W=w.alloc (.cells #[.int .u8 43,VI n,.string (VF sl),.string (VF xa),.string (VF xb),VI (xi:Nat)] 188) at hW;change Calls _ _ #[VG K.b,VG fb,.agg #[.int .u8 43,VI n,.string (VF sl),.string (VF xa),.string (VF xb),VI (xi:Nat)]] _ _;refine NK ?_;intro HH;have HF:Hid (U5 z fb w W m K d.sv {f with st:=⟨false,bn⟩::⟨false,an⟩::r} d/\Off W K fb d.sv w.heap.size/\W.heap[w.heap.size]?=some (.cells (U4 (⟨43,n,sl,xa,xb⟩,xi)) 188)):=SH;refine qG ?_;intro hp;clear hk h hF hO hb hen;go_enter func152,ntmps152;go_wp2_with fail;refine abN ?_;intro w1 P' S_ G_ ho1 k_ hx1;obtain⟨W2,hW2⟩:∃W2,W2=w1.alloc (.cells #[.bool false,VI bn] 79):=Vx;rw[<- hW2]at G_ ho1 k_ hx1;refine ni ?_;intro hp2 HA HO HX;clear hp S_ G_ ho1 hW hx1;go_wp2_with fail;refine AU ?_;intro w1 P' S_ Z6 hk2 _ c0;refine afA ?_;intro hl2 hpb hpl;have pk:w1.cell? (VJ w.heap.size 0)=some (.int .u8 43):=by simp only[World.cell?,hpb];rfl
 have Vi:=Z6.new (.cells #[.bool false,VI an] 79);have Wf:=PK Vi.rk Vi.fr Ei ⟨false,Go.RowKit.wrap64 (an+bn)⟩;have HB:Hid _:=Vi;unfold Vl.val at Wf;clear hp2 S_ Z6 hW2 hk2 k_ Vi hpb;go_wp2_with fail;refine wM ?_;intro w1 P' S_ HC;clear Wf S_;go_wp2
 go_end0
 exact abq
theorem abE {z:Nat}{K:U0}{fb:Nat}{d:RU}(fs:List Fr)(hk:RK w m K)(hen:K.en=0)  {an bn:Int}{r:List Vl}(hr:r.length<=900)(h:SX z w K fb {f with st:=⟨false,bn⟩::⟨false,an⟩::r} d) (n:Int) (sl xa xb:List UInt8) (xi:Nat):
 Calls prog 152 #[VG K.b,VG fb,.agg (U4 (⟨45,n,sl,xa,xb⟩,xi))] w (UZ z fb w K (VA m K.fu ⟨45,n,sl,xa,xb⟩ {f with st:=⟨false,bn⟩::⟨false,an⟩::r} fs) fs):=by
 obtain⟨W,hW,hF,hO,hb⟩:=UW hk h (⟨45,n,sl,xa,xb⟩,xi);change W=w.alloc (.cells #[.int .u8 45,VI n,.string (VF sl),.string (VF xa),.string (VF xb),VI (xi:Nat)] 188) at hW;change Calls _ _ #[VG K.b,VG fb,.agg #[.int .u8 45,VI n,.string (VF sl),.string (VF xa),.string (VF xb),VI (xi:Nat)]] _ _;refine NK ?_;intro HH;have HF:Hid (U5 z fb w W m K d.sv {f with st:=⟨false,bn⟩::⟨false,an⟩::r} d/\Off W K fb d.sv w.heap.size/\W.heap[w.heap.size]?=some (.cells (U4 (⟨45,n,sl,xa,xb⟩,xi)) 188)):=SH;refine qG ?_;intro hp;clear hk h hF hO hb hen;go_enter func152,ntmps152;go_wp2_with fail;refine abN ?_;intro w1 P' S_ G_ ho1 k_ hx1;obtain⟨W2,hW2⟩:∃W2,W2=w1.alloc (.cells #[.bool false,VI bn] 79):=Vx;rw[<- hW2]at G_ ho1 k_ hx1;refine ni ?_;intro hp2 HA HO HX;clear hp S_ G_ ho1 hW hx1;go_wp2_with fail;refine AU ?_;intro w1 P' S_ Z6 hk2 _ c0;refine afA ?_;intro hl2 hpb hpl;have pk:w1.cell? (VJ w.heap.size 0)=some (.int .u8 45):=by simp only[World.cell?,hpb];rfl
 have Vi:=Z6.new (.cells #[.bool false,VI an] 79);have Wf:=PK Vi.rk Vi.fr Ei ⟨false,Go.RowKit.wrap64 (an-bn)⟩;have HB:Hid _:=Vi;unfold Vl.val at Wf;clear hp2 S_ Z6 hW2 hk2 k_ Vi hpb;go_wp2_with fail;refine wM ?_;intro w1 P' S_ HC;clear Wf S_;go_wp2
 go_end0
 exact abq
theorem ab3 {z:Nat}{K:U0}{fb:Nat}{d:RU}(fs:List Fr)(hk:RK w m K)(hen:K.en=0)  {an bn:Int}{r:List Vl}(hr:r.length<=900)(h:SX z w K fb {f with st:=⟨false,bn⟩::⟨false,an⟩::r} d) (n:Int) (sl xa xb:List UInt8) (xi:Nat):
 Calls prog 152 #[VG K.b,VG fb,.agg (U4 (⟨42,n,sl,xa,xb⟩,xi))] w (UZ z fb w K (VA m K.fu ⟨42,n,sl,xa,xb⟩ {f with st:=⟨false,bn⟩::⟨false,an⟩::r} fs) fs):=by
 obtain⟨W,hW,hF,hO,hb⟩:=UW hk h (⟨42,n,sl,xa,xb⟩,xi);change W=w.alloc (.cells #[.int .u8 42,VI n,.string (VF sl),.string (VF xa),.string (VF xb),VI (xi:Nat)] 188) at hW;change Calls _ _ #[VG K.b,VG fb,.agg #[.int .u8 42,VI n,.string (VF sl),.string (VF xa),.string (VF xb),VI (xi:Nat)]] _ _;refine NK ?_;intro HH;have HF:Hid (U5 z fb w W m K d.sv {f with st:=⟨false,bn⟩::⟨false,an⟩::r} d/\Off W K fb d.sv w.heap.size/\W.heap[w.heap.size]?=some (.cells (U4 (⟨42,n,sl,xa,xb⟩,xi)) 188)):=SH;refine qG ?_;intro hp;clear hk h hF hO hb hen;go_enter func152,ntmps152;go_wp2_with fail;refine abN ?_;intro w1 P' S_ G_ ho1 k_ hx1;obtain⟨W2,hW2⟩:∃W2,W2=w1.alloc (.cells #[.bool false,VI bn] 79):=Vx;rw[<- hW2]at G_ ho1 k_ hx1;refine ni ?_;intro hp2 HA HO HX;clear hp S_ G_ ho1 hW hx1;go_wp2_with fail;refine AU ?_;intro w1 P' S_ Z6 hk2 _ c0;refine afA ?_;intro hl2 hpb hpl;have pk:w1.cell? (VJ w.heap.size 0)=some (.int .u8 42):=by simp only[World.cell?,hpb];rfl
 have Vi:=Z6.new (.cells #[.bool false,VI an] 79);have Wf:=PK Vi.rk Vi.fr Ei ⟨false,Go.RowKit.wrap64 (an*bn)⟩;have HB:Hid _:=Vi;unfold Vl.val at Wf;clear hp2 S_ Z6 hW2 hk2 k_ Vi hpb;go_wp2_with fail;refine wM ?_;intro w1 P' S_ HC;clear Wf S_;go_wp2
 go_end0
 exact abq
theorem kC {z:Nat}{K:U0}{fb:Nat}{d:RU}(fs:List Fr)(hk:RK w m K)(hen:K.en=0)  {an bn:Int}(hlt:an<bn){r:List Vl}(hr:r.length<=900)(h:SX z w K fb {f with st:=⟨false,bn⟩::⟨false,an⟩::r} d) (n:Int) (sl xa xb:List UInt8) (xi:Nat):
 Calls prog 152 #[VG K.b,VG fb,.agg (U4 (⟨60,n,sl,xa,xb⟩,xi))] w (UZ z fb w K (VA m K.fu ⟨60,n,sl,xa,xb⟩ {f with st:=⟨false,bn⟩::⟨false,an⟩::r} fs) fs):=by
 refine alY ?_;intro W hF hO hb hW HH HF hp;clear hk h hF hO hb hen;go_enter func152,ntmps152;go_wp2_with fail;refine abN ?_;intro w1 P' S_ G_ ho1 k_ hx1;obtain⟨W2,hW2⟩:∃W2,W2=w1.alloc (.cells #[.bool false,VI bn] 79):=Vx;rw[<- hW2]at G_ ho1 k_ hx1;refine ni ?_;intro hp2 HA HO HX;clear hp S_ G_ ho1 hW hx1;go_wp2_with fail;refine AU ?_;intro w1 P' S_ Z6 hk2 _ c0;refine ahK ?_;intro hl2 hpb hpl pk Vi;have Wf:=PK Vi.rk Vi.fr Ei ⟨false,1⟩;have HB:Hid _:=Vi;unfold Vl.val at Wf;clear hp2 S_ Z6 hW2 hk2 k_ Vi hpb;go_wp2_with fail;refine wM ?_;intro w1 P' S_ HC;clear Wf S_;go_wp2
 go_end0
 refine HC.o.word HH.o.2 ?_;simp[VA,vG,hlt]
theorem jM {z:Nat}{K:U0}{fb:Nat}{d:RU}(fs:List Fr)(hk:RK w m K)(hen:K.en=0)  {an bn:Int}(hlt:¬an<bn){r:List Vl}(hr:r.length<=900)(h:SX z w K fb {f with st:=⟨false,bn⟩::⟨false,an⟩::r} d) (n:Int) (sl xa xb:List UInt8) (xi:Nat):
 Calls prog 152 #[VG K.b,VG fb,.agg (U4 (⟨60,n,sl,xa,xb⟩,xi))] w (UZ z fb w K (VA m K.fu ⟨60,n,sl,xa,xb⟩ {f with st:=⟨false,bn⟩::⟨false,an⟩::r} fs) fs):=by
 refine alY ?_;intro W hF hO hb hW HH HF hp;clear hk h hF hO hb hen;go_enter func152,ntmps152;go_wp2_with fail;refine abN ?_;intro w1 P' S_ G_ ho1 k_ hx1;obtain⟨W2,hW2⟩:∃W2,W2=w1.alloc (.cells #[.bool false,VI bn] 79):=Vx;rw[<- hW2]at G_ ho1 k_ hx1;refine ni ?_;intro hp2 HA HO HX;clear hp S_ G_ ho1 hW hx1;go_wp2_with fail;refine AU ?_;intro w1 P' S_ Z6 hk2 _ c0;refine ahK ?_;intro hl2 hpb hpl pk Vi;refine abh ?_;intro Wf HB;clear hp2 S_ Z6 hW2 hk2 k_ Vi hpb;go_wp2_with fail;refine wM ?_;intro w1 P' S_ HC;clear Wf S_;go_wp2
 go_end0
 refine HC.o.word HH.o.2 ?_;simp[VA,vG,hlt]
def Le (z fb:Nat)(w:World)(K:U0)(er:Int)(m':Im)(f':Fr)(e:Ending)(w':World):Prop:=e=.returned (VI er)/\∃K' d',RK w' m' K'/\Pm z fb w w' K K'/\K'.fu=K.fu/\K'.en=K.en/\SX z w' K' fb f' d'
theorem U5.Ut {z fb:Nat}{w W w':World}{K:U0}{sv:Value}{d:RU}(h:U5 z fb w W m K sv f d)(h2:SG W m K m' w'):∃K' d',RK w' m' K'/\Pm z fb w w' K K'/\K'.fu=K.fu/\K'.en=K.en/\SX z w' K' fb f d':=by
 obtain⟨K',hs,hf,he⟩:=h2;exact⟨K',d,hs.rk,h.run.trans (hs.run z fb),hf,he,h.fr.step hs⟩
theorem ad4 {z:Nat}{K:U0}{fb:Nat}{d:RU}(hk:RK w m K)  (h:SX z w K fb f d)(n:Int)(sl xa xb:List UInt8)(xi:Nat):
 Calls prog 154 #[VG K.b,VG fb,.agg (U4 (⟨120,n,sl,xa,xb⟩,xi))] w (Le z fb w K ((m.drop (VF xa) (VF sl)).1) ((m.drop (VF xa) (VF sl)).2) (f)):=by
 obtain⟨W,hW,hF,hO,hb⟩:=UW hk h (⟨120,n,sl,xa,xb⟩,xi);change W=w.alloc (.cells #[.int .u8 120,VI n,.string (VF sl),.string (VF xa),.string (VF xb),VI (xi:Nat)] 188) at hW;change Calls _ _ #[VG K.b,VG fb,.agg #[.int .u8 120,VI n,.string (VF sl),.string (VF xa),.string (VF xb),VI (xi:Nat)]] _ _;have HF:Hid (U5 z fb w W m K d.sv f d/\Off W K fb d.sv w.heap.size/\W.heap[w.heap.size]?=some (.cells (U4 (⟨120,n,sl,xa,xb⟩,xi)) 188)):=SH;have hp:=ajn hF.rk (VF xa) (VF sl);clear hk h hF hO hb;go_enter func154,ntmps154;go_wp2_with fail;refine kS ?_;rintro e w' ⟨rfl,hR⟩;have HR:Hid _:=HF.o.1.Ut hR;clear hR hp hW;go_wp2
 go_ret
 exact O5
theorem aew {z:Nat}{K:U0}{fb:Nat}{d:RU}(hk:RK w m K)  (h:SX z w K fb f d)(n:Int)(sl xa xb:List UInt8)(xi:Nat):
 Calls prog 154 #[VG K.b,VG fb,.agg (U4 (⟨118,n,sl,xa,xb⟩,xi))] w (Le z fb w K ((m.move (VF xa) (VF xb)).1) ((m.move (VF xa) (VF xb)).2) (f)):=by
 obtain⟨W,hW,hF,hO,hb⟩:=UW hk h (⟨118,n,sl,xa,xb⟩,xi);change W=w.alloc (.cells #[.int .u8 118,VI n,.string (VF sl),.string (VF xa),.string (VF xb),VI (xi:Nat)] 188) at hW;change Calls _ _ #[VG K.b,VG fb,.agg #[.int .u8 118,VI n,.string (VF sl),.string (VF xa),.string (VF xb),VI (xi:Nat)]] _ _;have HF:Hid (U5 z fb w W m K d.sv f d/\Off W K fb d.sv w.heap.size/\W.heap[w.heap.size]?=some (.cells (U4 (⟨118,n,sl,xa,xb⟩,xi)) 188)):=SH;have hp:=ait hF.rk (VF xa) (VF xb);clear hk h hF hO hb;go_enter func154,ntmps154;go_wp2_with fail;refine kS ?_;rintro e w' ⟨rfl,hR⟩;have HR:Hid _:=HF.o.1.Ut hR;clear hR hp hW;go_wp2
 go_ret
 exact O5
theorem aer {z:Nat}{K:U0}{fb:Nat}{d:RU}(hk:RK w m K)  (h:SX z w K fb f d)(n:Int)(sl xa xb:List UInt8)(xi:Nat):
 Calls prog 154 #[VG K.b,VG fb,.agg (U4 (⟨99,n,sl,xa,xb⟩,xi))] w (Le z fb w K ((m.copy (VF xa) (VF sl) (VF xb)).1) ((m.copy (VF xa) (VF sl) (VF xb)).2) (f)):=by
 obtain⟨W,hW,hF,hO,hb⟩:=UW hk h (⟨99,n,sl,xa,xb⟩,xi);change W=w.alloc (.cells #[.int .u8 99,VI n,.string (VF sl),.string (VF xa),.string (VF xb),VI (xi:Nat)] 188) at hW;change Calls _ _ #[VG K.b,VG fb,.agg #[.int .u8 99,VI n,.string (VF sl),.string (VF xa),.string (VF xb),VI (xi:Nat)]] _ _;have HF:Hid (U5 z fb w W m K d.sv f d/\Off W K fb d.sv w.heap.size/\W.heap[w.heap.size]?=some (.cells (U4 (⟨99,n,sl,xa,xb⟩,xi)) 188)):=SH;have hp:=aiE hF.rk (VF xa) (VF sl) (VF xb);clear hk h hF hO hb;go_enter func154,ntmps154;go_wp2_with fail;refine kS ?_;rintro e w' ⟨rfl,hR⟩;have HR:Hid _:=HF.o.1.Ut hR;clear hR hp hW;go_wp2
 go_ret
 exact O5
theorem mQ {z:Nat}{K:U0}{fb:Nat}{d:RU}(hk:RK w m K){vn:Int}{r:List Vl}(hr:r.length<=900)(h:SX z w K fb {f with st:=⟨false,vn⟩::r} d) (n:Int) (sl xa xb:List UInt8) (xi:Nat):
 Calls prog 154 #[VG K.b,VG fb,.agg (U4 (⟨98,n,sl,xa,xb⟩,xi))] w (Le z fb w K (1) (m) ({f with st:=⟨false,vn⟩::r})):=by
 refine ahw ?_;intro W hF hO hb hW;have HF:Hid (U5 z fb w W m K d.sv {f with st:=⟨false,vn⟩::r} d/\Off W K fb d.sv w.heap.size/\W.heap[w.heap.size]?=some (.cells (U4 (⟨98,n,sl,xa,xb⟩,xi)) 188)):=SH;refine zG ?_;intro hp;clear hk h hF hO hb;go_enter func154,ntmps154;go_wp2_with fail;refine EF ?_;intro w1 P' S_;have G_:=(HF.o.1.trans S_).new (.cells #[.bool false,VI vn] 79);have ho1:=Qk S_.rk S_.fr (.cells #[.bool false,VI vn] 79);have k_:(w1.alloc (.cells #[.bool false,VI vn] 79)).heap[w1.heap.size]?=some (.cells #[.bool false,VI vn] 79):=(Z4 w1 _).1;obtain⟨W2,hW2⟩:∃W2,W2=w1.alloc (.cells #[.bool false,VI vn] 79):=Vx;rw[<- hW2]at G_ ho1 k_;have hp2:=PK G_.rk G_.fr Ei ⟨false,vn⟩;have HA:Hid _:=G_;have HO:Hid _:=ho1;unfold Vl.val at hp2;clear hp S_ G_ ho1 hW;go_wp2_with fail;refine alO ?_;intro w1 P' S_ Z6 hk2;have c0:=(Vp hk2).1;have HR:Hid _:=Z6.Ut (SG.refl Z6.rk);clear hp2 S_ Z6 hW2 hk2 k_;go_wp2
 go_ret
 exact O5
theorem alQ {z:Nat}{K:U0}{fb:Nat}{d:RU}(hk:RK w m K){vn:Int}{r:List Vl}(hr:r.length<=900)(h:SX z w K fb {f with st:=⟨true,vn⟩::r} d) (n:Int) (sl xa xb:List UInt8) (xi:Nat):
 Calls prog 154 #[VG K.b,VG fb,.agg (U4 (⟨98,n,sl,xa,xb⟩,xi))] w (Le z fb w K ((m.be vn (VF xa)).1) ((m.be vn (VF xa)).2) ({f with st:=⟨true,vn⟩::r})):=by
 refine ahw ?_;intro W hF hO hb hW;have HF:Hid (U5 z fb w W m K d.sv {f with st:=⟨true,vn⟩::r} d/\Off W K fb d.sv w.heap.size/\W.heap[w.heap.size]?=some (.cells (U4 (⟨98,n,sl,xa,xb⟩,xi)) 188)):=SH;refine zG ?_;intro hp;clear hk h hF hO hb;go_enter func154,ntmps154;go_wp2_with fail;refine EF ?_;intro w1 P' S_;have G_:=(HF.o.1.trans S_).new (.cells #[.bool true,VI vn] 79);have ho1:=Qk S_.rk S_.fr (.cells #[.bool true,VI vn] 79);have k_:(w1.alloc (.cells #[.bool true,VI vn] 79)).heap[w1.heap.size]?=some (.cells #[.bool true,VI vn] 79):=(Z4 w1 _).1;have hx1:=(S_.below (UF _ (.cells #[.bool true,VI vn] 79))).off _ HF.o.2.1;obtain⟨W2,hW2⟩:∃W2,W2=w1.alloc (.cells #[.bool true,VI vn] 79):=Vx;rw[<- hW2]at G_ ho1 k_ hx1;have hp2:=PK G_.rk G_.fr Ei ⟨true,vn⟩;have HA:Hid _:=G_;have HO:Hid _:=ho1;have HX:Hid _:=hx1;unfold Vl.val at hp2;clear hp S_ G_ ho1 hW hx1;go_wp2_with fail;refine AU ?_;intro w1 P' S_ Z6 hk2 _ c0;have hpb:=((S_.off _ HX.o.1).2.trans HX.o.2).trans HF.o.2.2;have p3:w1.cell? (VJ w.heap.size 3)=some (.string (VF xa)):=by simp only[World.cell?,hpb];rfl
 have Ss:=rbe Z6.rk vn (VF xa);have HQ:Hid _:=Z6;clear hp2 S_ Z6 hW2 hk2 k_ hpb;go_wp2_with fail;refine Ss.mono ?_;rintro e w1 ⟨rfl,hR⟩;have HR:Hid _:=HQ.o.Ut hR;clear hR Ss;go_wp2
 go_ret
 exact O5
theorem aeY {z:Nat}{K:U0}{fb:Nat}{d:RU}(hk:RK w m K)(hs:f.st.length<=900)(h:SX z w K fb f d)(n:Int)(sl xa xb:List UInt8)(xi:Nat):
 Calls prog 154 #[VG K.b,VG fb,.agg (U4 (⟨119,n,sl,xa,xb⟩,xi))] w (Le z fb w K ((m.make (VF xa)).2.1) ((m.make (VF xa)).2.2) ({f with st:=(m.make (VF xa)).1::f.st})):=by
 obtain⟨W,hW,hF,hO,hb⟩:=UW hk h (⟨119,n,sl,xa,xb⟩,xi);change W=w.alloc (.cells #[.int .u8 119,VI n,.string (VF sl),.string (VF xa),.string (VF xb),VI (xi:Nat)] 188) at hW;change Calls _ _ #[VG K.b,VG fb,.agg #[.int .u8 119,VI n,.string (VF sl),.string (VF xa),.string (VF xb),VI (xi:Nat)]] _ _;have HF:Hid (U5 z fb w W m K d.sv f d/\Off W K fb d.sv w.heap.size/\W.heap[w.heap.size]?=some (.cells (U4 (⟨119,n,sl,xa,xb⟩,xi)) 188)):=SH;have hp:=ajN hF.rk (VF xa);obtain⟨v,hv⟩:∃v,v=(m.make (VF xa)).1:=Vx;obtain⟨er,her⟩:∃v,v=(m.make (VF xa)).2.1:=Vx;obtain⟨mm,hmm⟩:∃v,v=(m.make (VF xa)).2.2:=Vx;rw[<- hv,<- her,<- hmm]at hp ⊢;unfold Vl.val at hp;clear hk h hF hO hb;go_enter func154,ntmps154;go_wp2_with fail;refine kS ?_;rintro e w1 ⟨rfl,hR⟩;obtain⟨K1,d1,r1,r2,r3,r4,r5⟩:=HF.o.1.Ut hR;have hs2:=Vu.below r1 (UF w1 (.cells #[.bool v.obj,VI v.n] 79));have hp2:=PK hs2.rk (r5.step hs2) VH v
 have HR:Hid (Pm z fb w (w1.alloc (.cells #[.bool v.obj,VI v.n] 79)) K K1/\K1.fu=K.fu/\K1.en=K.en):=⟨r2.trans (hs2.run z fb),r3,r4⟩
 unfold Vl.val at hp2;clear hR hp hW hv her hmm r1 r2 r3 r4 r5 hs2;go_wp2_with fail;refine hp2.mono ?_;rintro e w1 ⟨rfl,Hd,hF2⟩;have HX:Hid _:=hF2;clear hF2 hp2;go_wp2
 go_ret
 exact⟨rfl,K1,_,HX.o.rk,HR.o.1.trans HX.o.run,HR.o.2.1,HR.o.2.2,HX.o.fr⟩
theorem aby {K:U0}(h:RK w m K)(v:Vl)(hv:TF m v):
 Calls prog 57 #[VG K.b,v.val] w λe w'=>e=.returned (VI (Qh (m.of v)))/\Below w.heap.size w w':=by
 obtain⟨vo,vn⟩:=v;have HB:Hid (Below w.heap.size w (w.alloc (.cells #[.bool vo,VI vn] 79))):=UF _ _;unfold Vl.val
 cases vo with
 | false=>
  have hof:m.of ⟨false,vn⟩=some 1:=rfl;rw[hof];clear h;go_enter func57,ntmps57;go_wp2
  go_ret
  exact⟨rfl,HB.o⟩
 | true=>
  obtain⟨i,x,hi,hx,hi2,hil⟩:=Rj (hv.2 rfl);simp only at hi hi2;subst hi;obtain⟨g,cap,hF⟩:=h.ob_ hx
  have hof:m.of ⟨true,(i:Nat)⟩=some x.cls:=by
   unfold Im.of;rw[ZU rfl];simp only[Zp,hx];rfl
  rw[hof];have o0:=hF.c0;have c1:=h.c1;rw[hF.v]at c1;refine Jz ?_;intro R6;have hg1:=hF.Vb.lt;have hlt:=h.Vb.lt;clear h hF hx hof hv;go_enter func57,ntmps57;go_wp2_with fail
  go_quiet (fail)
  go_wp2
  go_ret
  exact⟨rfl,⟨HB.o.os,HB.o.tape,HB.o.output,HB.o.size,HB.o.block⟩⟩
theorem U5.put {z fb:Nat}{w W:World}{K:U0}{sv:Value}{d:RU}(h:U5 z fb w W m K sv f d){p:Nat}(hp:Off W K fb d.sv p)(hz:z<=p)(hw:w.heap.size<=p)(o:Nat)(v:Value):U5 z fb w (W.setCell (VJ p o) v) m K sv f d:=by
 have hoth:∀k,k≠p->(W.setCell (VJ p o) v).heap[k]?=W.heap[k]?:=λk e=>ZW W _ v k (λx=>e x);have hsz:=UN W (VJ p o) v;have hF:=h.fr;refine⟨h.rk.frame ((Vt.refl W _).setCell _ _ (λ_=>hp.nl)),⟨(hoth fb (λe=>hp.nf e.symm)).trans hF.blk,hF.ws.same (by rw[hsz];exact ZN _) (λe=>hoth _ (λx=>?_)),hF.wq,hF.args.same (λe=>hoth _ (λx=>?_)),hF.ga,Uk hF.st (λk e=>hoth k (λx=>hp.ns (by rw[e,x]))),hF.gf,hF.gs,by rw[hsz];exact hF.zl⟩,h.run.trans (Ii ((Vt.refl W _).setCell _ _ (λ_=>.inr ⟨hz,hp.nl⟩))),λq hq=>?_⟩
 . have h1:K.lab d.wh=.still:=hF.wq e;rw[x,hp.nl]at h1;cases h1
 . have:=(hF.ga e).2.1;omega
 . have h1:=h.off q hq;have zr:q≠p:=λe=>by have:=hq.lt;omega
   exact⟨⟨by rw[hsz];exact h1.1.lt,h1.1.nf,h1.1.ns,h1.1.nl⟩,(hoth q zr).trans h1.2⟩
theorem Off.set {K:U0}{fb p:Nat}{sv:Value}(h:Off w K fb sv p)(a:Addr)(v:Value):Off (w.setCell a v) K fb sv p:=⟨by rw[UN];exact h.lt,h.nf,h.ns,h.nl⟩
theorem drop_cons {l:List Vl}{c:Nat}(h:c<l.length):∃v,l.drop c=v::l.drop (c+1)/\l[c]?=some v:=⟨_,Yx h,Z8 h⟩
theorem alv (o:Option Nat):abv o=Qh o:=by cases o<;>rfl
theorem dG {st:List Vl}{c:Nat}{v:Vl}(g:Nat)(hv:st[c]?=some v):(List.replicate (g+1) Vl.zero++(st.take c).reverse).set g v=List.replicate g Vl.zero++(st.take (c+1)).reverse:=by
 rw[Yc,hv,List.replicate_succ'];simp
structure Ask (z fb:Nat)(w X:World)(m:Im)(K:U0)(sv:Value)(f:Fr)(d:RU)(args:List Vl)(x:Kn.W×Nat):Prop where
 fp:U5 z fb w X m K sv f d
 oa:Off X K fb d.sv (w.heap.size+1)
 ba:X.heap[w.heap.size+1]?=some (.cells (vcs args).toArray 79)
 op:Off X K fb d.sv w.heap.size
 bp:X.heap[w.heap.size]?=some (.cells (U4 x) 188)
theorem Ask.post {z fb:Nat}{w X X':World}{K:U0}{sv:Value}{f f2:Fr}{d d2:RU}{args:List Vl}{x:Kn.W×Nat}(h:Ask z fb w X m K sv f d args x)(h2:U5 z fb X X' m K d.sv f2 d2):Ask z fb w X' m K sv f2 d2 args x:=
 ⟨h.fp.trans h2,(h2.off _ h.oa).1,(h2.off _ h.oa).2.trans h.ba,(h2.off _ h.op).1,(h2.off _ h.op).2.trans h.bp⟩
theorem Ask.below {z fb:Nat}{w X X':World}{K:U0}{sv:Value}{d:RU}{args:List Vl}{x:Kn.W×Nat}(h:Ask z fb w X m K sv f d args x)(hb:Below X.heap.size X X'):Ask z fb w X' m K sv f d args x:=h.post ((U5.refl h.fp.rk h.fp.fr).below hb)
theorem Ask.put {z fb:Nat}{w X:World}{K:U0}{sv:Value}{d:RU}{args:List Vl}{x:Kn.W×Nat}(h:Ask z fb w X m K sv f d args x){p:Nat}(hp:Off X K fb d.sv p)(hz:z<=p)(hw:w.heap.size+2<=p)(o:Nat)(v:Value):Ask z fb w (X.setCell (VJ p o) v) m K sv f d args x:=
 ⟨h.fp.put hp hz VH o v,h.oa.set _ _,(ZW _ _ _ _ (by show w.heap.size+1≠p;omega)).trans h.ba,h.op.set _ _,(ZW _ _ _ _ (by show w.heap.size≠p;omega)).trans h.bp⟩
theorem Ask.args {z fb:Nat}{w X:World}{K:U0}{sv:Value}{d:RU}{args:List Vl}{x:Kn.W×Nat}(h:Ask z fb w X m K sv f d args x){N:Nat}(hN:args.length=N):UH X (.slice (some (VJ (w.heap.size+1) 0)) N N) args (w.heap.size+1):=by
 refine⟨_,_,by rw[hN],λ_=>⟨_,rfl,rfl,λj u hu=>?_⟩⟩;rw[XJ,YU];simp only[World.cell?,h.ba];simpa using hu
theorem UZ.sent {z fb:Nat}{w X X':World}{K K':U0}{sv:Value}{d:RU}{g:SN}{v:Vl}(h:U5 z fb w X m K sv f d)(hs:Vu X X' m K m' K')(Rm:K'.fu<=K.fu)(he:uD g (f::fs) v m' K'){Hd:Value}{d2:RU}(h2:U5 z fb X' w' m' K' Hd {f with st:=v::f.st} d2):UZ z fb w K g fs (.returned (.tuple #[])) w':=
 ⟨m',K',rfl,h2.rk,(h.run.trans (hs.run z fb)).trans h2.run,Rm,he.imp (λe=>⟨e.1,_,_,h2.fr,e.2⟩) (λe=>e)⟩
theorem akx {z:Nat}{K:U0}{fb:Nat}{d:RU}(fs:List Fr)(D N:Nat)(hS:FQ D)(hk:RK w m K)(hen:K.en=0)(Pp:K.fu<=3000)(h:SX z w K fb f d)(hN:N<=3)(hs:f.st.length<=900)(sl xa xb:List UInt8)(xi:Nat)(hk0:Kl)(L7:m.kl[f.home]?=some hk0)(to:Vl)(r:List Vl)(hst:f.st.drop N=to::r)(X_:TF m to)(I':∀g∈({f with st:=r}::fs),Rk m 1 g) (hD:fs.length+1=D) (hargs:∀v∈(f.st.take N).reverse,TF m v) (U_:selector sl=true) (hal:N=U6 sl):
 Calls prog 153 #[VG K.b,VG fb,.agg (U4 (⟨115,(N:Nat),sl,xa,xb⟩,xi)),VI (D:Nat)] w (UZ z fb w K (m.send K.fu (m.of to) to (VF sl) (f.st.take N).reverse ({f with st:=r}::fs)) fs):=by
 have hmk:=Ba N VH;change Calls _ _ #[VG K.b,VG fb,.agg #[.int .u8 115,VI (N:Nat),.string (VF sl),.string (VF xa),.string (VF xb),VI (xi:Nat)],VI (D:Nat)] _ _;obtain⟨W0,hW0,Vc,Br,hb0⟩:=UW hk h (⟨115,(N:Nat),sl,xa,xb⟩,xi);change W0=w.alloc (.cells #[.int .u8 115,VI (N:Nat),.string (VF sl),.string (VF xa),.string (VF xb),VI (xi:Nat)] 188) at hW0;refine anz ?_;intro hz0 Gd S_ hb1 hb2;obtain⟨W,hW⟩:∃W,W=W0.alloc (.cells (vcs (List.replicate N Vl.zero)).toArray 79):=Vx;rw[<- hW]at Gd S_ hb1 hb2;rw[hz0]at Gd hb1;refine am5 ?_;intro yr HS HL HI p6
 have HT:Hid (f.st.drop N=to::r/\TF m to/\∀g∈({f with st:=r}::fs),Rk m 1 g):=⟨hst,X_,I'⟩
 have HW:Hid (U5 z fb w W m K d.sv f d/\Off W K fb d.sv (w.heap.size+1)/\W.heap[w.heap.size+1]?=some (.cells (vcs (List.replicate N Vl.zero)).toArray 79)/\Off W K fb d.sv w.heap.size/\W.heap[w.heap.size]?=some (.cells (U4 (⟨115,(N:Nat),sl,xa,xb⟩,xi)) 188)):=⟨S_,Gd,hb1,yr,hb2⟩
 rw[hW0]at hW;clear hk h Vc Br hb0 hz0 hW0 S_ Gd hb1 yr hb2 hS hen hD hargs U_ hal hs hst X_ I' L7;go_enter func153,ntmps153;go_wp2_with fail;rw[<- hW];clear hW hmk
 go_loopg [9] N (λgk iv wr=>iv=VI ((gk:Int)-1)/\gk<=N/\∃sv,U5 z fb w wr m K d.sv {f with st:=f.st.drop (N-gk)} {d with sv:=sv}/\Off wr K fb sv (w.heap.size+1)/\wr.heap[w.heap.size+1]?=some (.cells (vcs (List.replicate gk Vl.zero++(f.st.take (N-gk)).reverse)).toArray 79)/\Off wr K fb sv w.heap.size/\wr.heap[w.heap.size]?=some (.cells (U4 (⟨115,(N:Nat),sl,xa,xb⟩,xi)) 188))
 case atStart=>exact⟨Uu,ZN _,d.sv,by rw[Y0];exact HW.o.1,HW.o.2.1,by rw[Y0];simpa using HW.o.2.2.1,HW.o.2.2.2.1,HW.o.2.2.2.2⟩
 case round=>
  obtain⟨rfl,de,sv,hF,FSq,Mv,Da,E3⟩:=hrel
  cases gk with
  | zero=>
   have Vc:=hF;rw[Nat.sub_zero]at Vc Mv;simp only[List.replicate_zero,Yg]at Mv
   have hA:Ask z fb w wr m K d.sv {f with st:=f.st.drop N} {d with sv:=sv} (f.st.take N).reverse (⟨115,(N:Nat),sl,xa,xb⟩,xi):=⟨Vc,FSq,Mv,Da,E3⟩
   refine aiD ?_;intro hT hA1 IA hwT _ g2;obtain⟨X,hX⟩:∃X,X=wr.alloc (.cells #[.bool f.self.obj,VI f.self.n] 79):=Vx;rw[<- hX]at hT hA1 IA;refine ah6 ?_;intro f1 cg Fm hcv hat hk1 hk2 hk3 y hy d1 c0 Pu hA2
   have pk:X.drew.cell? (VJ w.heap.size 0)=some (.int .u8 115):=by
    show X.cell? (VJ w.heap.size 0)=_;simp only[World.cell?,hA1.bp];rfl
   have FO:Hid (Ask z fb w X.drew m K d.sv {f with st:=f.st.drop N} {d with sv:=sv} (f.st.take N).reverse (⟨115,(N:Nat),sl,xa,xb⟩,xi)/\Off X.drew K fb sv wr.heap.size/\X.drew.heap[wr.heap.size]?=some (.cells #[.bool f.self.obj,VI f.self.n] 79)/\w.heap.size+2<=wr.heap.size):=⟨hA2,⟨hT.lt,hT.nf,hT.ns,hT.nl⟩,IA,hwT⟩
   have hdr:=HT.o.1;have q9:=hA2;rw[hdr]at q9;have hp:=Hr (f:=f) q9.fp.rk q9.fp.fr (by have h8:=HL.o.2.1;have h8:=YV List.length hdr;simp at h8;omega);unfold Vl.val at hp;rw[hdr]at FO;clear q9 hdr hF Vc FSq Mv Da E3 hA hA1 hA2 hT IA hat hy hcv;go_wp2_with fail;rw[<- hX];clear hX;refine Uy ?_;refine ajk ?_;intro hHeld;refine KG ?_;refine Ur 11 ?_;refine Nr ?_;clear c0 d1 f1;go_wp2_with fail;refine hp.mono ?_;rintro e w2 ⟨rfl,Hd,Vc⟩;have hB:=FO.o.1.post Vc;have uk:=Vc.off _ FO.o.2.1;have Cu:=uk.2.trans FO.o.2.2.1;have d9:z<=wr.heap.size:=sJ;have hB2:=(hB.put uk.1 d9 FO.o.2.2.2 0 (.bool to.obj)).put (uk.1.set _ _) d9 FO.o.2.2.2 1 (VI to.n);have t0:=(Vp Cu).1;have t1:=(Vp Cu).2;have tf:∀o,w2.frozen? (VJ wr.heap.size o)=false:=λo=>UL.free ⟨_,_,Cu⟩ o;have bS:=uk.1.lt;obtain⟨y0,y1⟩:=RQ t0 t1 (.bool to.obj) (VI to.n);obtain⟨X2,SU⟩:∃X2,X2=(w2.setCell (VJ wr.heap.size 0) (.bool to.obj)).setCell (VJ wr.heap.size 1) (VI to.n):=Vx;have tj:wr.heap.size<X2.heap.size:=by rw[SU,UN,UN];exact bS
   rw[<- SU]at hB2 y0 y1;have hof:=aby hB2.fp.rk to HT.o.2.1;have Uv:Hid _:=hB2;unfold Vl.val at hof;clear Vc hB uk Cu hB2 hp pk;go_wp2_with fail;rw[<- SU];clear SU t0 t1 tf;refine hof.mono ?_;rintro e w2 ⟨rfl,hb0⟩;have hB2:=Uv.o.below hb0;have i6:=(hb0.cell (p:=(VJ wr.heap.size 0)) tj).trans y0;have i6:=(hb0.cell (p:=(VJ wr.heap.size 1)) tj).trans y1;have ps:w2.cell? (VJ w.heap.size 2)=some (.string (VF sl)):=by simp only[World.cell?,hB2.bp];rfl
   have w_:=HS.o w2 m K ({f with st:=r}::fs) to ((m.of to)) (VF sl) (.slice (some (VJ (w.heap.size+1) 0)) N N) (f.st.take N).reverse (w.heap.size+1) hB2.fp.rk HI.o.2.1 Pp HI.o.2.2.1 HT.o.2.2 HT.o.2.1 HI.o.2.2.2.1 HI.o.2.2.2.2.1 ajp (IL HI.o.1.ok HT.o.2.1) (hB2.args ahq) (λ_=>⟨hB2.oa.nl,hB2.oa.lt⟩);have Uv:Hid _:=hB2;unfold Vl.val at w_;clear hb0 hB2 hof y0 y1;go_wp2_with fail;refine w_.mono ?_;rintro e w4 ⟨v,m',K',rfl,hst,Rm,d_⟩;have hs5:=hst.trans (Vu.below hst.rk aeh);have H0:=Uv.o.fp.fr.step hs5;have A0:=PK hs5.rk H0 (by have:=HL.o.2.1;simp only;have h8:=YV List.length HT.o.1;simp at h8;omega) v
   have H5:Hid (Vu w2 (w4.alloc (.cells #[.bool v.obj,VI v.n] 79)) m K m' K'/\K'.fu<=K.fu/\uD (m.send K.fu (m.of to) to (VF sl) (f.st.take N).reverse ({f with st:=r}::fs)) ({f with st:=r}::fs) v m' K'):=⟨hs5,Rm,d_⟩
   unfold Vl.val at A0 ⊢;clear w_ hst Rm d_ hs5 H0;go_wp2_with fail;refine A0.mono ?_;rintro e w2 ⟨rfl,Hd,EQ⟩;have HX:=UQ (UZ.sent Uv.o.fp H5.o.1 H5.o.2.1 H5.o.2.2 EQ);clear EQ A0;go_wp2
   go_end0
   exact HX.o
  | succ g=>
   obtain⟨v,hv1,hv2⟩:=drop_cons (l:=f.st) (c:=N-(g+1)) (by have:=HL.o.1;omega);have Vc:=hF;rw[hv1]at Vc;have hp:=Hr (f:=f) Vc.rk Vc.fr aiL
   have HG:Hid (U5 z fb w wr m K d.sv {f with st:=v::f.st.drop (N-(g+1)+1)} {d with sv:=sv}/\Off wr K fb sv (w.heap.size+1)/\wr.heap[w.heap.size+1]?=some (.cells (vcs (List.replicate (g+1) Vl.zero++(f.st.take (N-(g+1))).reverse)).toArray 79)/\Off wr K fb sv w.heap.size/\wr.heap[w.heap.size]?=some (.cells (U4 (⟨115,(N:Nat),sl,xa,xb⟩,xi)) 188)/\f.st[N-(g+1)]?=some v):=⟨Vc,FSq,Mv,Da,E3,hv2⟩
   have sR:(((g+1:Nat):Int)-1)=(g:Nat):=VH;rw[sR];have hgn:(g:Int)<(N:Int):=VH;unfold Vl.val at hp;clear hF Vc FSq Mv Da E3 hv1 hv2 sR;go_wp2_with fail;refine hp.mono ?_;rintro e w2 ⟨rfl,Hd,S_⟩;refine ajf ?_;intro Jn hop hb u hu DH;have q0:w2.cell? (VJ (w.heap.size+1) (g*2))=some (.bool u.obj):=by simp only[World.cell?,hb];simpa using DH.1
   have q0:w2.cell? (VJ (w.heap.size+1) (g*2+1))=some (VI u.n):=by simp only[World.cell?,hb];simpa using DH.2
   have qf:∀o,w2.frozen? (VJ (w.heap.size+1) o)=false:=λo=>UL.free ⟨_,_,hb⟩ o
   have oY:=(((HG.o.1.trans S_).put Jn.1 sJ VH (g*2) (.bool v.obj)).put (Jn.1.set _ _) sJ VH (g*2+1) (VI v.n))
   have Od:((w2.setCell (VJ (w.heap.size+1) (g*2)) (.bool v.obj)).setCell (VJ (w.heap.size+1) (g*2+1)) (VI v.n)).heap[w.heap.size+1]?=some (.cells (vcs (List.replicate g Vl.zero++(f.st.take (N-g)).reverse)).toArray 79):=by
    exact aoe
   have ua:((w2.setCell (VJ (w.heap.size+1) (g*2)) (.bool v.obj)).setCell (VJ (w.heap.size+1) (g*2+1)) (VI v.n)).heap[w.heap.size]?=some (.cells (U4 (⟨115,(N:Nat),sl,xa,xb⟩,xi)) 188):=((ZW _ _ _ _ (by show w.heap.size≠w.heap.size+1;omega)).trans (ZW _ _ _ _ (by show w.heap.size≠w.heap.size+1;omega))).trans (hop.2.trans HG.o.2.2.2.2.1)
   have HR:Hid (∃sv,U5 z fb w ((w2.setCell (VJ (w.heap.size+1) (g*2)) (.bool v.obj)).setCell (VJ (w.heap.size+1) (g*2+1)) (VI v.n)) m K d.sv {f with st:=f.st.drop (N-g)} {d with sv:=sv}/\Off ((w2.setCell (VJ (w.heap.size+1) (g*2)) (.bool v.obj)).setCell (VJ (w.heap.size+1) (g*2+1)) (VI v.n)) K fb sv (w.heap.size+1)/\((w2.setCell (VJ (w.heap.size+1) (g*2)) (.bool v.obj)).setCell (VJ (w.heap.size+1) (g*2+1)) (VI v.n)).heap[w.heap.size+1]?=some (.cells (vcs (List.replicate g Vl.zero++(f.st.take (N-g)).reverse)).toArray 79)/\Off ((w2.setCell (VJ (w.heap.size+1) (g*2)) (.bool v.obj)).setCell (VJ (w.heap.size+1) (g*2+1)) (VI v.n)) K fb sv w.heap.size/\((w2.setCell (VJ (w.heap.size+1) (g*2)) (.bool v.obj)).setCell (VJ (w.heap.size+1) (g*2+1)) (VI v.n)).heap[w.heap.size]?=some (.cells (U4 (⟨115,(N:Nat),sl,xa,xb⟩,xi)) 188)):=⟨Hd,ajx,(Jn.1.set _ _).set _ _,Od,(hop.1.set _ _).set _ _,ua⟩
   clear S_ Jn hop hb hu DH oY Od ua hp;go_wp2
   go_roundg g
   case measure=>omega
   case rel=>exact⟨Uu,VH,HR.o⟩
theorem af6 {z:Nat}{K:U0}{fb:Nat}{d:RU}(fs:List Fr)(D N:Nat)(hS:FQ D)(hk:RK w m K)(hen:K.en=0)(Pp:K.fu<=3000)(h:SX z w K fb f d)(hN:N<=3)(hs:f.st.length<=900)(sl xa xb:List UInt8)(xi:Nat)(hk0:Kl)(L7:m.kl[f.home]?=some hk0)(hNl:N<=f.st.length)(UI:TF m f.self)(hab:∀c,m.kl[f.home]?.bind (·.above)=some c->c<m.kl.length/\m.tot c<=m.width f.self)(I':∀g∈({f with st:=f.st.drop N}::fs),Rk m 1 g) (hD:fs.length+1=D) (hargs:∀v∈(f.st.take N).reverse,TF m v) (U_:selector sl=true) (hal:N=U6 sl):
 Calls prog 153 #[VG K.b,VG fb,.agg (U4 (⟨94,(N:Nat),sl,xa,xb⟩,xi)),VI (D:Nat)] w (UZ z fb w K (m.send K.fu (m.kl[f.home]?.bind (·.above)) f.self (VF sl) (f.st.take N).reverse ({f with st:=f.st.drop N}::fs)) fs):=by
 have hmk:=Ba N VH;change Calls _ _ #[VG K.b,VG fb,.agg #[.int .u8 94,VI (N:Nat),.string (VF sl),.string (VF xa),.string (VF xb),VI (xi:Nat)],VI (D:Nat)] _ _;obtain⟨W0,hW0,Vc,Br,hb0⟩:=UW hk h (⟨94,(N:Nat),sl,xa,xb⟩,xi);change W0=w.alloc (.cells #[.int .u8 94,VI (N:Nat),.string (VF sl),.string (VF xa),.string (VF xb),VI (xi:Nat)] 188) at hW0;refine anz ?_;intro hz0 Gd S_ hb1 hb2;obtain⟨W,hW⟩:∃W,W=W0.alloc (.cells (vcs (List.replicate N Vl.zero)).toArray 79):=Vx;rw[<- hW]at Gd S_ hb1 hb2;rw[hz0]at Gd hb1;refine am5 ?_;intro yr HS HL HI p6;have HT:Hid _:=I';have HFV:=UQ UI;have o5:Hid _:=hab
 have HW:Hid (U5 z fb w W m K d.sv f d/\Off W K fb d.sv (w.heap.size+1)/\W.heap[w.heap.size+1]?=some (.cells (vcs (List.replicate N Vl.zero)).toArray 79)/\Off W K fb d.sv w.heap.size/\W.heap[w.heap.size]?=some (.cells (U4 (⟨94,(N:Nat),sl,xa,xb⟩,xi)) 188)):=⟨S_,Gd,hb1,yr,hb2⟩
 rw[hW0]at hW;clear hk h Vc Br hb0 hz0 hW0 S_ Gd hb1 yr hb2 hS hen hD hargs U_ hal hs UI hab I' L7 hNl;go_enter func153,ntmps153;go_wp2_with fail;rw[<- hW];clear hW hmk
 go_loopg [9] N (λgk iv wr=>iv=VI ((gk:Int)-1)/\gk<=N/\∃sv,U5 z fb w wr m K d.sv {f with st:=f.st.drop (N-gk)} {d with sv:=sv}/\Off wr K fb sv (w.heap.size+1)/\wr.heap[w.heap.size+1]?=some (.cells (vcs (List.replicate gk Vl.zero++(f.st.take (N-gk)).reverse)).toArray 79)/\Off wr K fb sv w.heap.size/\wr.heap[w.heap.size]?=some (.cells (U4 (⟨94,(N:Nat),sl,xa,xb⟩,xi)) 188))
 case atStart=>exact⟨Uu,ZN _,d.sv,by rw[Y0];exact HW.o.1,HW.o.2.1,by rw[Y0];simpa using HW.o.2.2.1,HW.o.2.2.2.1,HW.o.2.2.2.2⟩
 case round=>
  obtain⟨rfl,de,sv,hF,FSq,Mv,Da,E3⟩:=hrel
  cases gk with
  | zero=>
   have Vc:=hF;rw[Nat.sub_zero]at Vc Mv;simp only[List.replicate_zero,Yg]at Mv
   have hA:Ask z fb w wr m K d.sv {f with st:=f.st.drop N} {d with sv:=sv} (f.st.take N).reverse (⟨94,(N:Nat),sl,xa,xb⟩,xi):=⟨Vc,FSq,Mv,Da,E3⟩
   refine aiD ?_;intro hT hA1 IA hwT _ g2;obtain⟨X,hX⟩:∃X,X=wr.alloc (.cells #[.bool f.self.obj,VI f.self.n] 79):=Vx;rw[<- hX]at hT hA1 IA;refine ah6 ?_;intro f1 cg Fm hcv hat hk1 hk2 hk3 y hy d1 c0 Pu hA2
   have pk:X.drew.cell? (VJ w.heap.size 0)=some (.int .u8 94):=by
    show X.cell? (VJ w.heap.size 0)=_;simp only[World.cell?,hA1.bp];rfl
   have FO:Hid (Ask z fb w X.drew m K d.sv {f with st:=f.st.drop N} {d with sv:=sv} (f.st.take N).reverse (⟨94,(N:Nat),sl,xa,xb⟩,xi)/\Off X.drew K fb sv wr.heap.size/\X.drew.heap[wr.heap.size]?=some (.cells #[.bool f.self.obj,VI f.self.n] 79)/\w.heap.size+2<=wr.heap.size):=⟨hA2,⟨hT.lt,hT.nf,hT.ns,hT.nl⟩,IA,hwT⟩
   have i6:=(Vp (w:=X.drew) IA).1;have y13:=(Vp (w:=X.drew) IA).2
   have ps:X.drew.cell? (VJ w.heap.size 2)=some (.string (VF sl)):=by
    show X.cell? (VJ w.heap.size 2)=_;simp only[World.cell?,hA1.bp];rfl
   have hcn:Qh (m.kl[f.home]?.bind (·.above))=Qh hk1.above:=by rw[hk2];rfl
   clear hF Vc FSq Mv Da E3 hA hA1 hA2 hT IA hat hy hcv;go_wp2_with fail;rw[<- hX];clear hX;refine Uy ?_;refine ajk ?_;intro hHeld;refine KG ?_;refine Ur 11 ?_;refine Nr ?_;clear c0 d1 f1;go_wp2_with fail;have j_:=FO.o.1;have w_:=HS.o X.drew m K ({f with st:=f.st.drop N}::fs) f.self ((m.kl[f.home]?.bind (·.above))) (VF sl) (.slice (some (VJ (w.heap.size+1) 0)) N N) (f.st.take N).reverse (w.heap.size+1) j_.fp.rk HI.o.2.1 Pp HI.o.2.2.1 HT.o HFV.o HI.o.2.2.2.1 HI.o.2.2.2.2.1 ajp o5.o (j_.args ahq) (λ_=>⟨j_.oa.nl,j_.oa.lt⟩);have VM:Hid _:=j_;rw[hcn]at w_;unfold Vl.val at w_;clear j_ i6 y13 ps;refine w_.mono ?_;rintro e w4 ⟨v,m',K',rfl,hst,Rm,d_⟩;have hs5:=hst.trans (Vu.below hst.rk aeh);have H0:=VM.o.fp.fr.step hs5;have A0:=PK hs5.rk H0 (by have:=HL.o.2.1;simp only;simp;omega) v
   have H5:Hid (Vu X.drew (w4.alloc (.cells #[.bool v.obj,VI v.n] 79)) m K m' K'/\K'.fu<=K.fu/\uD (m.send K.fu (m.kl[f.home]?.bind (·.above)) f.self (VF sl) (f.st.take N).reverse ({f with st:=f.st.drop N}::fs)) ({f with st:=f.st.drop N}::fs) v m' K'):=⟨hs5,Rm,d_⟩
   unfold Vl.val at A0 ⊢;clear w_ hst Rm d_ hs5 H0;go_wp2_with fail;refine A0.mono ?_;rintro e w4 ⟨rfl,j5,EQ⟩;have HX:=UQ (UZ.sent VM.o.fp H5.o.1 H5.o.2.1 H5.o.2.2 EQ);clear EQ A0;go_wp2
   go_end0
   exact HX.o
  | succ g=>
   obtain⟨v,hv1,hv2⟩:=drop_cons (l:=f.st) (c:=N-(g+1)) (by have:=HL.o.1;omega);have Vc:=hF;rw[hv1]at Vc;have hp:=Hr (f:=f) Vc.rk Vc.fr aiL
   have HG:Hid (U5 z fb w wr m K d.sv {f with st:=v::f.st.drop (N-(g+1)+1)} {d with sv:=sv}/\Off wr K fb sv (w.heap.size+1)/\wr.heap[w.heap.size+1]?=some (.cells (vcs (List.replicate (g+1) Vl.zero++(f.st.take (N-(g+1))).reverse)).toArray 79)/\Off wr K fb sv w.heap.size/\wr.heap[w.heap.size]?=some (.cells (U4 (⟨94,(N:Nat),sl,xa,xb⟩,xi)) 188)/\f.st[N-(g+1)]?=some v):=⟨Vc,FSq,Mv,Da,E3,hv2⟩
   have sR:(((g+1:Nat):Int)-1)=(g:Nat):=VH;rw[sR];have hgn:(g:Int)<(N:Int):=VH;unfold Vl.val at hp;clear hF Vc FSq Mv Da E3 hv1 hv2 sR;go_wp2_with fail;refine hp.mono ?_;rintro e w4 ⟨rfl,j5,S_⟩;refine ajf ?_;intro Jn hop hb u hu DH;have q0:w4.cell? (VJ (w.heap.size+1) (g*2))=some (.bool u.obj):=by simp only[World.cell?,hb];simpa using DH.1
   have q0:w4.cell? (VJ (w.heap.size+1) (g*2+1))=some (VI u.n):=by simp only[World.cell?,hb];simpa using DH.2
   have qf:∀o,w4.frozen? (VJ (w.heap.size+1) o)=false:=λo=>UL.free ⟨_,_,hb⟩ o
   have oY:=(((HG.o.1.trans S_).put Jn.1 sJ VH (g*2) (.bool v.obj)).put (Jn.1.set _ _) sJ VH (g*2+1) (VI v.n))
   have Od:((w4.setCell (VJ (w.heap.size+1) (g*2)) (.bool v.obj)).setCell (VJ (w.heap.size+1) (g*2+1)) (VI v.n)).heap[w.heap.size+1]?=some (.cells (vcs (List.replicate g Vl.zero++(f.st.take (N-g)).reverse)).toArray 79):=by
    exact aoe
   have ua:((w4.setCell (VJ (w.heap.size+1) (g*2)) (.bool v.obj)).setCell (VJ (w.heap.size+1) (g*2+1)) (VI v.n)).heap[w.heap.size]?=some (.cells (U4 (⟨94,(N:Nat),sl,xa,xb⟩,xi)) 188):=((ZW _ _ _ _ (by show w.heap.size≠w.heap.size+1;omega)).trans (ZW _ _ _ _ (by show w.heap.size≠w.heap.size+1;omega))).trans (hop.2.trans HG.o.2.2.2.2.1)
   have HR:Hid (∃sv,U5 z fb w ((w4.setCell (VJ (w.heap.size+1) (g*2)) (.bool v.obj)).setCell (VJ (w.heap.size+1) (g*2+1)) (VI v.n)) m K d.sv {f with st:=f.st.drop (N-g)} {d with sv:=sv}/\Off ((w4.setCell (VJ (w.heap.size+1) (g*2)) (.bool v.obj)).setCell (VJ (w.heap.size+1) (g*2+1)) (VI v.n)) K fb sv (w.heap.size+1)/\((w4.setCell (VJ (w.heap.size+1) (g*2)) (.bool v.obj)).setCell (VJ (w.heap.size+1) (g*2+1)) (VI v.n)).heap[w.heap.size+1]?=some (.cells (vcs (List.replicate g Vl.zero++(f.st.take (N-g)).reverse)).toArray 79)/\Off ((w4.setCell (VJ (w.heap.size+1) (g*2)) (.bool v.obj)).setCell (VJ (w.heap.size+1) (g*2+1)) (VI v.n)) K fb sv w.heap.size/\((w4.setCell (VJ (w.heap.size+1) (g*2)) (.bool v.obj)).setCell (VJ (w.heap.size+1) (g*2+1)) (VI v.n)).heap[w.heap.size]?=some (.cells (U4 (⟨94,(N:Nat),sl,xa,xb⟩,xi)) 188)):=⟨j5,ajx,(Jn.1.set _ _).set _ _,Od,(hop.1.set _ _).set _ _,ua⟩
   clear S_ Jn hop hb hu DH oY Od ua hp;go_wp2
   go_roundg g
   case measure=>omega
   case rel=>exact⟨Uu,VH,HR.o⟩
theorem acU {z:Nat}{K:U0}{fb:Nat}{d:RU}(fs:List Fr)(D:Int)(hk:RK w m K)(h:SX z w K fb f d)(n:Int)(sl xa xb:List UInt8)(xi:Nat)(g:SN)
 (hc:Calls prog 152 #[VG K.b,VG fb,.agg (U4 (⟨43,n,sl,xa,xb⟩,xi))] (w.alloc (.cells (U4 (⟨43,n,sl,xa,xb⟩,xi)) 188)) (UZ z fb (w.alloc (.cells (U4 (⟨43,n,sl,xa,xb⟩,xi)) 188)) K g fs)):
 Calls prog 140 #[VG K.b,VG fb,.agg (U4 (⟨43,n,sl,xa,xb⟩,xi)),VI D] w (UZ z fb w K g fs):=by
 obtain⟨W,hW,hF,hO,hb⟩:=UW hk h (⟨43,n,sl,xa,xb⟩,xi);rw[<- hW]at hc;change W=w.alloc (.cells #[.int .u8 43,VI n,.string (VF sl),.string (VF xa),.string (VF xb),VI (xi:Nat)] 188) at hW;change Calls _ _ #[VG K.b,VG fb,.agg #[.int .u8 43,VI n,.string (VF sl),.string (VF xa),.string (VF xb),VI (xi:Nat)],VI D] _ _;change Calls _ _ #[VG K.b,VG fb,.agg #[.int .u8 43,VI n,.string (VF sl),.string (VF xa),.string (VF xb),VI (xi:Nat)]] _ _ at hc;have HF:Hid _:=hF;clear hk h hF hO hb;go_enter func140,ntmps140;go_wp2_with fail;refine yJ ?_;intro e w' hw HX;obtain⟨m',K',rfl,_⟩:=hw;clear hc hW;go_wp2
 go_end0
 exact HX.o
theorem abS {z:Nat}{K:U0}{fb:Nat}{d:RU}(fs:List Fr)(D:Int)(hk:RK w m K)(h:SX z w K fb f d)(n:Int)(sl xa xb:List UInt8)(xi:Nat)(g:SN)
 (hc:Calls prog 152 #[VG K.b,VG fb,.agg (U4 (⟨45,n,sl,xa,xb⟩,xi))] (w.alloc (.cells (U4 (⟨45,n,sl,xa,xb⟩,xi)) 188)) (UZ z fb (w.alloc (.cells (U4 (⟨45,n,sl,xa,xb⟩,xi)) 188)) K g fs)):
 Calls prog 140 #[VG K.b,VG fb,.agg (U4 (⟨45,n,sl,xa,xb⟩,xi)),VI D] w (UZ z fb w K g fs):=by
 obtain⟨W,hW,hF,hO,hb⟩:=UW hk h (⟨45,n,sl,xa,xb⟩,xi);rw[<- hW]at hc;change W=w.alloc (.cells #[.int .u8 45,VI n,.string (VF sl),.string (VF xa),.string (VF xb),VI (xi:Nat)] 188) at hW;change Calls _ _ #[VG K.b,VG fb,.agg #[.int .u8 45,VI n,.string (VF sl),.string (VF xa),.string (VF xb),VI (xi:Nat)],VI D] _ _;change Calls _ _ #[VG K.b,VG fb,.agg #[.int .u8 45,VI n,.string (VF sl),.string (VF xa),.string (VF xb),VI (xi:Nat)]] _ _ at hc;have HF:Hid _:=hF;clear hk h hF hO hb;go_enter func140,ntmps140;go_wp2_with fail;refine yJ ?_;intro e w' hw HX;obtain⟨m',K',rfl,_⟩:=hw;clear hc hW;go_wp2
 go_end0
 exact HX.o
theorem adL {z:Nat}{K:U0}{fb:Nat}{d:RU}(fs:List Fr)(D:Int)(hk:RK w m K)(h:SX z w K fb f d)(n:Int)(sl xa xb:List UInt8)(xi:Nat)(g:SN)
 (hc:Calls prog 152 #[VG K.b,VG fb,.agg (U4 (⟨42,n,sl,xa,xb⟩,xi))] (w.alloc (.cells (U4 (⟨42,n,sl,xa,xb⟩,xi)) 188)) (UZ z fb (w.alloc (.cells (U4 (⟨42,n,sl,xa,xb⟩,xi)) 188)) K g fs)):
 Calls prog 140 #[VG K.b,VG fb,.agg (U4 (⟨42,n,sl,xa,xb⟩,xi)),VI D] w (UZ z fb w K g fs):=by
 obtain⟨W,hW,hF,hO,hb⟩:=UW hk h (⟨42,n,sl,xa,xb⟩,xi);rw[<- hW]at hc;change W=w.alloc (.cells #[.int .u8 42,VI n,.string (VF sl),.string (VF xa),.string (VF xb),VI (xi:Nat)] 188) at hW;change Calls _ _ #[VG K.b,VG fb,.agg #[.int .u8 42,VI n,.string (VF sl),.string (VF xa),.string (VF xb),VI (xi:Nat)],VI D] _ _;change Calls _ _ #[VG K.b,VG fb,.agg #[.int .u8 42,VI n,.string (VF sl),.string (VF xa),.string (VF xb),VI (xi:Nat)]] _ _ at hc;have HF:Hid _:=hF;clear hk h hF hO hb;go_enter func140,ntmps140;go_wp2_with fail;refine yJ ?_;intro e w' hw HX;obtain⟨m',K',rfl,_⟩:=hw;clear hc hW;go_wp2
 go_end0
 exact HX.o
theorem ada {z:Nat}{K:U0}{fb:Nat}{d:RU}(fs:List Fr)(D:Int)(hk:RK w m K)(h:SX z w K fb f d)(n:Int)(sl xa xb:List UInt8)(xi:Nat)(g:SN)
 (hc:Calls prog 152 #[VG K.b,VG fb,.agg (U4 (⟨60,n,sl,xa,xb⟩,xi))] (w.alloc (.cells (U4 (⟨60,n,sl,xa,xb⟩,xi)) 188)) (UZ z fb (w.alloc (.cells (U4 (⟨60,n,sl,xa,xb⟩,xi)) 188)) K g fs)):
 Calls prog 140 #[VG K.b,VG fb,.agg (U4 (⟨60,n,sl,xa,xb⟩,xi)),VI D] w (UZ z fb w K g fs):=by
 obtain⟨W,hW,hF,hO,hb⟩:=UW hk h (⟨60,n,sl,xa,xb⟩,xi);rw[<- hW]at hc;change W=w.alloc (.cells #[.int .u8 60,VI n,.string (VF sl),.string (VF xa),.string (VF xb),VI (xi:Nat)] 188) at hW;change Calls _ _ #[VG K.b,VG fb,.agg #[.int .u8 60,VI n,.string (VF sl),.string (VF xa),.string (VF xb),VI (xi:Nat)],VI D] _ _;change Calls _ _ #[VG K.b,VG fb,.agg #[.int .u8 60,VI n,.string (VF sl),.string (VF xa),.string (VF xb),VI (xi:Nat)]] _ _ at hc;have HF:Hid _:=hF;clear hk h hF hO hb;go_enter func140,ntmps140;go_wp2_with fail;refine yJ ?_;intro e w' hw HX;obtain⟨m',K',rfl,_⟩:=hw;clear hc hW;go_wp2
 go_end0
 exact HX.o
theorem aai {z:Nat}{K:U0}{fb:Nat}{d:RU}(fs:List Fr)(D:Int)(hk:RK w m K)(h:SX z w K fb f d)(n:Int)(sl xa xb:List UInt8)(xi:Nat)(g:SN)
 (hc:Calls prog 153 #[VG K.b,VG fb,.agg (U4 (⟨115,n,sl,xa,xb⟩,xi)),VI D] (w.alloc (.cells (U4 (⟨115,n,sl,xa,xb⟩,xi)) 188)) (UZ z fb (w.alloc (.cells (U4 (⟨115,n,sl,xa,xb⟩,xi)) 188)) K g fs)):
 Calls prog 140 #[VG K.b,VG fb,.agg (U4 (⟨115,n,sl,xa,xb⟩,xi)),VI D] w (UZ z fb w K g fs):=by
 obtain⟨W,hW,hF,hO,hb⟩:=UW hk h (⟨115,n,sl,xa,xb⟩,xi);rw[<- hW]at hc;change W=w.alloc (.cells #[.int .u8 115,VI n,.string (VF sl),.string (VF xa),.string (VF xb),VI (xi:Nat)] 188) at hW;change Calls _ _ #[VG K.b,VG fb,.agg #[.int .u8 115,VI n,.string (VF sl),.string (VF xa),.string (VF xb),VI (xi:Nat)],VI D] _ _;change Calls _ _ #[VG K.b,VG fb,.agg #[.int .u8 115,VI n,.string (VF sl),.string (VF xa),.string (VF xb),VI (xi:Nat)],VI D] _ _ at hc;have HF:Hid _:=hF;clear hk h hF hO hb;go_enter func140,ntmps140;go_wp2_with fail;refine yJ ?_;intro e w' hw HX;obtain⟨m',K',rfl,_⟩:=hw;clear hc hW;go_wp2
 go_end0
 exact HX.o
theorem ab4 {z:Nat}{K:U0}{fb:Nat}{d:RU}(fs:List Fr)(D:Int)(hk:RK w m K)(h:SX z w K fb f d)(n:Int)(sl xa xb:List UInt8)(xi:Nat)(g:SN)
 (hc:Calls prog 153 #[VG K.b,VG fb,.agg (U4 (⟨94,n,sl,xa,xb⟩,xi)),VI D] (w.alloc (.cells (U4 (⟨94,n,sl,xa,xb⟩,xi)) 188)) (UZ z fb (w.alloc (.cells (U4 (⟨94,n,sl,xa,xb⟩,xi)) 188)) K g fs)):
 Calls prog 140 #[VG K.b,VG fb,.agg (U4 (⟨94,n,sl,xa,xb⟩,xi)),VI D] w (UZ z fb w K g fs):=by
 obtain⟨W,hW,hF,hO,hb⟩:=UW hk h (⟨94,n,sl,xa,xb⟩,xi);rw[<- hW]at hc;change W=w.alloc (.cells #[.int .u8 94,VI n,.string (VF sl),.string (VF xa),.string (VF xb),VI (xi:Nat)] 188) at hW;change Calls _ _ #[VG K.b,VG fb,.agg #[.int .u8 94,VI n,.string (VF sl),.string (VF xa),.string (VF xb),VI (xi:Nat)],VI D] _ _;change Calls _ _ #[VG K.b,VG fb,.agg #[.int .u8 94,VI n,.string (VF sl),.string (VF xa),.string (VF xb),VI (xi:Nat)],VI D] _ _ at hc;have HF:Hid _:=hF;clear hk h hF hO hb;go_enter func140,ntmps140;go_wp2_with fail;refine yJ ?_;intro e w' hw HX;obtain⟨m',K',rfl,_⟩:=hw;clear hc hW;go_wp2
 go_end0
 exact HX.o
theorem Hf {z:Nat}{K:U0}{fb:Nat}{f f':Fr}{d:RU}(fs:List Fr)(D:Int)(hk:RK w m K)(hen:K.en=0)(h:SX z w K fb f d)(k:Nat)(hkk:k=119\/k=98\/k=120\/k=118\/k=99)(n:Int)(sl xa xb:List UInt8)(xi:Nat)(g:SN)(er:Int)(he:er=0)(hg:g=.on m' K.fu (f'::fs))
 (hc:Calls prog 154 #[VG K.b,VG fb,.agg (U4 (⟨k,n,sl,xa,xb⟩,xi))] (w.alloc (.cells (U4 (⟨k,n,sl,xa,xb⟩,xi)) 188)) (Le z fb (w.alloc (.cells (U4 (⟨k,n,sl,xa,xb⟩,xi)) 188)) K er m' f')):
 Calls prog 140 #[VG K.b,VG fb,.agg (U4 (⟨k,n,sl,xa,xb⟩,xi)),VI D] w (UZ z fb w K g fs):=by
 obtain⟨W,hW,hF,hO,hb⟩:=UW hk h (⟨k,n,sl,xa,xb⟩,xi);rw[<- hW]at hc;change W=w.alloc (.cells #[.int .u8 (k:Nat),VI n,.string (VF sl),.string (VF xa),.string (VF xb),VI (xi:Nat)] 188) at hW;refine ajr ?_;change Calls _ _ #[VG K.b,VG fb,.agg #[.int .u8 (k:Nat),VI n,.string (VF sl),.string (VF xa),.string (VF xb),VI (xi:Nat)]] _ _ at hc;refine ank ?_;intro HF _ _ _ _ _ _ _ _ _ _ _ _ _ _ _ n110 _ _ _ _ _ _ _ _ _ _ _ _ _ _ _ Wc;clear hk h hF hO hb hen hkk;go_enter func140,ntmps140;go_wp2_with fail;rw[<- hW];refine hc.mono ?_;rintro e w' ⟨rfl,K',d',r1,r2,r3,r4,r5⟩;clear hc hW
 have HX:Hid (UZ z fb w K g fs (.returned (.tuple #[])) w'):=⟨m',K',rfl,r1,HF.o.1.run.trans r2,by rw[r3];exact ZN _,.inl ⟨r4.trans HF.o.2,f',d',r5,by rw[hg,r3];exact To.refl _⟩⟩
 clear r1 r2 r3 r4 r5 hg;subst he;go_wp2
 go_end0
 exact HX.o
theorem Ky {z:Nat}{K:U0}{fb:Nat}{f f':Fr}{d:RU}(fs:List Fr)(D:Int)(hk:RK w m K)(hen:K.en=0)(h:SX z w K fb f d)(k:Nat)(hkk:k=119\/k=98\/k=120\/k=118\/k=99)(n:Int)(sl xa xb:List UInt8)(xi:Nat)(g:SN)(er:Int)(he:er≠0)(hg:g=.stop m' 3)
 (hc:Calls prog 154 #[VG K.b,VG fb,.agg (U4 (⟨k,n,sl,xa,xb⟩,xi))] (w.alloc (.cells (U4 (⟨k,n,sl,xa,xb⟩,xi)) 188)) (Le z fb (w.alloc (.cells (U4 (⟨k,n,sl,xa,xb⟩,xi)) 188)) K er m' f')):
 Calls prog 140 #[VG K.b,VG fb,.agg (U4 (⟨k,n,sl,xa,xb⟩,xi)),VI D] w (UZ z fb w K g fs):=by
 obtain⟨W,hW,hF,hO,hb⟩:=UW hk h (⟨k,n,sl,xa,xb⟩,xi);rw[<- hW]at hc;change W=w.alloc (.cells #[.int .u8 (k:Nat),VI n,.string (VF sl),.string (VF xa),.string (VF xb),VI (xi:Nat)] 188) at hW;refine ajr ?_;change Calls _ _ #[VG K.b,VG fb,.agg #[.int .u8 (k:Nat),VI n,.string (VF sl),.string (VF xa),.string (VF xb),VI (xi:Nat)]] _ _ at hc;refine ank ?_;intro HF _ _ _ _ _ _ _ _ _ _ _ _ _ _ _ n110 _ _ _ _ _ _ _ _ _ _ _ _ _ _ _ Wc;clear hk h hF hO hb hen hkk;go_enter func140,ntmps140;go_wp2_with fail;rw[<- hW];refine hc.mono ?_;rintro e w' ⟨rfl,K',d',r1,r2,r3,r4,r5⟩;clear hc hW;have hE:=r1.end_ 3
 have HX:Hid (UZ z fb w K g fs (.returned (.tuple #[])) (w'.setCell (VJ K'.b 4) (VI 3))):=⟨m',_,rfl,hE.rk,(HF.o.1.run.trans r2).trans (hE.run z fb),by show K'.fu<=_;rw[r3];exact ZN _,.inr ⟨by show (3:Int)≠0;omega,by rw[hg];exact To.refl _⟩⟩
 have hbb:=r2.b;rw[hbb]at HX;have c4:=r1.c4;have cf:=λo=>r1.Vb.free o;have hl:=r1.Vb.lt;rw[hbb]at c4 cf hl;clear r1 r2 r3 r4 r5 hg hE hbb;go_wp2
 go_end0
 exact HX.o
theorem wrap_succ (n:Nat):Go.RowKit.wrap64 (Go.RowKit.wrap64 (n:Nat)+1)=Go.RowKit.wrap64 ((n+1:Nat):Int):=by
 unfold Go.RowKit.wrap64;omega
theorem oL (n:Int):Go.RowKit.wrap64 (Go.RowKit.wrap64 (n+1)+1)=Go.RowKit.wrap64 (n+2):=by
 unfold Go.RowKit.wrap64;omega
theorem aeL (v:Vl):UH (w.alloc (.cells #[.bool v.obj,VI v.n] 79)) (.slice (some (VJ w.heap.size 0)) 1 1) [v] w.heap.size:=by
 refine⟨_,_,rfl,λ_=>⟨_,rfl,rfl,λj u hu=>?_⟩⟩;have hb:=(Z4 w (.cells #[.bool v.obj,VI v.n] 79)).1;rw[XJ,YU];refine Iq ?_
 match j,hu with
 | 0,hu=>exact hu
 | 1,hu=>exact hu
theorem sN (h:U3 m){sel:ByteArray}{C_:Option Nat}{c:Nat}{ws:List (Kn.W×Nat)}(hf:m.find sel C_=some (c,ws))(Wr:∀c,C_=some c->c<m.kl.length):c<m.kl.length/\m.own c sel=some ws:=by
 unfold Im.find at hf
 cases C_ with
 | none=>cases hf
 | some a=>
  have:=yD h _ a c ws (Wr a rfl) hf;exact⟨this.1,this.2.2⟩
theorem ag5 (d:Nat)(hd:d<=32)(hR:d<32->aoV (d+1)):FQ d:=by
 intro w m K fs to C_ sel av args ab h hen Pp hfl I' X_ hargs U_ hal Wr W8 hab;have Wg:Hid _:=hfl;have pn:Hid _:=hen;have mK:=(Nu U_).2.2.2
 have HI:Hid ((∀g∈fs,Rk m 1 g)/\TF m to/\(∀v∈args,TF m v)/\args.length<=3/\args.length=U6 (bl sel)/\(∀c,C_=some c->c<m.kl.length/\m.tot c<=m.width to)):=⟨I',X_,hargs,VH,hal,Wr⟩
 have hs0:=h.look (m.looks+1);rw[show ((m.looks+1:Nat):Int)=(m.looks:Int)+1 from VH]at hs0;obtain⟨W,hW⟩:∃W,W=w.setCell (VJ K.b 2) (VI (Go.RowKit.wrap64 ((m.looks:Int)+1))):=Vx;rw[<- hW]at hs0;have Ki:W.heap.size=w.heap.size:=by rw[hW,UN]
 obtain⟨X,hX⟩:∃X,X=(W.alloc (.cells #[.bool to.obj,VI to.n] 79)).alloc (.cells #[.bool false,VI 0] 79):=Vx;have hB:Below W.heap.size W X:=by rw[hX];exact((ZR _ W).alloc UM _).alloc Vy _
 have G0:X.heap.size=w.heap.size+2:=by rw[hX,<- Ki];simp
 have xj:X.heap[w.heap.size]?=some (.cells #[.bool to.obj,VI to.n] 79):=by
  rw[hX,<- Ki];exact(ZV _ _ _ Vy).trans (Z4 W _).1
 have xv:X.heap[w.heap.size+1]?=some (.cells #[.bool false,VI 0] 79):=by
  rw[hX,<- Ki];have:=(Z4 (W.alloc (.cells #[.bool to.obj,VI to.n] 79)) (.cells #[.bool false,VI 0] 79)).1;rw[ZJ]at this;exact this
 have hs1:=hs0.trans (Vu.below hs0.rk hB);rw[hW]at hX;have hw2:=wrap_succ m.looks;rw[show ((m.looks+1:Nat):Int)=(m.looks:Int)+1 from VH]at hw2;have c2:=h.c2;have cf:=λo=>h.Vb.free o;have hbl:=h.Vb.lt;have Z1:¬K.b=w.heap.size:=VH;have W7:¬w.heap.size=K.b:=VH;have Te:¬K.b=w.heap.size+1:=VH;have pQ:¬w.heap.size+1=K.b:=VH;have C7:w.heap.size+1<X.heap.size:=VH;have HH:Hid _:=h
 have sy:Hid (UH w av args ab/\(args≠[]->K.lab ab=.no/\ab<w.heap.size)):=⟨W8,hab⟩
 have Ha:=λx e=>(Wr x e).1;have hf1:=hs1.rk.ahr C_ Ha sel;rw[FV]at hf1;obtain⟨m1,hm1⟩:∃m1:Im,m1={m with looks:=m.looks+1}:=Vx;rw[<- hm1]at hs1
 cases J':m.find sel C_ with
 | some r=>
  obtain⟨c,ws⟩:=r
  have hsend:m.send K.fu C_ to sel args fs=if 32<=fs.length then .stop m1 4 else .on m1 K.fu (⟨ws,c,to,args,0,[]⟩::fs):=by
   unfold Im.send;rw[J',hm1]
  have hown:m1.own c sel=some ws:=by rw[hm1];exact(sN h.ok J' Ha).2
  rw[J']at hf1;simp only[ZG,Qh]at hf1;have HX:Hid _:=hs1
  have HA:Hid (UH X av args ab/\(args≠[]->K.lab ab=.no/\ab<X.heap.size)):=by
   have hx1:UH X av args ab/\(args≠[]->K.lab ab=.no/\ab<X.heap.size):=⟨W8.same (λe=>hs1.Ut.block _ (hab e).2 (λx=>x.1 (hab e).1)),λe=>⟨(hab e).1,ZY (hab e).2 hs1.Ut.size⟩⟩
   exact hx1
  have t0:X.cell? (VJ w.heap.size 0)=some (.bool to.obj):=by simp only[World.cell?,xj];rfl
  have t1:X.cell? (VJ w.heap.size 1)=some (VI to.n):=by simp only[World.cell?,xj];rfl
  have z0:X.cell? (VJ (w.heap.size+1) 0)=some (.bool false):=by simp only[World.cell?,xv];rfl
  have z1:X.cell? (VJ (w.heap.size+1) 1)=some (VI 0):=by simp only[World.cell?,xv];rfl
  have zf:∀o,X.frozen? (VJ (w.heap.size+1) o)=false:=λo=>UL.free ⟨_,_,xv⟩ o;have xf:∀o,X.frozen? (VJ K.b o)=false:=λo=>hs1.rk.Vb.free o;have hxb:K.b<X.heap.size:=VH;obtain⟨nt,yi⟩:∃s,s=sel:=Vx;obtain⟨av1,T8⟩:∃s,s=av:=Vx;obtain⟨Rd,PF⟩:∃s,s=args:=Vx;obtain⟨om,uc⟩:∃s,s=ab:=Vx;rw[<- T8,<- PF,<- uc]at HA;rw[<- yi]at hown;rw[<- PF]at hsend;have n9:Hid (m.send K.fu C_ to sel args fs=if 32<=fs.length then .stop m1 4 else .on m1 K.fu (⟨ws,c,to,Rd,0,[]⟩::fs)):=by rw[<- PF];exact hsend
  clear hsend;clear h hfl hen I' X_ hargs hal Wr W8 hab hs0 hs1 hB xj xv sy hm1 Ha J' PF uc hW Ki;unfold Vl.val;go_enter func56,ntmps56;go_wp2_with fail;rw[<- hX];refine hf1.mono ?_;refine Sl ?_;rw[<- T8,<- yi];clear hf1 c2 cf T8 yi;have hsend:=n9.o;obtain⟨iB,AE,T8,_⟩:=HA.o.1;subst T8;have hxw:w.heap.size+2<=X.heap.size:=VH;clear G0;by_cases C':32<=d
  . rw[ZU gZ]at hsend;have Li:(32:Int)<=(d:Int):=VH
    have HE:Hid (lJ w m K (m.send K.fu C_ to sel args fs) fs (.returned (Vl.val Vl.zero)) (((X.setCell (VJ K.b 4) (VI 4)).setCell (VJ (w.heap.size+1) 0) (.bool false)).setCell (VJ (w.heap.size+1) 1) (VI 0))):=by
     have hx1:=HX.o.trans (HX.o.rk.end_ 4);have hx2:=hx1.told (z:=w.heap.size+1) IB jg (.bool false) (VI 0);exact⟨Vl.zero,m1,_,rfl,hx2,ZN _,.inr ⟨by show (4:Int)≠0;omega,by rw[hsend];exact To.refl _⟩⟩
    have x0:(X.setCell (VJ K.b 4) (VI 4)).cell? (VJ (w.heap.size+1) 0)=some (.bool false):=(VD yO).trans z0;have x1:(X.setCell (VJ K.b 4) (VI 4)).cell? (VJ (w.heap.size+1) 1)=some (VI 0):=(VD yO).trans z1;obtain⟨x2,x3⟩:=RQ x0 x1 (.bool false) (VI 0);have c4:=HX.o.rk.c4;clear hsend hX;go_wp2;exact ZQ (RI results56 _ _ rfl x2 x3) rfl HE.o
  . rw[ZX gZ]at hsend;refine ahi ?_;intro Li hok;obtain⟨k,i,g,Zs,mg,RM,q,hh,cc,hk,hoi,hil,hv,hg,c4,r9,d1,d0,NF,xt,hcl⟩:=HX.o.rk.found hown;have rR:=Vu.below HX.o.rk (ZR _ X).drew;have Ch:=rR.rk.agJ hk nt;rw[hoi]at Ch;have Lw:=LD HX.o.rk.ok c k hk;have L4:(K.cl.length:Int)<=12:=by rw[HX.o.rk.rel.len];have:=HX.o.rk.ok.few;omega
    refine adV ?_;intro Pu x6 Vn;have c0:=HX.o.rk.c0;rw[hv]at c0;obtain⟨nm,E_⟩:∃nm,nm=k.ms.length:=Vx;rw[<- E_]at c4 x6 Vn;obtain⟨Y,hY⟩:∃Y,Y=(X.alloc (.cells #[.slice q ws.length cc,VI (c:Nat),.bool to.obj,VI to.n,(.slice iB Rd.length AE),.slice none 0 0,VI 0] 182)).drew:=Vx;have Hv:Below X.heap.size X Y:=by rw[hY];exact((ZR _ X).alloc UM _).drew
    have rT:Y.heap.size=X.heap.size+1:=by rw[hY];show (X.alloc _).heap.size=_;simp
    have uL:Y.heap[X.heap.size]?=some (.cells #[.slice q ws.length cc,VI (c:Nat),.bool to.obj,VI to.n,(.slice iB Rd.length AE),.slice none 0 0,VI 0] 182):=by rw[hY];exact(Z4 X _).1
    have xD:=HX.o.trans (Vu.below HX.o.rk Hv)
    have hfr:SX Y.heap.size Y K X.heap.size ⟨ws,c,to,Rd,0,[]⟩ ⟨.slice none 0 0,(.slice iB Rd.length AE),.slice none 0 0,q,hh,cc,om⟩:=
     ⟨uL,NF.below UM Hv,xt,HA.o.1.same (λe=>Hv.block _ (HA.o.2 e).2),λe=>by
      have h9:=(HA.o.2 e).2
      exact⟨(HA.o.2 e).1,by show om<_;omega,by show om≠_;omega⟩,YW _ _ _ _,⟨HX.o.rk.QF UM,by omega⟩,λk e=>(by cases e),ZN _⟩
    have hrun:=hR VH Y m1 K X.heap.size _ fs _ xD.rk pn.o Pp hfr hok (by rw[Wg.o])
    have HS:Hid (Vu w Y m K m1 K/\m.send K.fu C_ to sel args fs=.on m1 K.fu (⟨ws,c,to,Rd,0,[]⟩::fs)):=⟨xD,hsend⟩
    have Fl:∀k,k<X.heap.size->Y.heap[k]?=X.heap[k]?:=λk hk=>Hv.block k hk;have y0:=(Z9 (a:=(VJ (w.heap.size+1) 0)) (Fl _ C7)).trans z0;have y1:=(Z9 (a:=(VJ (w.heap.size+1) 1)) (Fl _ C7)).trans z1;have ve:∀o,Y.frozen? (VJ (w.heap.size+1) o)=false:=λo=>(Zr (a:=(VJ (w.heap.size+1) o)) (Fl _ C7)).trans (zf o)
    have HY:Hid (Y.cell? (VJ (w.heap.size+1) 0)=some (.bool false)/\Y.cell? (VJ (w.heap.size+1) 1)=some (VI 0)/\(∀o,Y.frozen? (VJ (w.heap.size+1) o)=false)/\Y.heap.size=X.heap.size+1):=⟨y0,y1,ve,rT⟩
    clear E_ hsend hok NF hfr xD Hv uL Fl hk hown hX rR Lw hoi hil hcl y0 y1 ve xt rT hv;exact zz1
 | none=>
  rw[J']at hf1;simp only[Zm,Qh]at hf1;have G3:=hs1.trans (hs1.rk.look (m.looks+2));rw[show ((m.looks+2:Nat):Int)=(m.looks:Int)+2 from VH]at G3;obtain⟨X2,SU⟩:∃X2,X2=X.setCell (VJ K.b 2) (VI (Go.RowKit.wrap64 ((m.looks:Int)+2))):=Vx;rw[<- SU]at G3;have hw2:=oL (m.looks:Int);have x2:=hs1.rk.c2;rw[show m1.looks=m.looks+1 from by rw[hm1],show ((m.looks+1:Nat):Int)=(m.looks:Int)+1 from VH]at x2;have xf:=λo=>hs1.rk.Vb.free o;obtain⟨m1,hm2⟩:∃m1:Im,m1={m with looks:=m.looks+2}:=Vx
  have hs2:Vu w X2 m K m1 K:=by
   rw[hm2];rw[hm1]at G3;exact G3
  clear G3;have hf2:=hs2.rk.ahr C_ (λx e=>by rw[hm2];exact Ha x e) Qy;rw[hm2,FV]at hf2;have ri:X2.heap.size=X.heap.size:=by rw[SU,UN]
  have C6:∀k,k≠K.b->X2.heap[k]?=X.heap[k]?:=λk e=>by rw[SU];exact ZW X _ _ k yV
  have G4:=(C6 w.heap.size (λe=>W7 e)).trans xj;have KK:=(C6 (w.heap.size+1) (λe=>pQ e)).trans xv;obtain⟨q3,q8,Pd,qa⟩:=Nu U_;have hag:=LC sel X2 q8 VH Pd;rw[<- hal]at hag;have t0:X2.cell? (VJ w.heap.size 0)=some (.bool to.obj):=by simp only[World.cell?,G4];rfl
  have t1:X2.cell? (VJ w.heap.size 1)=some (VI to.n):=by simp only[World.cell?,G4];rfl
  have z0:X2.cell? (VJ (w.heap.size+1) 0)=some (.bool false):=by simp only[World.cell?,KK];rfl
  have z1:X2.cell? (VJ (w.heap.size+1) 1)=some (VI 0):=by simp only[World.cell?,KK];rfl
  have zf:∀o,X2.frozen? (VJ (w.heap.size+1) o)=false:=λo=>UL.free ⟨_,_,KK⟩ o;have eo:∀o,X2.frozen? (VJ K.b o)=false:=λo=>hs2.rk.Vb.free o;have hxb:K.b<X2.heap.size:=VH;have x4:=hs2.rk.c4
  cases T4:m.find Qy C_ with
  | none=>
   have hsend:m.send K.fu C_ to sel args fs=.stop m1 1:=by
    unfold Im.send;rw[J',hm2];simp only;rw[T4]
   rw[T4]at hf2;simp only[Zm,Qh]at hf2;have rN:Hid _:=hs2;have l6:Hid _:=hsend;obtain⟨an,Hh⟩:∃an,an=args.length:=Vx;rw[<- Hh]at hag;have hzl:w.heap.size+1<X2.heap.size:=VH;clear h hfl hen I' X_ hargs hal Wr W8 hab hs0 hs1 hB xj xv sy hm1 Ha J' hW Ki hs2 hm2 G4 KK hsend Hh C6 T4 G0 ri q3 q8 Pd qa;unfold Vl.val;go_enter func56,ntmps56;go_wp2_with fail;rw[<- hX];refine hf1.mono ?_;refine Sl ?_;clear hf1 c2 cf hX;go_wp2_with fail;rw[<- SU];refine hf2.mono ?_;refine Sl ?_;clear hf2 SU;go_wp2_with fail;refine hag.mono ?_;refine Sl ?_;clear hag;go_wp2_with fail;have hx1:=rN.o.trans (rN.o.rk.end_ 1);refine ahl ?_;intro hx2 hx3;have x0:(X2.setCell (VJ K.b 4) (VI 1)).cell? (VJ (w.heap.size+1) 0)=some (.bool false):=(VD yO).trans z0;have x1:(X2.setCell (VJ K.b 4) (VI 1)).cell? (VJ (w.heap.size+1) 1)=some (VI 0):=(VD yO).trans z1;obtain⟨x2,x3⟩:=RQ x0 x1 (.bool false) (VI 0);refine ZQ (RI (z:=w.heap.size+1) results56 _ _ rfl ((Z9 (a:=(VJ (w.heap.size+1) 0)) iJ).trans x2) ((Z9 (a:=(VJ (w.heap.size+1) 1)) iJ).trans x3)) rfl ?_;exact⟨Vl.zero,m1,_,rfl,hx3,ZN _,.inr ⟨by show (1:Int)≠0;omega,by rw[l6.o];exact To.refl _⟩⟩
  | some r=>
   obtain⟨c,ws⟩:=r;obtain⟨Xa,AK⟩:∃Xa,Xa=X2.alloc (.cells #[.bool false,VI (args.length:Nat)] 79):=Vx;have hBa:Below X2.heap.size X2 Xa:=by rw[AK];exact(ZR _ X2).alloc UM _
   have hs3:=hs2.trans (Vu.below hs2.rk hBa);have iN:Xa.heap.size=X2.heap.size+1:=by rw[AK];simp
   have hsend:m.send K.fu C_ to sel args fs=if 32<=fs.length then .stop m1 4 else .on m1 K.fu (⟨ws,c,to,[⟨false,args.length⟩],0,[]⟩::fs):=by
    unfold Im.send;rw[J',hm2];simp only;rw[T4]
   have hown:m1.own c Qy=some ws:=by rw[hm2];exact(sN h.ok T4 Ha).2
   rw[T4]at hf2;simp only[ZG,Qh]at hf2;have hA:UH Xa (.slice (some (VJ X2.heap.size 0)) 1 1) [⟨false,args.length⟩] X2.heap.size:=by rw[AK];exact aeL ⟨false,args.length⟩
   have hka:∀k,k<X2.heap.size->Xa.heap[k]?=X2.heap[k]?:=λk hk=>hBa.block k hk;have ze:=(hka w.heap.size VH).trans G4;have Dg:=(hka (w.heap.size+1) VH).trans KK
   have HZ:Hid (X2.cell? (VJ (w.heap.size+1) 0)=some (.bool false)/\X2.cell? (VJ (w.heap.size+1) 1)=some (VI 0)/\(∀o,X2.frozen? (VJ (w.heap.size+1) o)=false)/\X2.cell? (VJ K.b 4)=some (VI K.en)/\(∀o,X2.frozen? (VJ K.b o)=false)/\K.b<X2.heap.size/\w.heap.size+1<X2.heap.size):=⟨z0,z1,zf,x4,eo,hxb,VH⟩
   clear t0 t1 z0 z1 zf x4;have rN:Hid _:=hs2;have t0:Xa.cell? (VJ w.heap.size 0)=some (.bool to.obj):=by simp only[World.cell?,ze];rfl
   have t1:Xa.cell? (VJ w.heap.size 1)=some (VI to.n):=by simp only[World.cell?,ze];rfl
   have z0:Xa.cell? (VJ (w.heap.size+1) 0)=some (.bool false):=by simp only[World.cell?,Dg];rfl
   have z1:Xa.cell? (VJ (w.heap.size+1) 1)=some (VI 0):=by simp only[World.cell?,Dg];rfl
   have zf:∀o,Xa.frozen? (VJ (w.heap.size+1) o)=false:=λo=>UL.free ⟨_,_,Dg⟩ o;have xf3:∀o,Xa.frozen? (VJ K.b o)=false:=λo=>hs3.rk.Vb.free o;have aqd:K.b<Xa.heap.size:=VH;have W7:w.heap.size+1<Xa.heap.size:=VH;have ap3:w.heap.size+2<=Xa.heap.size:=VH;have C8:Hid _:=hs3
   have oS:Hid (UH Xa (.slice (some (VJ X2.heap.size 0)) 1 1) [⟨false,args.length⟩] X2.heap.size/\(([⟨false,args.length⟩]:List Vl)≠[]->K.lab X2.heap.size=.no/\X2.heap.size<Xa.heap.size)):=by
    have hx1:UH Xa (.slice (some (VJ X2.heap.size 0)) 1 1) [⟨false,args.length⟩] X2.heap.size/\(([⟨false,args.length⟩]:List Vl)≠[]->K.lab X2.heap.size=.no/\X2.heap.size<Xa.heap.size):=⟨hA,λ_=>⟨hs2.rk.QF UM,VH⟩⟩
    exact hx1
   have n9:Hid _:=hsend;have HOW:Hid _:=hown;obtain⟨an,Hh⟩:∃an,an=args.length:=Vx;rw[<- Hh]at hag AK;have HAN:Hid _:=Hh;clear h hfl hen I' X_ hargs hal Wr W8 hab hs0 hs1 hB xj xv sy hm1 Ha J' hW Ki hs2 hs3 hm2 hBa hA hka ze Dg G4 KK hsend hown Hh C6 T4 G0 ri q3 q8 Pd qa iN;unfold Vl.val;go_enter func56,ntmps56;go_wp2_with fail;rw[<- hX];refine hf1.mono ?_;refine Sl ?_;clear hf1 c2 cf hX;go_wp2_with fail;rw[<- SU];refine hf2.mono ?_;refine Sl ?_;clear hf2 SU;go_wp2_with fail;refine hag.mono ?_;refine Sl ?_;clear hag;have hsend:=n9.o;have hown:=HOW.o;by_cases C':32<=d
   . rw[ZU gZ]at hsend;have Li:(32:Int)<=(d:Int):=VH;have l6:Hid _:=hsend;clear hsend hown t0 t1 z0 z1 zf AK;obtain⟨z0,z1,zf,x4,eo,hxb,hzl⟩:=HZ.o;go_wp2_with fail;have hx1:=rN.o.trans (rN.o.rk.end_ 4);refine ahl ?_;intro hx2 hx3;have x0:(X2.setCell (VJ K.b 4) (VI 4)).cell? (VJ (w.heap.size+1) 0)=some (.bool false):=(VD yO).trans z0;have x1:(X2.setCell (VJ K.b 4) (VI 4)).cell? (VJ (w.heap.size+1) 1)=some (VI 0):=(VD yO).trans z1;obtain⟨x2,x3⟩:=RQ x0 x1 (.bool false) (VI 0);refine ZQ (RI (z:=w.heap.size+1) results56 _ _ rfl ((Z9 (a:=(VJ (w.heap.size+1) 0)) iJ).trans x2) ((Z9 (a:=(VJ (w.heap.size+1) 1)) iJ).trans x3)) rfl ?_;exact⟨Vl.zero,m1,_,rfl,hx3,ZN _,.inr ⟨by show (4:Int)≠0;omega,by rw[l6.o];exact To.refl _⟩⟩
   . have Li:(d:Int)<32:=by omega
     go_wp2_with fail;rw[<- AK];clear AK;rw[ZX gZ]at hsend;refine ahi ?_;intro Li hok;obtain⟨k,i,g,Zs,mg,RM,q,hh,cc,hk,hoi,hil,hv,hg,c4,r9,d1,d0,NF,xt,hcl⟩:=C8.o.rk.found hown;have rR:=Vu.below C8.o.rk (ZR _ Xa).drew;have Ch:=rR.rk.agJ hk Qy;rw[hoi]at Ch;have Lw:=LD C8.o.rk.ok c k hk;have L4:(K.cl.length:Int)<=12:=by rw[C8.o.rk.rel.len];have:=C8.o.rk.ok.few;omega
     refine adV ?_;intro Pu x6 Vn;have c0:=C8.o.rk.c0;rw[hv]at c0;obtain⟨nm,E_⟩:∃nm,nm=k.ms.length:=Vx;rw[<- E_]at c4 x6 Vn;obtain⟨Y,hY⟩:∃Y,Y=(Xa.alloc (.cells #[.slice q ws.length cc,VI (c:Nat),.bool to.obj,VI to.n,(.slice (some (VJ X2.heap.size 0)) 1 1),.slice none 0 0,VI 0] 182)).drew:=Vx;have Hv:Below Xa.heap.size Xa Y:=by rw[hY];exact((ZR _ Xa).alloc UM _).drew
     have rT:Y.heap.size=Xa.heap.size+1:=by rw[hY];show (Xa.alloc _).heap.size=_;simp
     have uL:Y.heap[Xa.heap.size]?=some (.cells #[.slice q ws.length cc,VI (c:Nat),.bool to.obj,VI to.n,(.slice (some (VJ X2.heap.size 0)) 1 1),.slice none 0 0,VI 0] 182):=by rw[hY];exact(Z4 Xa _).1
     have xD:=C8.o.trans (Vu.below C8.o.rk Hv)
     have hfr:SX Y.heap.size Y K Xa.heap.size ⟨ws,c,to,[⟨false,args.length⟩],0,[]⟩ ⟨.slice none 0 0,(.slice (some (VJ X2.heap.size 0)) 1 1),.slice none 0 0,q,hh,cc,X2.heap.size⟩:=
      ⟨uL,NF.below UM Hv,xt,oS.o.1.same (λe=>Hv.block _ (oS.o.2 e).2),λe=>by
       have h9:=(oS.o.2 e).2
       exact⟨(oS.o.2 e).1,by show X2.heap.size<_;omega,by show X2.heap.size≠_;omega⟩,YW _ _ _ _,⟨C8.o.rk.QF UM,by omega⟩,λk e=>(by cases e),ZN _⟩
     have hrun:=hR VH Y m1 K Xa.heap.size _ fs _ xD.rk pn.o Pp hfr hok (by rw[Wg.o])
     have HS:Hid (Vu w Y m K m1 K/\m.send K.fu C_ to sel args fs=.on m1 K.fu (⟨ws,c,to,[⟨false,args.length⟩],0,[]⟩::fs)):=⟨xD,hsend⟩
     have Fl:∀k,k<Xa.heap.size->Y.heap[k]?=Xa.heap[k]?:=λk hk=>Hv.block k hk;have y0:=(Z9 (a:=(VJ (w.heap.size+1) 0)) (Fl _ W7)).trans z0;have y1:=(Z9 (a:=(VJ (w.heap.size+1) 1)) (Fl _ W7)).trans z1;have ve:∀o,Y.frozen? (VJ (w.heap.size+1) o)=false:=λo=>(Zr (a:=(VJ (w.heap.size+1) o)) (Fl _ W7)).trans (zf o)
     have HY:Hid (Y.cell? (VJ (w.heap.size+1) 0)=some (.bool false)/\Y.cell? (VJ (w.heap.size+1) 1)=some (VI 0)/\(∀o,Y.frozen? (VJ (w.heap.size+1) o)=false)/\Y.heap.size=Xa.heap.size+1):=⟨y0,y1,ve,rT⟩
     clear E_ hsend hok NF hfr xD Hv uL Fl hk hown Z1 rR Lw hoi hil hcl y0 y1 ve xt rT hv;exact zz1
theorem akb {z:Nat}{K:U0}{fb:Nat}{d:RU}(fs:List Fr)(D:Int)(hk:RK w m K)(hen:K.en=0){v:Vl}{r:List Vl}(hr:r.length<=900)(h:SX z w K fb {f with st:=v::r} d) (n:Int) (sl xa xb:List UInt8) (xi:Nat):
 Calls prog 140 #[VG K.b,VG fb,.agg (U4 (⟨100,n,sl,xa,xb⟩,xi)),VI D] w (UZ z fb w K (VA m K.fu ⟨100,n,sl,xa,xb⟩ {f with st:=v::r} fs) fs):=by
 obtain⟨W,hW,hF,hO,hb⟩:=UW hk h (⟨100,n,sl,xa,xb⟩,xi);change W=w.alloc (.cells #[.int .u8 100,VI n,.string (VF sl),.string (VF xa),.string (VF xb),VI (xi:Nat)] 188) at hW;change Calls _ _ #[VG K.b,VG fb,.agg #[.int .u8 100,VI n,.string (VF sl),.string (VF xa),.string (VF xb),VI (xi:Nat)],VI D] _ _;refine NK ?_;intro HH;have HF:Hid (U5 z fb w W m K d.sv {f with st:=v::r} d/\Off W K fb d.sv w.heap.size/\W.heap[w.heap.size]?=some (.cells (U4 (⟨100,n,sl,xa,xb⟩,xi)) 188)):=SH;have hp:=Hr hF.rk hF.fr VH;unfold Vl.val at hp;clear hk h hF hO hb hen;go_enter func140,ntmps140;go_wp2_with fail;refine EF ?_;intro w1 P' S_;refine ahY ?_;intro G_ ho1 k_;obtain⟨W2,hW2⟩:∃W2,W2=w1.alloc (.cells #[.bool v.obj,VI v.n] 79):=Vx;rw[<- hW2]at G_ ho1 k_;have hp2:=PK G_.rk G_.fr Ei v;have HA:Hid _:=G_;have HO:Hid _:=ho1;unfold Vl.val at hp2;clear hp S_ G_ ho1 hW;go_wp2_with fail;refine AU ?_;intro w1 P' S_ Z6 hk2 _ c0;have Wf:=PK Z6.rk Z6.fr Ea v;have HB:Hid _:=Z6;unfold Vl.val at Wf;clear hp2 S_ Z6 hW2 hk2 k_;go_wp2_with fail;refine wM ?_;intro w1 P' S_ HC;clear Wf S_;go_wp2
 go_end0
 exact HC.o.word HH.o.2 rfl
theorem akP {z:Nat}{K:U0}{fb:Nat}{d:RU}(fs:List Fr)(D:Int)(hk:RK w m K)(hen:K.en=0){a:Vl}{r:List Vl}(hr:r.length<=900)(h:SX z w K fb {f with st:=a::a::r} d) (n:Int) (sl xa xb:List UInt8) (xi:Nat):
 Calls prog 140 #[VG K.b,VG fb,.agg (U4 (⟨61,n,sl,xa,xb⟩,xi)),VI D] w (UZ z fb w K (VA m K.fu ⟨61,n,sl,xa,xb⟩ {f with st:=a::a::r} fs) fs):=by
 refine alA ?_;intro W hF hO hb hW HH;have HF:Hid (U5 z fb w W m K d.sv {f with st:=a::a::r} d/\Off W K fb d.sv w.heap.size/\W.heap[w.heap.size]?=some (.cells (U4 (⟨61,n,sl,xa,xb⟩,xi)) 188)):=SH;have hp:=Hr hF.rk hF.fr Ea;unfold Vl.val at hp;clear hk h hF hO hb hen;go_enter func140,ntmps140;go_wp2_with fail;refine EF ?_;intro w1 P' S_;have G_:=(HF.o.1.trans S_).new (.cells #[.bool a.obj,VI a.n] 79);have ho1:=Qk S_.rk S_.fr (.cells #[.bool a.obj,VI a.n] 79);have k_:(w1.alloc (.cells #[.bool a.obj,VI a.n] 79)).heap[w1.heap.size]?=some (.cells #[.bool a.obj,VI a.n] 79):=(Z4 w1 _).1;obtain⟨W2,hW2⟩:∃W2,W2=w1.alloc (.cells #[.bool a.obj,VI a.n] 79):=Vx;rw[<- hW2]at G_ ho1 k_;refine ael ?_;intro hp2 HA HO;clear hp S_ G_ ho1 hW;go_wp2_with fail;refine AU ?_;intro w1 P' S_ Z6 hk2 _ c0;have hl2:=(S_.off _ HO.o).1.lt;have Vi:=Z6.new (.cells #[.bool a.obj,VI a.n] 79);have Wf:=PK Vi.rk Vi.fr Ei ⟨false,1⟩;have HB:Hid _:=Vi;unfold Vl.val at Wf;clear hp2 S_ Z6 hW2 hk2 k_ Vi;go_wp2_with fail;refine wM ?_;intro w1 P' S_ HC;clear Wf S_;go_wp2
 go_end0
 refine HC.o.word HH.o.2 ?_;simp[VA,vG]
theorem ald {z:Nat}{K:U0}{fb:Nat}{d:RU}(fs:List Fr)(D:Int)(hk:RK w m K)(hen:K.en=0){ao bo:Bool}{an bn:Int}{r:List Vl}(hne:¬ao=bo)(hr:r.length<=900)(h:SX z w K fb {f with st:=⟨bo,bn⟩::⟨ao,an⟩::r} d) (n:Int) (sl xa xb:List UInt8) (xi:Nat):
 Calls prog 140 #[VG K.b,VG fb,.agg (U4 (⟨61,n,sl,xa,xb⟩,xi)),VI D] w (UZ z fb w K (VA m K.fu ⟨61,n,sl,xa,xb⟩ {f with st:=⟨bo,bn⟩::⟨ao,an⟩::r} fs) fs):=by
 refine alA ?_;intro W hF hO hb hW HH;have HF:Hid (U5 z fb w W m K d.sv {f with st:=⟨bo,bn⟩::⟨ao,an⟩::r} d/\Off W K fb d.sv w.heap.size/\W.heap[w.heap.size]?=some (.cells (U4 (⟨61,n,sl,xa,xb⟩,xi)) 188)):=SH;have hp:=Hr hF.rk hF.fr Ea;unfold Vl.val at hp;clear hk h hF hO hb hen;go_enter func140,ntmps140;go_wp2_with fail;refine EF ?_;intro w1 P' S_;refine ajK ?_;intro G_ ho1 k_;obtain⟨W2,hW2⟩:∃W2,W2=w1.alloc (.cells #[.bool bo,VI bn] 79):=Vx;rw[<- hW2]at G_ ho1 k_;refine ael ?_;intro hp2 HA HO;clear hp S_ G_ ho1 hW;go_wp2_with fail;refine AU ?_;intro w1 P' S_ Z6 hk2 _ c0;have hl2:=(S_.off _ HO.o).1.lt;have Vi:=Z6.new (.cells #[.bool ao,VI an] 79);refine abh ?_;intro Wf HB;clear hp2 S_ Z6 hW2 hk2 k_ Vi;go_wp2_with fail;refine wM ?_;intro w1 P' S_ HC;clear Wf S_;go_wp2
 go_end0
 refine HC.o.word HH.o.2 ?_;simp[VA,vG,hne]
theorem alS {z:Nat}{K:U0}{fb:Nat}{d:RU}(fs:List Fr)(D:Int)(hk:RK w m K)(hen:K.en=0){ao:Bool}{an bn:Int}{r:List Vl}(hne:¬an=bn)(hr:r.length<=900)(h:SX z w K fb {f with st:=⟨ao,bn⟩::⟨ao,an⟩::r} d) (n:Int) (sl xa xb:List UInt8) (xi:Nat):
 Calls prog 140 #[VG K.b,VG fb,.agg (U4 (⟨61,n,sl,xa,xb⟩,xi)),VI D] w (UZ z fb w K (VA m K.fu ⟨61,n,sl,xa,xb⟩ {f with st:=⟨ao,bn⟩::⟨ao,an⟩::r} fs) fs):=by
 refine alA ?_;intro W hF hO hb hW HH;have HF:Hid (U5 z fb w W m K d.sv {f with st:=⟨ao,bn⟩::⟨ao,an⟩::r} d/\Off W K fb d.sv w.heap.size/\W.heap[w.heap.size]?=some (.cells (U4 (⟨61,n,sl,xa,xb⟩,xi)) 188)):=SH;have hp:=Hr hF.rk hF.fr Ea;unfold Vl.val at hp;clear hk h hF hO hb hen;go_enter func140,ntmps140;go_wp2_with fail;refine EF ?_;intro w1 P' S_;have G_:=(HF.o.1.trans S_).new (.cells #[.bool ao,VI bn] 79);have ho1:=Qk S_.rk S_.fr (.cells #[.bool ao,VI bn] 79);have k_:(w1.alloc (.cells #[.bool ao,VI bn] 79)).heap[w1.heap.size]?=some (.cells #[.bool ao,VI bn] 79):=(Z4 w1 _).1;obtain⟨W2,hW2⟩:∃W2,W2=w1.alloc (.cells #[.bool ao,VI bn] 79):=Vx;rw[<- hW2]at G_ ho1 k_;refine ael ?_;intro hp2 HA HO;clear hp S_ G_ ho1 hW;go_wp2_with fail;refine AU ?_;intro w1 P' S_ Z6 hk2 _ c0;have hl2:=(S_.off _ HO.o).1.lt;have Vi:=Z6.new (.cells #[.bool ao,VI an] 79);refine abh ?_;intro Wf HB;clear hp2 S_ Z6 hW2 hk2 k_ Vi;go_wp2_with fail;refine wM ?_;intro w1 P' S_ HC;clear Wf S_;go_wp2
 go_end0
 refine HC.o.word HH.o.2 ?_;simp[VA,vG,hne]
theorem alT {z:Nat}{K:U0}{fb:Nat}{d:RU}(fs:List Fr)(D:Nat)(hS:FQ D)(hk:RK w m K)(hen:K.en=0)(Pp:K.fu<=3000)(h:SX z w K fb {f with pc:=f.pc+1} d) (hf:Rk m 0 f) (I':∀g∈fs,Rk m 1 g) (hD:fs.length+1=D) (x:Kn.W×Nat) (hx:f.ws[f.pc]?=some x) (hr:x.1.k≠114):
 Calls prog 140 #[VG K.b,VG fb,.agg (U4 x),VI (D:Nat)] w (UZ z fb w K (VA m K.fu x.1 {f with pc:=f.pc+1} fs) fs):=by
 have hm:=hk.ok;have ZZ:=hf.good.fine f.pc x hx;have N2:=hf.good.shp f.pc x hx;have hst:=xg hf hx;have hro:=rC hf hx;have hag:=y7 hf hx;have hsl:=BU hm hf hx;have o_:=ZZ.kind;have h_:f.st.length<=16:=by have:=Nq hf.at_;omega
 have zd:=λ(st':List Vl) ht hl hv=>an7 (d:=1) (st':=st') hf LW hx ht hl hv;have hW:=UW hk h x
 obtain⟨kh,hkh⟩:∃kh,m.kl[f.home]?=some kh:=⟨_,Z8 hf.home⟩
 have hab:=Fv hm hf;obtain⟨W,JN,Ys,_,_⟩:=hW;obtain⟨⟨k,n,sl,xa,xb⟩,xi⟩:=x;obtain⟨ws,home,self,args,pc,st⟩:=f;simp only at o_ hst hro hag hsl ZZ N2 h_ hr h hx hf Ys hkh hab zd ⊢;simp only[kinds,ZM,Zx,YE]at o_;rcases o_ with rfl|rfl|rfl|rfl|rfl|rfl|rfl|rfl|rfl|rfl|rfl|rfl|rfl|rfl|rfl|rfl|rfl|rfl|rfl|rfl|rfl|rfl
 . exact akZ fs D hk hen h Ei n sl xa xb xi
 . exact aeR fs D hk hen h Ei n sl xa xb xi
 . have h1:=hag rfl;have h1:=N2.low NP;simp only at h1;obtain⟨i,hi⟩:∃i:Nat,n=i:=Dv;have h3:=hf.few;simp only at h3
   obtain⟨v,hv⟩:∃v,args[i]?=some v:=⟨_,Z8 VH⟩
   exact akA fs D hk hen h Ei n sl xa xb xi i hi h3 v hv
 . obtain⟨i,j,o,e1,e2,e3,e4⟩:=hsl NP
   obtain⟨v,hv⟩:∃v,o.slots[j]?=some v:=⟨_,Z8 e4⟩
   exact agN fs D hk hen h Ei n sl xa xb xi i j o v e1 e2 e3 hv
 . have hc:=aeY Ys.rk Ei Ys.fr n sl xa xb xi;rw[JN]at hc;by_cases he:(m.make (VF xa)).2.1=0
   . exact Hf fs D hk hen h 119 Vy n sl xa xb xi _ _ he JB hc
   . exact Ky fs D hk hen h 119 Vy n sl xa xb xi _ _ he JB hc
 . obtain⟨i,j,o,e1,e2,e3,e4⟩:=hsl JQ;obtain⟨v,r,rfl⟩:=SV (l:=st) QW;have BW:=AX hm i j v (hf.st v Vy);simp only[ZI]at h_;exact abR (f:=⟨ws,home,self,args,pc+1,v::r⟩) fs D hk hen VH h n sl xa xb xi i j o e1 e2 e3 e4 BW.1
 . obtain⟨v,r,rfl⟩:=SV (l:=st) QW;simp only[ZI]at h_;exact akk (f:=⟨ws,home,self,args,pc+1,v::r⟩) fs D hk hen v r h n sl xa xb xi VH
 . obtain⟨⟨vo,vn⟩,r,rfl⟩:=SV (l:=st) QW;have h1:=ZZ.goto JQ;simp only[ZI]at h1 h_;obtain⟨i,hi⟩:∃i:Nat,n=i:=Dv
   cases vo with
   | true=>exact aaw (f:=⟨ws,home,self,args,pc+1,⟨true,vn⟩::r⟩) fs D hk hen VH h n sl xa xb xi
   | false=>
    by_cases hz:vn=0
    . subst hz;exact lM (f:=⟨ws,home,self,args,pc+1,⟨false,0⟩::r⟩) fs D hk hen VH h n sl xa xb xi i hi
    . exact nS (f:=⟨ws,home,self,args,pc+1,⟨false,vn⟩::r⟩) fs D hk hen hz VH h n sl xa xb xi
 . exact absurd rfl hr
 . obtain⟨⟨bo,bn⟩,⟨ao,an⟩,r,rfl⟩:=PW (l:=st) QW;simp only[ZI]at h_;refine acU fs D hk h n sl xa xb xi _ ?_;rw[<- JN]
   cases ao with
   | true=>exact J4 (f:=⟨ws,home,self,args,pc+1,[]⟩) fs Ys.rk hen Vy VH Ys.fr n sl xa xb xi
   | false=>
    cases bo with
    | true=>exact Kz (f:=⟨ws,home,self,args,pc+1,[]⟩) fs Ys.rk hen Vy VH Ys.fr n sl xa xb xi
    | false=>exact adT (f:=⟨ws,home,self,args,pc+1,[]⟩) fs Ys.rk hen VH Ys.fr n sl xa xb xi
 . obtain⟨⟨bo,bn⟩,⟨ao,an⟩,r,rfl⟩:=PW (l:=st) QW;simp only[ZI]at h_;refine abS fs D hk h n sl xa xb xi _ ?_;rw[<- JN]
   cases ao with
   | true=>exact J4 (f:=⟨ws,home,self,args,pc+1,[]⟩) fs Ys.rk hen Vy VH Ys.fr n sl xa xb xi
   | false=>
    cases bo with
    | true=>exact Kz (f:=⟨ws,home,self,args,pc+1,[]⟩) fs Ys.rk hen Vy VH Ys.fr n sl xa xb xi
    | false=>
     exact abE (f:=⟨ws,home,self,args,pc+1,[]⟩) fs Ys.rk hen VH Ys.fr n sl xa xb xi
 . obtain⟨⟨bo,bn⟩,⟨ao,an⟩,r,rfl⟩:=PW (l:=st) QW;simp only[ZI]at h_;refine adL fs D hk h n sl xa xb xi _ ?_;rw[<- JN]
   cases ao with
   | true=>exact J4 (f:=⟨ws,home,self,args,pc+1,[]⟩) fs Ys.rk hen Vy VH Ys.fr n sl xa xb xi
   | false=>
    cases bo with
    | true=>exact Kz (f:=⟨ws,home,self,args,pc+1,[]⟩) fs Ys.rk hen Vy VH Ys.fr n sl xa xb xi
    | false=>
     exact ab3 (f:=⟨ws,home,self,args,pc+1,[]⟩) fs Ys.rk hen VH Ys.fr n sl xa xb xi
 . obtain⟨⟨bo,bn⟩,⟨ao,an⟩,r,rfl⟩:=PW (l:=st) QW;simp only[ZI]at h_;refine ada fs D hk h n sl xa xb xi _ ?_;rw[<- JN]
   cases ao with
   | true=>exact J4 (f:=⟨ws,home,self,args,pc+1,[]⟩) fs Ys.rk hen Vy VH Ys.fr n sl xa xb xi
   | false=>
    cases bo with
    | true=>exact Kz (f:=⟨ws,home,self,args,pc+1,[]⟩) fs Ys.rk hen Vy VH Ys.fr n sl xa xb xi
    | false=>
     by_cases hlt:an<bn
     . exact kC (f:=⟨ws,home,self,args,pc+1,[]⟩) fs Ys.rk hen hlt VH Ys.fr n sl xa xb xi
     . exact jM (f:=⟨ws,home,self,args,pc+1,[]⟩) fs Ys.rk hen hlt VH Ys.fr n sl xa xb xi
 . obtain⟨⟨bo,bn⟩,⟨ao,an⟩,r,rfl⟩:=PW (l:=st) QW;simp only[ZI]at h_;by_cases ho:ao=bo
   . subst ho;by_cases hn:an=bn
     . subst hn;exact akP (f:=⟨ws,home,self,args,pc+1,[]⟩) (a:=⟨ao,an⟩) fs D hk hen VH h n sl xa xb xi
     . exact alS (f:=⟨ws,home,self,args,pc+1,[]⟩) fs D hk hen hn VH h n sl xa xb xi
   . exact ald (f:=⟨ws,home,self,args,pc+1,[]⟩) fs D hk hen ho VH h n sl xa xb xi
 . obtain⟨v,r,rfl⟩:=SV (l:=st) QW;simp only[ZI]at h_;exact akb (f:=⟨ws,home,self,args,pc+1,[]⟩) fs D hk hen VH h n sl xa xb xi
 . refine aef ?_;intro hn0 Te d_ hna;obtain⟨N,rfl⟩:∃i:Nat,n=i:=Dv;have htk:(U9 115 (N:Nat)).1.toNat=N+1:=by simp[U9]<;>omega
   have yl:(U9 115 (N:Nat)).2.toNat=1:=zb7;rw[htk]at hst;obtain⟨to,r,hs⟩:=SV (l:=st.drop N) Vo;have hlen:(st.drop N).length=r.length+1:=by rw[hs];rfl
   rw[Zh]at hlen;have X_:=hf.st to an4;refine aai fs D hk h (N:Nat) sl xa xb xi _ ?_;rw[<- JN]
   have hg:VA m K.fu ⟨115,(N:Nat),sl,xa,xb⟩ ⟨ws,home,self,args,pc+1,st⟩ fs=m.send K.fu (m.of to) to (VF sl) (st.take N).reverse (⟨ws,home,self,args,pc+1,r⟩::fs):=by
    simp[VA,hs]
   rw[hg]
   exact akx (f:=⟨ws,home,self,args,pc+1,st⟩) fs D N hS Ys.rk hen Pp Ys.fr VH Ei sl xa xb xi kh hkh to r hs X_ (λg hg=>by
    rcases ZM.1 hg with rfl|hg
    . exact zd r uI (by rw[htk,yl];omega) (λy hy=>hf.st y (Ye kR))
    . exact I' g hg) hD agt d_ VH
 . refine abX ?_;intro hn0 Te d_ hna;obtain⟨N,rfl⟩:∃i:Nat,n=i:=Dv;have htk:(U9 94 (N:Nat)).1.toNat=N:=zb7;have yl:(U9 94 (N:Nat)).2.toNat=1:=zb7;rw[htk]at hst;refine ab4 fs D hk h (N:Nat) sl xa xb xi _ ?_;rw[<- JN]
   have hg:VA m K.fu ⟨94,(N:Nat),sl,xa,xb⟩ ⟨ws,home,self,args,pc+1,st⟩ fs=m.send K.fu (m.kl[home]?.bind (·.above)) self (VF sl) (st.take N).reverse (⟨ws,home,self,args,pc+1,st.drop N⟩::fs):=by
    simp[VA]
   rw[hg]
   exact af6 (f:=⟨ws,home,self,args,pc+1,st⟩) fs D N hS Ys.rk hen Pp Ys.fr VH Ei sl xa xb xi kh hkh hst hf.self hab (λg hg=>by
    rcases ZM.1 hg with rfl|hg
    . exact zd (st.drop N) uI (by rw[htk,yl];first|done|simp) akf
    . exact I' g hg) hD agt d_ VH
 . obtain⟨⟨vo,vn⟩,r,rfl⟩:=SV (l:=st) QW;simp only[ZI]at h_
   cases vo with
   | false=>
    have hc:=mQ (f:=⟨ws,home,self,args,pc+1,[]⟩) Ys.rk VH Ys.fr n sl xa xb xi;rw[JN]at hc;exact Ky fs D hk hen h 98 Vy n sl xa xb xi _ _ Vz (by simp[VA]) hc
   | true=>
    have hc:=alQ (f:=⟨ws,home,self,args,pc+1,[]⟩) Ys.rk VH Ys.fr n sl xa xb xi;rw[JN]at hc;by_cases he:(m.be vn (VF xa)).1=0
    . exact Hf fs D hk hen h 98 Vy n sl xa xb xi _ _ he JB hc
    . exact Ky fs D hk hen h 98 Vy n sl xa xb xi _ _ he JB hc
 . have h1:=ZZ.goto NP;simp only at h1;obtain⟨i,hi⟩:∃i:Nat,n=i:=Dv;exact agu fs D hk hen h Ei n sl xa xb xi i hi
 . have hc:=ad4 Ys.rk Ys.fr n sl xa xb xi;rw[JN]at hc;by_cases he:(m.drop (VF xa) (VF sl)).1=0
   . exact Hf fs D hk hen h 120 Vy n sl xa xb xi _ _ he JB hc
   . exact Ky fs D hk hen h 120 Vy n sl xa xb xi _ _ he JB hc
 . have hc:=aew Ys.rk Ys.fr n sl xa xb xi;rw[JN]at hc;by_cases he:(m.move (VF xa) (VF xb)).1=0
   . exact Hf fs D hk hen h 118 Vy n sl xa xb xi _ _ he JB hc
   . exact Ky fs D hk hen h 118 Vy n sl xa xb xi _ _ he JB hc
 . have hc:=aer Ys.rk Ys.fr n sl xa xb xi;rw[JN]at hc;by_cases he:(m.copy (VF xa) (VF sl) (VF xb)).1=0
   . exact Hf fs D hk hen h 99 Vy n sl xa xb xi _ _ he JB hc
   . exact Ky fs D hk hen h 99 Vy n sl xa xb xi _ _ he JB hc
theorem SN.Ok.top {fu:Nat}(h:(SN.on m fu (f::fs)).Ok):Rk m 0 f/\(∀g∈fs,Rk m 1 g)/\fs.length+1<=32:=⟨h.2.1.1,h.2.1.2,h.2.2⟩
def RInv (z fb:Nat)(W:World)(m0:Im)(K0:U0)(f0:Fr)(fs:List Fr)(gk:Nat)(wr:World):Prop:=∃m K f d,RK wr m K/\K.en=0/\SX z wr K fb f d/\Pm z fb W wr K0 K/\(SN.on m K.fu (f::fs)).Ok/\To (.on m0 K0.fu (f0::fs)) (.on m K.fu (f::fs))/\K.fu<=K0.fu/\K.fu<gk
def NR (fb:Nat)(w:World)(m0:Im)(K0:U0)(f0:Fr)(fs:List Fr)(e:Ending)(w':World):Prop:=∃v m' K',e=.returned (Vl.val v)/\RK w' m' K'/\Pm w.heap.size fb w w' K0 K'/\K'.fu<=K0.fu/\uD (.on m0 K0.fu (f0::fs)) fs v m' K'
variable {m0 : Im}
theorem NR.mk {z fb:Nat}{w W X:World}{K0 K:U0}{f0:Fr}(hz:Rz w W)(hk0:RK w m0 K0)(hzz:z=W.heap.size)(Pc:RK X m K)(hr:Pm z fb W X K0 K)(Rm:K.fu<=K0.fu)(v:Vl)(he:uD (.on m0 K0.fu (f0::fs)) fs v m K)(hfb:fb<w.heap.size):NR fb w m0 K0 f0 fs (.returned (Vl.val v)) ((X.setCell (VJ w.heap.size 0) (.bool v.obj)).setCell (VJ w.heap.size 1) (VI v.n)):=by
 have hl0:=hk0.QF UM;have hl:=(hr.lab _ hz.lt).trans hl0;have hC:Vt X ((X.setCell (VJ w.heap.size 0) (.bool v.obj)).setCell (VJ w.heap.size 1) (VI v.n)) (λk=>K.lab k=.no):=((Vt.refl X _).setCell _ _ (λ_=>hl)).setCell _ _ (λ_=>hl);refine⟨v,m,K,rfl,Pc.frame hC,⟨?_,λk hk=>(hr.lab k (VW hk hz.lt)).trans rfl,hr.b⟩,Rm,he⟩
 have Hp:Vt w X (K0.Own fb w.heap.size):=(Vt.of_below hz.bel _).then hr.Ut (λk hk e=>by
  rcases e with e|e|e
  . exact .inl e
  . exact .inr (.inl e)
  . have:=hz.lt
    omega)
 exact(Hp.setCell _ _ (λe=>by have e:w.heap.size<w.heap.size:=e;omega)).setCell _ _ (λe=>by have e:w.heap.size<w.heap.size:=e;omega)
theorem Rz.kept {z fb:Nat}{w W X:World}{K0 K:U0}(hz:Rz w W)(hk0:RK w m0 K0)(hzz:z=W.heap.size)(hfb:fb<w.heap.size)(hr:Pm z fb W X K0 K):X.heap[w.heap.size]?=some (.cells #[.bool false,VI 0] 79):=by
 refine(hr.Ut.block _ hz.lt (λe=>?_)).trans hz.blk;rcases e with e|e|e
 . exact e.1 (hk0.QF UM)
 . omega
 . have:=hz.lt;omega
theorem apG (D:Nat)(hS:FQ D):aoV D:=by
 intro w m0 K0 fb f0 fs d0 hk0 rL uu h0 hok0 hD;show Calls _ _ _ _ (NR fb w m0 K0 f0 fs);obtain⟨W,hW,ep,hz⟩:=hk0.res
 have HZ:Hid (Rz w W/\RK w m0 K0/\fb<w.heap.size/\fs.length+1=D/\K0.fu<=3000):=⟨hz,hk0,h0.lt,hD,uu⟩
 have hs0:=h0.step (Vu.below hk0 hz.bel)
 have kb:SX W.heap.size W K0 fb f0 d0:=⟨hs0.blk,hs0.ws,hs0.wq,hs0.args,λe=>⟨(hs0.ga e).1,VW (hs0.ga e).2.1 hz.lt,(hs0.ga e).2.2⟩,hs0.st,⟨hs0.gf.1,VW hs0.gf.2 hz.lt⟩,λk e=>by have:=(h0.st.lt k e).2;have:=(h0.gs k e).2;omega,ZN _⟩
 obtain⟨z,hzz⟩:∃z,z=W.heap.size:=Vx;rw[<- hzz]at kb;have AI:Hid _:=hzz
 have HI:Hid (RInv z fb W m0 K0 f0 fs (K0.fu+1) W):=⟨m0,K0,f0,d0,ep,rL,kb,Pm.refl _ _ _ _,hok0,To.refl _,ZN _,XA _⟩
 have HS:Hid (FQ D):=hS;clear hk0 rL uu h0 hok0 hD ep hz kb hS hs0 hzz;go_enter func97,ntmps97;go_wp2_with fail;rw[<- hW];clear hW
 go_loopg [] (K0.fu+1) (λgk wr=>RInv z fb W m0 K0 f0 fs gk wr)
 case atStart=>exact HI.o
 case round=>
  obtain⟨m,K,f,d,hk,hen,hf,Pf,hok,X_,Rm,p9⟩:=hrel;have hbb:=Pf.b;obtain⟨hfr,I',h0⟩:=SN.Ok.top hok
  have HV:Hid (RK wr m K/\K.en=0/\SX z wr K fb f d/\Pm z fb W wr K0 K/\(SN.on m K.fu (f::fs)).Ok/\To (.on m0 K0.fu (f0::fs)) (.on m K.fu (f::fs))/\K.fu<=K0.fu/\K.fu<gk):=⟨hk,hen,hf,Pf,hok,X_,Rm,p9⟩
  have f0':=hf.f0;have f6:=hf.f6;have hfl:=hf.lt;have hfz:=λo=>hf.Vb.free o;have hbl:=hk.Vb.lt;have z9:=HZ.o.1.kept HZ.o.2.1 AI.o HZ.o.2.2.1 Pf;have hRl:=(Z5.1 z9).1;have z0:=(Vp z9).1;have z1:=(Vp z9).2;have zf:∀o,wr.frozen? (VJ w.heap.size o)=false:=λo=>UL.free ⟨_,_,z9⟩ o;have hwl:=hfr.good.len;have Mw:¬fb=w.heap.size:=aa6;have aqi:¬w.heap.size=fb:=λe=>Mw e.symm;have hnb:¬K0.b=w.heap.size:=by have:=HZ.o.2.1.Vb.lt;omega
  have j4:¬w.heap.size=K0.b:=λe=>hnb e.symm;have gA:¬fb=K0.b:=λe=>by have h0:=hf.gf.1;rw[e,<- hbb,hk.lh]at h0;cases h0
  have ez:¬K0.b=fb:=λe=>gA e.symm;rw[hbb]at hbl
  cases hx:f.ws[f.pc]? with
  | none=>
   have hge:¬(f.pc:Int)<(f.ws.length:Int):=by
    have:¬f.pc<f.ws.length:=λe=>by rw[Z8 e]at hx;cases hx
    omega
   have f6:=hf.f2;have f6:=hf.f3;have hst:stepM m K.fu (f::fs)=QJ m K.fu f.self fs:=by simp[stepM,hx]
   have HE:Hid (uD (.on m0 K0.fu (f0::fs)) fs f.self m K):=.inl ⟨hen,X_.trans (by rw[<- hst];exact To.one)⟩;obtain⟨y0,y1⟩:=RQ z0 z1 (.bool f.self.obj) (VI f.self.n);clear hk hen hf Pf hok X_ Rm p9 hx hst z9;go_wp2_with fail;refine Uy ?_;refine ag0 ?_;intro hHeld;refine FU ?_;refine Nr ?_;go_wp2_with fail;have hdr:=Vu.below HV.o.1 (ZR _ wr).drew;have hP:=NR.mk (f0:=f0) (fs:=fs) HZ.o.1 HZ.o.2.1 AI.o HV.o.1 HV.o.2.2.2.1 HV.o.2.2.2.2.2.2.1 f.self HE.o HZ.o.2.2.1;obtain⟨v',m',K',e1,e2,e3,e4,e5⟩:=hP;exact am9
  | some x=>
   have hpl:=(Z7.1 hx).1;have hpi:(f.pc:Int)<(f.ws.length:Int):=VH;have Lv:(f.ws.length:Int)<=40:=VH
   have hxk:x.1.k<256:=by
    have:=(hfr.good.fine f.pc x hx).kind;simp only[kinds,ZM,Zx,YE]at this;omega
   cases K9:K.fu with
   | zero=>
    have c3:=hk.c3;rw[hbb,K9]at c3;have c4:=hk.c4;have kf:=λo=>hk.Vb.free o;rw[hbb]at c4 kf;have hE:=hk.end_ 2;have hst:stepM m K.fu (f::fs)=.stop m 2:=by simp[stepM,hx,K9]
    have hP:=NR.mk (f0:=f0) (fs:=fs) HZ.o.1 HZ.o.2.1 AI.o hE.rk (Pf.trans (hE.run z fb)) Rm Vl.zero (.inr ⟨by show (2:Int)≠0;omega,X_.trans (by rw[<- hst];exact To.one)⟩) HZ.o.2.2.1;rw[hbb]at hP;have HP:Hid (NR fb w m0 K0 f0 fs (.returned (Vl.val Vl.zero)) (((wr.setCell (VJ K0.b 4) (VI 2)).setCell (VJ w.heap.size 0) (.bool false)).setCell (VJ w.heap.size 1) (VI 0))):=hP;have x0:(wr.setCell (VJ K0.b 4) (VI 2)).cell? (VJ w.heap.size 0)=some (.bool false):=(VD (by intro e;injection e with e;exact hnb e)).trans z0;have x1:(wr.setCell (VJ K0.b 4) (VI 2)).cell? (VJ w.heap.size 1)=some (VI 0):=(VD (by intro e;injection e with e;exact hnb e)).trans z1;obtain⟨y0,y1⟩:=RQ x0 x1 (.bool false) (VI 0);clear hk hen hf Pf hok X_ Rm p9 hx hst z9 hE hP K9;go_wp2_with fail;refine Uy ?_;refine ag0 ?_;intro hHeld;refine FU ?_;refine Nr ?_;go_wp2_with fail;obtain⟨v',m',K',e1,e2,e3,e4,e5⟩:=HP.o;exact am9
   | succ fu=>
    have c3:=hk.c3;rw[hbb,K9]at c3;have kf:=λo=>hk.Vb.free o;rw[hbb]at kf;have hw3:((fu+1:Nat):Int)-1=(fu:Nat):=VH;have hfi:((fu+1:Nat):Int)<=3000:=by have:=HZ.o.2.2.2.2;omega
    have ap9:¬((fu+1:Nat):Int)=0:=VH;have T9:=hf.ws.head VH;rw[T9]at f0';have GM:=hk.fuel fu;have z':=GM.trans (Vu.below GM.rk (ZR _ _).drew);obtain⟨K1,Sp⟩:∃K1:U0,K1={K with fu:=fu}:=Vx;rw[<- Sp,hbb]at z';obtain⟨X2,SU⟩:∃X2,X2=(wr.setCell (VJ K0.b 3) (VI (fu:Nat))).drew:=Vx;rw[<- SU]at z';have hb1:K1.b=K0.b:=by rw[Sp];exact hbb
    have he1:K1.en=0:=by rw[Sp];exact hen
    have hu1:K1.fu=fu:=by rw[Sp]
    have hf2:=hf.step z';have g0:=hf2.f0;rw[T9]at g0;have g0:=hf2.f6;have w0:=hf2.ws.c0 f.pc x hx;have w0:=hf2.ws.c1 f.pc x hx;have w0:=hf2.ws.c2 f.pc x hx;have w0:=hf2.ws.c3 f.pc x hx;have w0:=hf2.ws.c4 f.pc x hx;have w0:=hf2.ws.c5 f.pc x hx;have aqj:=hf2.lt;have bx:=hf2.ws.lt VH;have Z1:¬fb=X2.heap.size:=VH;have Z1:¬X2.heap.size=fb:=VH;have Te:¬d.wh=X2.heap.size:=VH;have Te:¬X2.heap.size=d.wh:=VH
    have HX:Hid (Vu wr X2 m K m K1/\SX z X2 K1 fb f d):=⟨z',hf2⟩
    obtain⟨X3,qu⟩:∃X3,X3=(X2.alloc (.cells #[.int .u8 x.1.k,VI x.1.n,.string (VF x.1.sel),.string (VF x.1.a),.string (VF x.1.b),VI (x.2:Nat)] 188)).drew:=Vx;have j_:Below X2.heap.size X2 X3:=by rw[qu];exact(UF _ _).drew
    have z_:=Vu.below z'.rk j_;have hf3:=hf2.step z_;have Wf:X3.heap[X2.heap.size]?=some (.cells (U4 x) 188):=by rw[qu];exact(Z4 X2 _).1
    have B_:=hf3.set (f':={f with pc:=f.pc+1}) (d':=d) z_.rk 6 (VI ((f.pc+1:Nat):Int)) rfl rfl rfl rfl rfl rfl rfl hf3.st hf3.gs;have vd:((f.pc+1:Nat):Int)=(f.pc:Int)+1:=VH;rw[vd]at B_;obtain⟨X4,B8⟩:∃X4,X4=X3.setCell (VJ fb 6) (VI ((f.pc:Int)+1)):=Vx;have hr4:Pm z fb X3 X4 K1 K1:=by rw[B8];exact Ii ((Vt.refl X3 _).setCell _ _ Dx)
    rw[<- B8]at B_;have Lz:X4.heap[X2.heap.size]?=some (.cells (U4 x) 188):=by rw[B8];exact(ZW _ _ _ _ (λe=>Z1 e)).trans Wf
    have S2:=((Pf.trans (z'.run z fb)).trans (z_.run z fb)).trans hr4;have v0:X3.cell? (VJ X2.heap.size 0)=some (.int .u8 x.1.k):=by simp only[World.cell?,Wf];rfl
    have v1:X3.cell? (VJ X2.heap.size 1)=some (VI x.1.n):=by simp only[World.cell?,Wf];rfl
    have v1:X3.cell? (VJ X2.heap.size 2)=some (.string (VF x.1.sel)):=by simp only[World.cell?,Wf];rfl
    have v1:X3.cell? (VJ X2.heap.size 3)=some (.string (VF x.1.a)):=by simp only[World.cell?,Wf];rfl
    have v1:X3.cell? (VJ X2.heap.size 4)=some (.string (VF x.1.b)):=by simp only[World.cell?,Wf];rfl
    have v1:X3.cell? (VJ X2.heap.size 5)=some (VI (x.2:Nat)):=by simp only[World.cell?,Wf];rfl
    have hvl:=(Z5.1 Wf).1;have h0:=hf3.f6;have h3z:=hf3.Vb.free 6;have h3l:=hf3.lt
    have H4:Hid (RK X4 m K1/\SX z X4 K1 fb {f with pc:=f.pc+1} d/\Pm z fb W X4 K0 K1):=⟨B_.2,B_.1,S2⟩
    have hstep:stepM m K.fu (f::fs)=VA m K1.fu x.1 {f with pc:=f.pc+1} fs:=by rw[hu1];simp[stepM,hx,K9]
    have RW:Hid (To (.on m0 K0.fu (f0::fs)) (VA m K1.fu x.1 {f with pc:=f.pc+1} fs)/\(VA m K1.fu x.1 {f with pc:=f.pc+1} fs).Ok/\K1.fu<=K0.fu/\K1.fu+1<gk/\K1.en=0/\K1.b=K0.b/\K1.fu<=3000):=by
     have hx1:To (.on m0 K0.fu (f0::fs)) (VA m K1.fu x.1 {f with pc:=f.pc+1} fs)/\(VA m K1.fu x.1 {f with pc:=f.pc+1} fs).Ok/\K1.fu<=K0.fu/\K1.fu+1<gk/\K1.en=0/\K1.b=K0.b/\K1.fu<=3000:=⟨X_.trans (by rw[<- hstep];exact To.one),by rw[<- hstep];exact step_ok hok,VH,VH,he1,hb1,VH⟩
     exact hx1
    have NE:Hid (Rk m 0 f/\(∀g∈fs,Rk m 1 g)/\f.ws[f.pc]?=some x):=⟨hfr,I',hx⟩
    have Sk:=HZ.o.1.kept HZ.o.2.1 AI.o HZ.o.2.2.1 S2;clear vd hk hen hf Pf hok X_ Rm p9 hx z9 GM z' Sp hf2 z_ hf3 j_ Wf B_ hr4 Lz S2 hstep hfr I' K9 hu1 he1;go_wp2_with fail;refine Uy ?_;refine ZT (S:=(λw'=>w'.cell? (VJ fb 6)=some (VI (f.pc:Nat))/\w'.cell? (VJ fb 0)=some (.slice (some (VJ d.wh 0)) f.ws.length d.wc))) VE UG (λhHeld=>?_);refine FU ?_;refine Nr ?_;go_wp2_with fail;rw[<- SU];clear SU;refine Uy ?_;refine ZT (S:=(λw'=>w'.cell? (VJ fb 6)=some (VI (f.pc:Nat))/\w'.cell? (VJ fb 0)=some (.slice (some (VJ d.wh 0)) f.ws.length d.wc)/\w'.cell? (VJ d.wh (f.pc*6))=some (.int .u8 x.1.k)/\w'.cell? (VJ d.wh (f.pc*6+1))=some (VI x.1.n)/\w'.cell? (VJ d.wh (f.pc*6+2))=some (.string (VF x.1.sel))/\w'.cell? (VJ d.wh (f.pc*6+3))=some (.string (VF x.1.a))/\w'.cell? (VJ d.wh (f.pc*6+4))=some (.string (VF x.1.b))/\w'.cell? (VJ d.wh (f.pc*6+5))=some (VI (x.2:Nat)))) VE UG (λhHeld=>?_);refine FU ?_;refine Fe ?_;intro hHeld
    try refine UE ?_
    refine yF ?_;intro hHeld;refine Um ?_;rw[<- qu];clear qu;by_cases hret:x.1.k=114
    . have hk0:(x.1.k:Int)=114:=by omega
      rw[hk0]at v0;obtain⟨v,r,hs⟩:=SV (l:=f.st) (by have h0:=xg NE.o.1 NE.o.2.2;rw[hret]at h0;simp[U9]at h0;omega);have Kg:=H4.o.2.1;have h0:f.st.length<=16:=by have:=Nq NE.o.1.at_;omega
      have hw3:VA m K1.fu x.1 {f with pc:=f.pc+1} fs=QJ m K1.fu v fs:=by simp[VA,hret,hs]
      have D4:({f with pc:=f.pc+1}:Fr)={({f with pc:=f.pc+1}:Fr) with st:=v::r}:=by rw[<- hs]
      rw[D4]at Kg;rw[hs]at h0;simp only[ZI]at h0;have Lx:=Hr (f:={f with pc:=f.pc+1}) H4.o.1 Kg VH;have HW4:Hid _:=hw3;unfold Vl.val at Lx;clear Kg hw3 D4 hs;go_wp2_with fail;rw[<- B8];refine Lx.mono ?_;rintro e w0 ⟨rfl,j5,EQ⟩;have S2:=H4.o.2.2.trans EQ.run;refine agR ?_;intro Sk a0 a1 af al;obtain⟨y0,y1⟩:=RQ a0 a1 (.bool v.obj) (VI v.n);have HP:Hid (NR fb w m0 K0 f0 fs (.returned (Vl.val v)) ((w0.setCell (VJ w.heap.size 0) (.bool v.obj)).setCell (VJ w.heap.size 1) (VI v.n))):=NR.mk HZ.o.1 HZ.o.2.1 AI.o EQ.rk S2 RW.o.2.2.1 v (.inl ⟨RW.o.2.2.2.2.1,by rw[<- HW4.o];exact RW.o.1⟩) HZ.o.2.2.1;clear EQ S2 Sk Lx B8;exact aiR
    . have eg:¬(x.1.k:Int)=114:=by omega
      have hword:=alT (d:=d) fs D HS.o H4.o.1 RW.o.2.2.2.2.1 RW.o.2.2.2.2.2.2 H4.o.2.1 NE.o.1 NE.o.2.1 HZ.o.2.2.2.1 x NE.o.2.2 hret;rw[hb1]at hword;unfold U4 at hword;go_wp2_with fail;rw[<- B8];refine hword.mono ?_;rintro e w0 ⟨m6,K1,rfl,hk0,hr4,y6,F0⟩;have S2:=H4.o.2.2.trans hr4;have c3:=hk0.c4;have hb1:K1.b=K0.b:=S2.b;rw[hb1]at c3;have aD:=hk0.Vb.lt;rw[hb1]at aD;refine agR ?_;intro Sk a0 a1 af al;have hf2:K1.fu<=K0.fu:=ZC y6 RW.o.2.2.1;rcases F0 with⟨sL,f6',d0,Kg,KM⟩|⟨sL,KM⟩
      . have HN:Hid (RInv z fb W m0 K0 f0 fs (gk-1) w0):=⟨m6,K1,f6',d0,hk0,sL,Kg,S2,KM.ok RW.o.2.1,RW.o.1.trans KM,hf2,by have:=RW.o.2.2.2.1;omega⟩
        have de:gk-1<gk:=by have:=RW.o.2.2.2.1;omega
        rw[sL]at c3;clear hk0 hr4 y6 S2 Sk Kg KM hword B8 sL hb1 hf2;go_wp2_with fail
        go_roundg (gk-1)
        case measure=>omega
        case rel=>exact HN.o
      . obtain⟨y0,y1⟩:=RQ a0 a1 (.bool false) (VI 0);have HP:Hid (NR fb w m0 K0 f0 fs (.returned (Vl.val Vl.zero)) ((w0.setCell (VJ w.heap.size 0) (.bool false)).setCell (VJ w.heap.size 1) (VI 0))):=NR.mk HZ.o.1 HZ.o.2.1 AI.o hk0 S2 hf2 Vl.zero (.inr ⟨sL,RW.o.1.trans KM⟩) HZ.o.2.2.1;clear hk0 hr4 y6 S2 Sk KM hword B8 hb1 hf2;exact aiR
theorem sends_all:∀(k d:Nat),k+d=32->FQ d
 | 0,d,h=>ag5 d VH (λe=>VH)
 | k+1,d,h=>ag5 d VH (λ_=>apG (d+1) (sends_all k (d+1) VH))
theorem iT:FQ 0:=sends_all 32 0 rfl
theorem OD {fn:Func}{p k l:Tmp}(h:fn.results=#[.cell p 79,.tmp k,.tmp l]){tmps:Array Value}{z:Nat}(v0 v1 v u:Value)(hp:tmps.getD p undef=(VG z))(hk:tmps.getD k undef=v)(hl:tmps.getD l undef=u)(z0:w.cell? (VJ z 0)=some v0)(z1:w.cell? (VJ z 1)=some v1):
 (results fn tmps).run prog w=.ok (.tuple #[.agg #[v0,v1],v,u]) w:=by
 exact al2
def amv (w:World)(m:Im)(K:U0)(r:Vl×Int×Int×Im)(e:Ending)(w':World):Prop:=∃K',e=.returned (.tuple #[r.1.val,VI r.2.1,VI r.2.2.1])/\Vu w w' m K r.2.2.2 K'
theorem adD {K:U0}(h:RK w m K)(to:Vl)(X_:TB to.n)(sel:ByteArray)(hs:sel.size<=maxLen){ap:Option Addr}{cap:Nat}{args:List Vl}{ab:Nat}(W8:UH w (.slice ap args.length cap) args ab)(hab:args≠[]->K.lab ab=.no/\ab<w.heap.size)(hargs:∀v∈args,TB v.n)(hal:args.length<=maxLen)(fuel:Int):
 Calls prog 28 #[VG K.b,to.val,.string sel,.slice ap args.length cap,VI fuel] w (amv w m K (m.Uf to sel args fuel)):=by
 obtain⟨W,hW⟩:∃W,W=(w.alloc (.cells #[.bool to.obj,VI to.n] 79)).alloc (.cells #[.bool false,VI 0] 79):=Vx;have hB:Below w.heap.size w W:=by rw[hW];exact J5 _ _ _
 have Ki:W.heap.size=w.heap.size+2:=by rw[hW];simp
 have Mf:W.heap[w.heap.size]?=some (.cells #[.bool to.obj,VI to.n] 79):=by
  rw[hW];exact(ZV _ _ _ Vy).trans (Z4 w _).1
 have hbz:W.heap[w.heap.size+1]?=some (.cells #[.bool false,VI 0] 79):=by
  rw[hW];have:=(Z4 (w.alloc (.cells #[.bool to.obj,VI to.n] 79)) (.cells #[.bool false,VI 0] 79)).1;rw[ZJ]at this;exact this
 have hst:=Vu.below h hB;have t0:=(Vp Mf).1;have t1:=(Vp Mf).2;have z0:=(Vp hbz).1;have z1:=(Vp hbz).2;have zf:∀o,W.frozen? (VJ (w.heap.size+1) o)=false:=λo=>UL.free ⟨_,_,hbz⟩ o;have hbl:=h.Vb.lt;have W7:¬w.heap.size+1=K.b:=VH;have hw1:w.heap.size<W.heap.size:=VH;have hw1:w.heap.size+1<W.heap.size:=VH;have hwb:K.b<W.heap.size:=VH
 have HH:Hid (RK w m K/\Vu w W m K m K):=⟨h,hst⟩
 have wt:Hid _:=hbz;obtain⟨y0,y1⟩:=RQ z0 z1 (.bool false) (VI 0);have HR:Hid (Vu w ((W.setCell (VJ (w.heap.size+1) 0) (.bool false)).setCell (VJ (w.heap.size+1) 1) (VI 0)) m K m K):=hst.told IB (h.QF IB) _ _;have hsl:=Pj sel W hs;obtain⟨r,hr⟩:∃r,m.Uf to sel args fuel=r:=Vx;rw[hr];have hr0:=hr;unfold Im.Uf at hr
 have Nd:Hid (UH W (.slice ap args.length cap) args ab/\(args≠[]->K.lab ab=.no/\ab<w.heap.size)):=⟨W8.same (λe=>hB.block _ (hab e).2),hab⟩
 cases U_:selector (bl sel) with
 | false=>
  rw[ZU (.inl U_)]at hr;subst hr;rw[U_]at hsl;clear h hst W8 hab Mf hbz hB Ki hr0;unfold Vl.val;go_enter func28,ntmps28;go_wp2_with fail;rw[<- hW];clear hW;refine hsl.mono ?_;exact aoB
 | true=>
  rw[U_]at hsl;obtain⟨q3,q3,Pd,qa⟩:=Nu U_;have hag:=LC sel W q3 VH Pd;obtain⟨an,Hh⟩:∃an,an=U6 (bl sel):=Vx;rw[<- Hh]at hag hr qa;unfold maxLen at hal;by_cases hbad:an≠args.length\/fuel<0\/3000<fuel
  . rw[ZU (.inr hbad)]at hr;subst hr;clear h hst W8 hab Mf hbz hB Ki hr0 Hh;unfold Vl.val
    by_cases hb1:(an:Int)=(args.length:Int)
    . by_cases hb2:fuel<0
      . exact alL
      . have hb3:3000<fuel:=by omega
        exact alL
    . exact alL
  . have IF:=Zt λe=>hbad (.inl e);have hf0:0<=fuel:=VH;have hf3:fuel<=3000:=VH;rw[ZX (by rw[U_];simp;omega)]at hr;obtain⟨fu,rfl⟩:=YP hf0;have PR:fu<=3000:=VH;rw[Zp]at hr;have Fx:=hst.rk.there to.n;by_cases Nm:(to.obj&&!m.there to.n)=true
    . rw[ZU (by simp[WX,Nm])]at hr;subst hr;simp at Nm;rw[Nm.2]at Fx;have M6:=Nm.1;clear h hst W8 hab Mf hbz hB Ki hr0 Hh hbad Nm;subst IF;unfold Vl.val;obtain⟨et,tn⟩:=to;simp only at M6;subst M6;go_enter func28,ntmps28;go_wp2_with fail;rw[<- hW];clear hW;refine CB ?_;go_wp2_with fail;refine hag.mono ?_;refine Sl ?_;go_wp2_with fail;refine Fx.mono ?_;exact aoB
    . have M6:(to.obj&&!m.there to.n)=false:=by simpa using Nm
      have eT:Hid ((if (to::args).any (λv=>v.obj&&!m.there v.n)=true then (Vl.zero,(0:Int),(4:Int),m) else match runM (2*fu+64) (m.send fu (m.of to) to sel args []) with
       | .told m' v=>(v,0,0,m')
       | .stop m' e=>(Vl.zero,e,0,m')
       | .on m' _ _=>(Vl.zero,0,0,m'))=r):=hr
      have HI:Hid (TB to.n/\(∀v∈args,TB v.n)/\selector (bl sel)=true/\args.length=U6 (bl sel)/\fu<=3000):=⟨X_,hargs,U_,VH,PR⟩
      obtain⟨et,tn⟩:=to;have OS:Hid _:=M6;simp only at Nm M6 Fx t0 t1;clear hr hr0 h hst W8 hab Mf hbz hB Hh hbad Nm X_ hargs;subst IF;unfold Vl.val
      cases et with
      | false=>
       clear Fx M6;go_enter func28,ntmps28;go_wp2_with fail;rw[<- hW];clear hW;refine CB ?_;go_wp2_with fail;refine hag.mono ?_;refine Sl ?_;go_wp2_with fail
       go_loopw [13] (λi wr=>∃j:Nat,i=VI j/\j<=args.length/\(∀k v,k<j->args[k]?=some v->(v.obj&&!m.there v.n)=false)/\wr=W) (λi _=>args.length-(intOf i).toNat)
       case atStart=>exact⟨0,rfl,VH,λk v hk=>VH,rfl⟩
       case round=>
        obtain⟨j,rfl,hj,H_,rfl⟩:=hrel;have HG:Hid _:=H_;clear H_;by_cases hjl:j<args.length
        . obtain⟨v,hv⟩:∃v,args[j]?=some v:=⟨_,Z8 hjl⟩
          have hne:args≠[]:=λe=>qN;obtain⟨o,hap,hget⟩:=KL Nd.o.1 hne;obtain⟨a0,a1⟩:=hget j v hv;have hadd:(VJ ab o).add (j*2)=(VJ ab (o+j*2)):=XJ _ _ _;subst hap;have FE:(j:Int)<(args.length:Int):=VH;have TE:=HH.o.2.rk.there v.n;have HV:Hid _:=hv;clear hget hv hne;obtain⟨vo,vn⟩:=v;simp only at a0 a1 TE
          cases vo with
          | false=>
           go_wp2
           go_roundw
           case rel=>exact⟨j+1,Uu,VH,λk u hk hu=>by
            by_cases e:k=j
            . exact ahX
            . exact HG.o k u VH hu,sK⟩
           case measure=>simp[intOf]<;>omega
          | true=>
           cases ht:m.there vn with
           | true=>
            rw[ht]at TE;go_wp2_with fail;refine TE.mono ?_;refine Sl ?_;go_wp2
            go_roundw
            case rel=>exact⟨j+1,Uu,VH,λk u hk hu=>by
             by_cases e:k=j
             . exact agT
             . exact HG.o k u VH hu,sK⟩
            case measure=>simp[intOf]<;>omega
           | false=>
            exact amx
        . obtain rfl:j=args.length:=by omega
          have hno:(((⟨false,tn⟩:Vl)::args).any (λv=>v.obj&&!m.there v.n))=false:=by
           exact aog
          refine aiP ?_;intro hr0 hs1 hs2 c3 c4 kf;obtain⟨K2,hK2⟩:∃K2:U0,K2={K with fu:=fu,en:=0}:=Vx;obtain⟨X2,SU⟩:∃X2,X2=(wr.setCell (VJ K.b 3) (VI (fu:Nat))).setCell (VJ K.b 4) (VI 0):=Vx;rw[<- SU]at hs2;refine amo ?_;intro G0 Ax W7 s0 s1 Bs M7 LR
          have RW:Hid (TF m ⟨false,tn⟩):=⟨HI.o.1,λe=>aiM⟩
          refine ajq ?_;intro Mx;have Lf:=aby Bs.rk ⟨false,tn⟩ RW.o;have Ly:=aby M7.rk ⟨false,tn⟩ RW.o;rw[LR.2.2.1]at Lf Ly;unfold Vl.val at Lf Ly;refine aiO ?_;intro HX gF C7;clear hs1 hs2 Bs M7 hK2 LR G0 Ax hno;go_wp2_with fail;rw[<- SU];clear SU t0 t1;refine Uy ?_;refine ZT (S:=(λw'=>w'.cell? (VJ w.heap.size 0)=some (.bool false)/\w'.cell? (VJ w.heap.size 1)=some (VI tn))) VE UG (λhHeld=>?_);refine pJ ?_;refine tC ?_;refine Zv (rs:=[4,8]) VE Vy ?_;refine(ZO (o:=_) rfl (λY_ Z_=>?Sa1) (ZO (o:=_) rfl (λY_ Z_=>?Sa2) ZA))
          case' Sa1=>
           refine ain ?_;intro w3 hb3 q3 Pd z_
           try go_wp2_with fail
           refine Z_.go λhHeld=>?_;clear Z_ Y_
           try refine UE ?_
           refine Zv (rs:=[7,8]) VE Vy ?_;refine(ZO (o:=_) rfl (λY_ Z_=>?cF) (ZO (o:=_) rfl (λY_ Z_=>?Sb2) ZA))
           case' cF=>
            refine aiq ?_;intro w_;refine afG ?_;intro w4 v m' K' r_ PR d_ p0 p1;unfold Vl.val
            try go_wp2_with fail
            refine Z_.go λhHeld=>?_;clear Z_ Y_;refine ah4 ?_;intro _ hHeld ST;refine aY ?_;intro UV Eg Tk PH hzl a0 a1;refine aow ?_;intro af QR b0 b1 hvl HY;obtain⟨Y,S1⟩:∃Y,Y=w4.alloc (.cells #[.bool v.obj,VI v.n] 79):=Vx;rw[<- S1]at UV Tk hzl a0 a1 b0 b1 hvl HY ⊢;refine zN ?_;intro A3;clear PH QR af S1 r_ ST z_ w_;rcases d_ with⟨he0,T1⟩|⟨KB,T1⟩
            . exact aaF
            . exact dH
           case' Sb2=>
            have m7:X2.heap.size<=w3.heap.size:=hb3.size;have m5:¬w3.heap.size=w.heap.size:=VH;refine Vg ?_;intro hHeld;clear Z_ Y_
            try refine UE ?_
            have Wt:=z_.trans (Vu.below z_.rk (UF w3 (.cells #[.bool false,VI 0] 79)));have dx:(w3.alloc (.cells #[.bool false,VI 0] 79)).cell? (VJ w.heap.size 0)=some (.bool false):=(Z9 (a:=(VJ w.heap.size 0)) abD).trans q3;refine ams ?_;intro qn hvb Se R7 Pt;have w_:=iT (w3.alloc (.cells #[.bool false,VI 0] 79)) m K2 [] ⟨false,tn⟩ (m.of ⟨false,tn⟩) sel (.slice ap args.length cap) args ab Wt.rk HX.o.2.2.2.2.1 iQ rfl gy RW.o Mx.o HI.o.2.2.1 HI.o.2.2.2.1 eU (Nd.o.1.same (λe=>(Wt.Ut.block ab wB ajO))) (λe=>⟨(Wt.lab ab wB).trans (Nd.o.2 e).1,ZY wB Wt.Ut.size⟩);rw[HX.o.2.2.2.2.2.1,HX.o.2.2.2.1]at w_;unfold Vl.val at w_;refine Ul 7 λY_ Z_=>?_;refine FT ?_;rintro e w4 ⟨v,m',K',rfl,r_,PR,d_⟩;refine ahV ?_;intro p0 p1 Wo u0 u1 uf
            try go_wp2_with fail
            refine Z_.go λhHeld=>?_;clear Z_ Y_;refine tZ ?_;intro hHeld;refine ajH ?_;intro SZ S0 ST;refine aY ?_;intro UV Eg Tk PH hzl a0 a1;refine ao0 ?_;intro af QR b0 b1 hvl HY;obtain⟨Y,S1⟩:∃Y,Y=(w4.setCell (VJ w3.heap.size 0) (.bool v.obj)).setCell (VJ w3.heap.size 1) (VI v.n):=Vx;rw[<- S1]at UV Tk hzl a0 a1 b0 b1 hvl HY ⊢;refine zN ?_;intro A3;clear PH QR af S1 r_ ST SZ w_ Wo S0;rcases d_ with⟨he0,T1⟩|⟨KB,T1⟩
            . exact aaF
            . exact dH
          case' Sa2=>
           refine Vg ?_;intro hHeld;clear Z_ Y_;refine am1 ?_;intro Y_ Z_ w3 hb3 Od q3 Pd z_
           try go_wp2_with fail
           refine Z_.go λhHeld=>?_;clear Z_ Y_;refine ajd ?_;intro hvb Se R7 Pt;refine aiq ?_;intro w_;refine Ul 7 λY_ Z_=>?_;refine afG ?_;intro w4 v m' K' r_ PR d_ p0 p1;refine agZ ?_;intro Wo u0 u1 uf
           try go_wp2_with fail
           refine Z_.go λhHeld=>?_;clear Z_ Y_;refine tZ ?_;intro hHeld;refine ah8 ?_;intro SZ S0 ST;refine aY ?_;intro UV Eg Tk PH hzl a0 a1;refine aoO ?_;intro af QR b0 b1 hvl HY;obtain⟨Y,S1⟩:∃Y,Y=(w4.setCell (VJ X2.heap.size 0) (.bool v.obj)).setCell (VJ X2.heap.size 1) (VI v.n):=Vx;rw[<- S1]at UV Tk hzl a0 a1 b0 b1 hvl HY ⊢;refine zN ?_;intro A3;clear PH QR af S1 r_ ST SZ w_ Wo S0;rcases d_ with⟨he0,T1⟩|⟨KB,T1⟩
           . exact aaF
           . exact dH
      | true=>
       have lz:m.there tn=true:=by simpa using M6
       rw[lz]at Fx;clear M6;go_enter func28,ntmps28;go_wp2_with fail;rw[<- hW];clear hW;refine CB ?_;go_wp2_with fail;refine hag.mono ?_;refine Sl ?_;go_wp2_with fail;refine Fx.mono ?_;refine Sl ?_;go_wp2_with fail
       go_loopw [13] (λi wr=>∃j:Nat,i=VI j/\j<=args.length/\(∀k v,k<j->args[k]?=some v->(v.obj&&!m.there v.n)=false)/\wr=W) (λi _=>args.length-(intOf i).toNat)
       case atStart=>exact⟨0,rfl,VH,λk v hk=>VH,rfl⟩
       case round=>
        obtain⟨j,rfl,hj,H_,rfl⟩:=hrel;have HG:Hid _:=H_;clear H_;by_cases hjl:j<args.length
        . obtain⟨v,hv⟩:∃v,args[j]?=some v:=⟨_,Z8 hjl⟩
          have hne:args≠[]:=λe=>qN;obtain⟨o,hap,hget⟩:=KL Nd.o.1 hne;obtain⟨a0,a1⟩:=hget j v hv;have hadd:(VJ ab o).add (j*2)=(VJ ab (o+j*2)):=XJ _ _ _;subst hap;have FE:(j:Int)<(args.length:Int):=VH;have TE:=HH.o.2.rk.there v.n;have HV:Hid _:=hv;clear hget hv hne;obtain⟨vo,vn⟩:=v;simp only at a0 a1 TE
          cases vo with
          | false=>
           go_wp2
           go_roundw
           case rel=>exact⟨j+1,Uu,VH,λk u hk hu=>by
            by_cases e:k=j
            . exact ahX
            . exact HG.o k u VH hu,sK⟩
           case measure=>simp[intOf]<;>omega
          | true=>
           cases ht:m.there vn with
           | true=>
            rw[ht]at TE;go_wp2_with fail;refine TE.mono ?_;refine Sl ?_;go_wp2
            go_roundw
            case rel=>exact⟨j+1,Uu,VH,λk u hk hu=>by
             by_cases e:k=j
             . exact agT
             . exact HG.o k u VH hu,sK⟩
            case measure=>simp[intOf]<;>omega
           | false=>
            exact amx
        . obtain rfl:j=args.length:=by omega
          have hno:(((⟨true,tn⟩:Vl)::args).any (λv=>v.obj&&!m.there v.n))=false:=by
           exact aog
          refine aiP ?_;intro hr0 hs1 hs2 c3 c4 kf;obtain⟨K2,hK2⟩:∃K2:U0,K2={K with fu:=fu,en:=0}:=Vx;obtain⟨X2,SU⟩:∃X2,X2=(wr.setCell (VJ K.b 3) (VI (fu:Nat))).setCell (VJ K.b 4) (VI 0):=Vx;rw[<- SU]at hs2;refine amo ?_;intro G0 Ax W7 s0 s1 Bs M7 LR
          have RW:Hid (TF m ⟨true,tn⟩):=⟨HI.o.1,λe=>aiM⟩
          refine ajq ?_;intro Mx;have Lf:=aby Bs.rk ⟨true,tn⟩ RW.o;have Ly:=aby M7.rk ⟨true,tn⟩ RW.o;rw[LR.2.2.1]at Lf Ly;unfold Vl.val at Lf Ly;refine aiO ?_;intro HX gF C7;clear hs1 hs2 Bs M7 hK2 LR G0 Ax hno;go_wp2_with fail;rw[<- SU];clear SU t0 t1;refine Uy ?_;refine ZT (S:=(λw'=>w'.cell? (VJ w.heap.size 0)=some (.bool true)/\w'.cell? (VJ w.heap.size 1)=some (VI tn))) VE UG (λhHeld=>?_);refine pJ ?_;refine tC ?_;refine Zv (rs:=[4,8]) VE Vy ?_;refine(ZO (o:=_) rfl (λY_ Z_=>?Ta1) (ZO (o:=_) rfl (λY_ Z_=>?Ta2) ZA))
          case' Ta1=>
           refine ain ?_;intro w3 hb3 q3 Pd z_
           try go_wp2_with fail
           refine Z_.go λhHeld=>?_;clear Z_ Y_
           try refine UE ?_
           refine Zv (rs:=[7,8]) VE Vy ?_;refine(ZO (o:=_) rfl (λY_ Z_=>?Tb1) (ZO (o:=_) rfl (λY_ Z_=>?Tb2) ZA))
           case' Tb1=>
            refine ahp ?_;intro w_;refine afG ?_;intro w4 v m' K' r_ PR d_ p0 p1;unfold Vl.val
            try go_wp2_with fail
            refine Z_.go λhHeld=>?_;clear Z_ Y_;refine ah4 ?_;intro _ hHeld ST;refine aY ?_;intro UV Eg Tk PH hzl a0 a1;refine aow ?_;intro af QR b0 b1 hvl HY;obtain⟨Y,S1⟩:∃Y,Y=w4.alloc (.cells #[.bool v.obj,VI v.n] 79):=Vx;rw[<- S1]at UV Tk hzl a0 a1 b0 b1 hvl HY ⊢;refine zN ?_;intro A3;clear PH QR af S1 r_ ST z_ w_;rcases d_ with⟨he0,T1⟩|⟨KB,T1⟩
            . exact aaF
            . exact dH
           case' Tb2=>
            have m7:X2.heap.size<=w3.heap.size:=hb3.size;have m5:¬w3.heap.size=w.heap.size:=VH;refine Vg ?_;intro hHeld;clear Z_ Y_
            try refine UE ?_
            have Wt:=z_.trans (Vu.below z_.rk (UF w3 (.cells #[.bool false,VI 0] 79)));have dx:(w3.alloc (.cells #[.bool false,VI 0] 79)).cell? (VJ w.heap.size 0)=some (.bool true):=(Z9 (a:=(VJ w.heap.size 0)) abD).trans q3;refine ams ?_;intro qn hvb Se R7 Pt;have w_:=iT (w3.alloc (.cells #[.bool false,VI 0] 79)) m K2 [] ⟨true,tn⟩ (m.of ⟨true,tn⟩) sel (.slice ap args.length cap) args ab Wt.rk HX.o.2.2.2.2.1 iQ rfl gy RW.o Mx.o HI.o.2.2.1 HI.o.2.2.2.1 eU (Nd.o.1.same (λe=>(Wt.Ut.block ab wB ajO))) (λe=>⟨(Wt.lab ab wB).trans (Nd.o.2 e).1,ZY wB Wt.Ut.size⟩);rw[HX.o.2.2.2.2.2.1,HX.o.2.2.2.1]at w_;unfold Vl.val at w_;refine Ul 7 λY_ Z_=>?_;refine FT ?_;rintro e w4 ⟨v,m',K',rfl,r_,PR,d_⟩;refine ahV ?_;intro p0 p1 Wo u0 u1 uf
            try go_wp2_with fail
            refine Z_.go λhHeld=>?_;clear Z_ Y_;refine tZ ?_;intro hHeld;refine ajH ?_;intro SZ S0 ST;refine aY ?_;intro UV Eg Tk PH hzl a0 a1;refine ao0 ?_;intro af QR b0 b1 hvl HY;obtain⟨Y,S1⟩:∃Y,Y=(w4.setCell (VJ w3.heap.size 0) (.bool v.obj)).setCell (VJ w3.heap.size 1) (VI v.n):=Vx;rw[<- S1]at UV Tk hzl a0 a1 b0 b1 hvl HY ⊢;refine zN ?_;intro A3;clear PH QR af S1 r_ ST SZ w_ Wo S0;rcases d_ with⟨he0,T1⟩|⟨KB,T1⟩
            . exact aaF
            . exact dH
          case' Ta2=>
           refine Vg ?_;intro hHeld;clear Z_ Y_;refine am1 ?_;intro Y_ Z_ w3 hb3 Od q3 Pd z_
           try go_wp2_with fail
           refine Z_.go λhHeld=>?_;clear Z_ Y_;refine ajd ?_;intro hvb Se R7 Pt;refine ahp ?_;intro w_;refine Ul 7 λY_ Z_=>?_;refine afG ?_;intro w4 v m' K' r_ PR d_ p0 p1;refine agZ ?_;intro Wo u0 u1 uf
           try go_wp2_with fail
           refine Z_.go λhHeld=>?_;clear Z_ Y_;refine tZ ?_;intro hHeld;refine ah8 ?_;intro SZ S0 ST;refine aY ?_;intro UV Eg Tk PH hzl a0 a1;refine aoO ?_;intro af QR b0 b1 hvl HY;obtain⟨Y,S1⟩:∃Y,Y=(w4.setCell (VJ X2.heap.size 0) (.bool v.obj)).setCell (VJ X2.heap.size 1) (VI v.n):=Vx;rw[<- S1]at UV Tk hzl a0 a1 b0 b1 hvl HY ⊢;refine zN ?_;intro A3;clear PH QR af S1 r_ ST SZ w_ Wo S0;rcases d_ with⟨he0,T1⟩|⟨KB,T1⟩
           . exact aaF
           . exact dH
end Go.Proofs.Rz
