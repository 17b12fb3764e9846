import Derived.Test.YtkghmgoefiepeaaGreatDoorG
set_option linter.all false
set_option maxHeartbeats 4000000
set_option maxRecDepth 100000
namespace Go.Proofs.Rz
open ChangeShapes WideShapes ChangeAt RowKit Kn Tryz
def fJ {ws:List (W×Nat)}{args slots:Nat}(h0:∀(i:Nat) (x:W×Nat),ws[i]?=some x->Pv x.1)(hno:∀j,j<ws.length->¬SC ws args slots j)(i:Nat)(x:W×Nat)(hx:ws[i]?=some x):Fine x.1 ws.length:=by
 have h:=h0 i x hx;have hi:=(Z7.1 hx).1;refine⟨h.kind,h.lo,h.hi,h.send,λe=>⟨h.goto e,?_⟩⟩;have hn:=hno i hi;have hw:EG ws i=x.1:=ql;unfold SC TJ at hn;rw[hw]at hn;by_cases hc:x.1.n<=ws.length
 . exact hc
 . exact absurd (W9 (Or.inr ⟨e,VH⟩)) hn
def fits_any (ws:List (W×Nat))(p:Option Addr)(g cap args slots:Nat)(w:World)(hn:ws.length<=40)(ha:args<=3)(hs:slots<=10)(hw:pG w p g ws)(h0:∀(i:Nat) (x:W×Nat),ws[i]?=some x->Pv x.1):
 Calls prog 100 #[.slice p ws.length cap,VI args,VI slots] w λe w'=>∃r i:Int,e=.returned (.tuple #[VI r,VI i])/\MN ws args slots r i/\Below w.heap.size w w':=by
 have HW:Hid _:=hw;have HF:Hid _:=h0;clear hw h0;go_enter func100,ntmps100;go_wp2
 go_loop [8] (λi=>∃k:Nat,i=VI k/\k<=ws.length/\∀j,j<k->¬SC ws args slots j) (λi=>ws.length-(intOf i).toNat)
 case atStart=>exact zt9
 case round=>
  obtain⟨k,rfl,hk,hno⟩:=hrel;have G':Hid _:=hno;clear hno;by_cases hkn:k<ws.length
  . refine BH ?_;intro x hx;have hwx:EG ws k=x.1:=ql;have Rg:=HF.o k x hx;obtain rfl:p=some (VJ g 0):=HW.o.head VH;have c0:=HW.o.c0 k x hx;have c1:=HW.o.c1 k x hx;have hlo:=Rg.lo;have hhi:=Rg.hi
    have HA:Hid (TJ ws args k↔(x.1.k=97/\(args:Int)<=x.1.n)\/((x.1.k=62\/x.1.k=63)/\(ws.length:Int)<x.1.n)):=by
     have hx1:TJ ws args k↔(x.1.k=97/\(args:Int)<=x.1.n)\/((x.1.k=62\/x.1.k=63)/\(ws.length:Int)<x.1.n):=by unfold TJ;rw[hwx]
     exact hx1
    have HS:Hid (TG ws slots k↔((x.1.k=103\/x.1.k=112)/\(slots:Int)<=x.1.n)):=by
     have hx1:TG ws slots k↔((x.1.k=103\/x.1.k=112)/\(slots:Int)<=x.1.n):=by unfold TG;rw[hwx]
     exact hx1
    obtain⟨⟨xk,xn,xs,xa,xb⟩,xi⟩:=x;simp only at c0 c1 hlo hhi HA HS;clear hx hwx Rg;by_cases e97:xk=97
    . skip;by_cases hb:(args:Int)<=xn
      . skip;go_wp2
        go_ret2
        exact amr
      . skip;go_wp2
        go_round
        case rel=>
         exact anj
        case measure=>simp[intOf]<;>omega
    by_cases e62:xk=62
    . exact al0
    by_cases e63:xk=63
    . exact al0
    by_cases ap2:xk=103
    . exact anc
    by_cases ap4:xk=112
    . exact anc
    have oy:((xk:Int)==97)=false:=Vo;have oy:((xk:Int)==62)=false:=Vo;have oy:((xk:Int)==63)=false:=Vo;have oy:((xk:Int)==103)=false:=Vo;have oy:((xk:Int)==112)=false:=Vo;go_wp2
    go_round
    case rel=>
     exact anj
    case measure=>simp[intOf]<;>omega
  . obtain rfl:k=ws.length:=by omega
    go_wp2_with fail;refine(qj ws p g cap _ hn HW.o (fJ HF.o G'.o)).mono ?_;rintro e w1 ⟨r,rfl,hr,hb⟩;have HR:=UQ hr;clear hr;go_wp2
    go_ret2
    exact⟨6,r,rfl,.inr ⟨G'.o,rfl,HR.o⟩,hb⟩
structure Cl where
 name:ByteArray
 above:Int
 own:Int
 Om:Value
def Ui:List Cl->List Value
 | []=>[]
 | x::r=>.string x.name::VI x.above::VI x.own::x.Om::Ui r
theorem Ls:∀(l r:List Cl),Ui (l++r)=Ui l++Ui r
 | [],r=>rfl
 | x::l,r=>by simp only[YR,Ui,Ls l r]
theorem Gf:∀(l:List Cl) (i:Nat) (x:Cl) (c:Nat) (u:Value),l[i]?=some x->([Value.string x.name,VI x.above,VI x.own,x.Om])[c]?=some u->(Ui l)[i*4+c]?=some u
 | [],i,x,c,u,h,_=>vF
 | y::r,0,x,c,u,h,hc=>by
  simp at h;subst h;rw[Yu,YU]
  match c,hc with
  | 0,hc=>simpa[Ui]using hc
  | 1,hc=>simpa[Ui]using hc
  | 2,hc=>simpa[Ui]using hc
  | 3,hc=>simpa[Ui]using hc
  | c+4,hc=>simp at hc
 | y::r,i+1,x,c,u,h,hc=>by
  have ih:=Gf r i x c u Nv hc;rw[show (i+1)*4+c=i*4+c+4 from VH];simpa[Ui]using ih
structure RIm (w:World)(B b:Nat)(vc:Value)(cl:List Cl):Prop where
 lo:B<=b
 lt:b<w.heap.size
 head:w.cell? (VJ b 0)=some vc
 free:w.frozen? (VJ b 0)=false
 own:w.ownsRow B 74 4 vc cl.length (Ui cl)
 apart:vc.ownBlock≠some b
variable {w w' : World}
structure als (w:World)(p:Option Addr)(g:Nat)(cl:List Cl):Prop where
 head:1<=cl.length->p=some (VJ g 0)
 lt:1<=cl.length->g<w.heap.size
 c0:∀i x,cl[i]?=some x->w.cell? (VJ g (i*4))=some (.string x.name)
 c1:∀i x,cl[i]?=some x->w.cell? (VJ g (i*4+1))=some (VI x.above)
 c2:∀i x,cl[i]?=some x->w.cell? (VJ g (i*4+2))=some (VI x.own)
 c3:∀i x,cl[i]?=some x->w.cell? (VJ g (i*4+3))=some x.Om
def Qa {cl:List Cl}{B:Nat}{e:TypeId}{v:Value}(h:w.ownsRow B e 4 v cl.length (Ui cl)):∃p g cap,v=.slice p cl.length cap/\als w p g cl:=by
 have hc:=λg hg=>h.cells (g:=g) hg;rcases h.2 with⟨rfl,h0⟩|⟨g,cap,cur,rfl,hb,hg,hn,_⟩
 . refine⟨none,0,0,by rw[h0],⟨λe=>VH,λe=>VH,?_,?_,?_,?_⟩⟩
   all_goals
    intro i x hx;have:=(Z7.1 hx).1;omega
 . have key:∀i x c u,cl[i]?=some x->([Value.string x.name,VI x.above,VI x.own,x.Om])[c]?=some u->w.cell? (VJ g (i*4+c))=some u:=by
    intro i x c u hx hu;have:=hc g rfl (i*4+c) u (Gf cl i x c u hx hu);have hadd:(VJ g 0).add (i*4+c)=(VJ g (i*4+c)):=qP;rw[hadd]at this;exact this
   exact⟨some (VJ g 0),g,cap,rfl,⟨λ_=>rfl,λ_=>(Z5.1 hg).1,λi x hx=>key i x 0 _ hx rfl,λi x hx=>key i x 1 _ hx rfl,λi x hx=>key i x 2 _ hx rfl,λi x hx=>key i x 3 _ hx rfl⟩⟩
def yt {a b:ByteArray}(h:¬a=b):(a.toList==b.toList)=false:=by
 refine Jv (λe=>h ?_);rw[ZL]at e;cases a;cases b;congr 1;exact Wh.1 e
def IsClass (cl:List Cl)(s:ByteArray)(r:Int):Prop:=Kt (λi=>∃x,cl[i]?=some x/\x.name=s) cl.length r
def nZ (cl:List Cl)(s:ByteArray)(w:World)(B b:Nat)(vc:Value)(hn:∀x∈cl,x.name.size<=100)(hl:cl.length<=12)(h:RIm w B b vc cl):
 Calls prog 93 #[VG b,.string s] w λe w'=>∃r:Int,e=.returned (VI r)/\IsClass cl s r/\w'=w:=by
 obtain⟨p,g,cap,rfl,hat⟩:=Qa h.own;have c0:=h.head;have HC:Hid _:=hat;clear h hat;go_enter func93,ntmps93;go_wp2
 go_loop [5] (λi=>∃k:Nat,i=VI k/\k<=cl.length/\∀j,j<k->¬∃x,cl[j]?=some x/\x.name=s) (λi=>cl.length-(intOf i).toNat)
 case atStart=>exact zt9
 case round=>
  obtain⟨k,rfl,hk,hno⟩:=hrel;have G':Hid _:=hno;clear hno;by_cases hkn:k<cl.length
  . obtain⟨x,hx⟩:∃x,cl[k]?=some x:=⟨_,Z8 hkn⟩
    obtain rfl:p=some (VJ g 0):=HC.o.head VH;have d0:=HC.o.c0 k x hx;have HX:Hid _:=hx;clear hx;by_cases he:x.name=s
    . go_wp2
      go_ret
      exact⟨k,rfl,.inr ⟨k,hkn,rfl,⟨x,HX.o,he⟩,G'.o⟩,rfl⟩
    . have te:=yt he;go_wp2
      go_round
      case rel=>
       refine⟨k+1,Uu,VH,λj hj=>?_⟩;by_cases e:j=k
       . subst e;rintro⟨y,hy,hys⟩;rw[HX.o]at hy;injection hy with hy;exact he (by rw[hy];exact hys)
       . exact G'.o j VH
      case measure=>simp[intOf]<;>omega
  . obtain rfl:k=cl.length:=by omega
    go_wp2
    go_ret
    exact⟨-1,rfl,.inl ⟨rfl,G'.o⟩,rfl⟩
def NS:Nat->List Cl->Int->Option Int
 | 0,_,c=>if c<0 then some 0 else none
 | f+1,cl,c=>if c<0 then some 0 else match cl[c.toNat]? with
  | none=>none
  | some x=>(NS f cl x.above).map (x.own+·)
def lu (f:Nat)(cl:List Cl)(c n:Int)(w:World)(B b:Nat)(vc:Value)(hl:cl.length<=12)(hc:c<100)(hown:∀x∈cl,0<=x.own/\x.own<=10/\x.above<100)(hf:f<=20)(hn:NS f cl c=some n)(h:RIm w B b vc cl):
 Calls prog 51 #[VG b,VI c] w λe w'=>e=.returned (VI n)/\w'=w:=by
 obtain⟨p,g,cap,rfl,hat⟩:=Qa h.own;have c0:=h.head;have HC:Hid _:=hat;have HO:Hid _:=hown;clear h hat hown;have HN:Hid _:=hn;clear hn;go_enter func51,ntmps51;go_wp2
 go_loopg [1,5] f (λgk cv nv wr=>∃(c' acc m:Int),cv=VI c'/\nv=VI acc/\NS gk cl c'=some m/\acc+m=n/\0<=acc/\acc<=10*(20-(gk:Int))/\gk<=20/\c'<100/\wr=w)
 case atStart=>exact⟨c,0,n,rfl,rfl,HN.o,VH,VH,VH,hf,hc,rfl⟩
 case round=>
  obtain⟨c',acc,m,rfl,rfl,hs,hm,ha0,ha0,aqf,hc',rfl⟩:=hrel;by_cases hneg:c'<0
  . have hm0:m=0:=by
     cases gk<;>(unfold NS at hs;rw[ZU hneg]at hs;injection hs with hs;exact hs.symm)
    subst hm0;clear hs;go_wp2
    go_ret
    exact⟨by rw[<- hm];simp,rfl⟩
  . cases gk with
    | zero=>unfold NS at hs;rw[ZX hneg]at hs;cases hs
    | succ gk=>
     unfold NS at hs;rw[ZX hneg]at hs;obtain⟨q,rfl⟩:=YP (by omega:0<=c');rw[Zp]at hs
     cases hx:cl[q]? with
     | none=>rw[hx]at hs;cases hs
     | some x=>
      rw[hx]at hs;simp only at hs
      cases hr:NS gk cl x.above with
      | none=>rw[hr]at hs;cases hs
      | some m'=>
       rw[hr]at hs;simp at hs;have hq:=(Z7.1 hx).1;have hxo:=HO.o x (ZK hx);obtain⟨ho0,ho0,hab⟩:=hxo;obtain rfl:p=some (VJ g 0):=HC.o.head VH;have d1:=HC.o.c1 q x hx;have d1:=HC.o.c2 q x hx;have HR:Hid _:=hr;clear hr hx;go_wp2
       go_roundg gk
       case measure=>omega
       case rel=>exact⟨x.above,acc+x.own,m',rfl,rfl,HR.o,VH,VH,VH,VH,hab,rfl⟩
def ajv:List Cl:=[⟨⟨#[65,110,121]⟩,-1,0,.slice none 0 0⟩,⟨⟨#[73,110,116]⟩,0,0,.slice none 0 0⟩]
structure apZ (w w':World)(L:List Nat):Prop where
 os:w'.os=w.os
 tape:w'.tape=w.tape
 output:w'.output=w.output
 size:w.heap.size<=w'.heap.size
 block:∀k,k<w.heap.size->k ∉ L->w'.heap[k]?=w.heap[k]?
variable {w1 w2 : World}
def ng:(prog.info? 74).map (λi=>(i.zero,i.size,i.bytes))=some (some (.agg #[.string ⟨#[]⟩,VI 0,VI 0,.slice none 0 0]),4,56):=VE
def FP:(prog.info? 180).map (λi=>(i.zero,i.size,i.bytes))=some (some (.agg #[.string ⟨#[]⟩,.slice none 0 0]),2,40):=VE
def Nu {s:ByteArray}(h:selector (bl s)=true):3<=s.size/\s.size<=8/\48<=((bl s)[s.size-1]?.getD 0).toNat/\U6 (bl s)<=3:=by
 have ha:=Kw h;unfold selector at h;simp only[ZB,Zq]at h;obtain⟨⟨⟨⟨⟨h3,h8⟩,h47⟩,hd1⟩,hd2⟩,hall⟩:=h;rw[VB]at h3 h8 hd1;exact⟨h3,h8,hd1,ha⟩
def jD (w:World)(Q:Nat->Prop)(v:Value)(ms:List Mt):Prop:=∃p cap,v=.slice p ms.length cap/\(1<=ms.length->∃g,p=some (VJ g 0)/\Q g/\g<w.heap.size/\
 ∀i x,ms[i]?=some x->w.cell? (VJ g (i*2))=some (.string x.sel)/\∃q h c,w.cell? (VJ g (i*2+1))=some (.slice q x.ws.length c)/\pG w q h x.ws/\(1<=x.ws.length->Q h))
def abv:Option Nat->Int
 | none=>-1
 | some a=>(a:Nat)
structure Ri (w:World)(m:Im)(Q:Nat->Prop)(cl:List Cl):Prop where
 len:cl.length=m.kl.length
 rel:∀(c:Nat) (k:Kl) (x:Cl),m.kl[c]?=some k->cl[c]?=some x->x.name=k.name/\x.above=abv k.above/\x.own=(k.tot:Int)-((k.above.map m.tot).getD 0:Nat)/\jD w Q x.Om k.ms
def Uj (ob:Nat->Nat):Nat->List Ob->List Value
 | _,[]=>[]
 | i,o::r=>VI (o.cls:Nat)::.slice (some (VJ (ob i) 0)) o.slots.length o.slots.length::Uj ob (i+1) r
variable {m : Im}
theorem IsClass.cls {Q:Nat->Prop}{cl:List Cl}(h:Ri w m Q cl){s:ByteArray}{r:Int}(hr:IsClass cl s r):r=match m.cls s with
 | none=>-1
 | some c=>(c:Nat):=by
 have hname:∀i,i<m.kl.length->((∃x,cl[i]?=some x/\x.name=s)↔∃k,m.kl[i]?=some k/\k.name=s):=λi hi=>by
  obtain⟨k,hk⟩:∃k,m.kl[i]?=some k:=⟨_,Z8 hi⟩
  obtain⟨x,hx⟩:∃x,cl[i]?=some x:=⟨_,Z8 (by rw[h.len];exact hi)⟩
  have hn:=(h.rel i k x hk hx).1;constructor
  . rintro⟨y,hy,e⟩;rw[hx]at hy;injection hy with hy;exact⟨k,hk,by rw[<- hn,hy];exact e⟩
  . rintro⟨y,hy,e⟩;rw[hk]at hy;injection hy with hy;exact⟨x,hx,by rw[hn,hy];exact e⟩
 unfold Im.cls
 cases hc:m.kl.findIdx? (λk=>k.name==s) with
 | none=>
  rcases hr with⟨rfl,_⟩|⟨i,hi,rfl,hp,_⟩
  . rfl
  . rw[h.len]at hi;obtain⟨k,hk,e⟩:=(hname i hi).1 hp;have:=YI.1 hc k (ZK hk);rw[(SK _ _).2 e]at this;cases this
 | some c=>
  obtain⟨hlt,hpc,nQ⟩:=YZ.1 hc;have hpc:=(SK _ _).1 hpc;rcases hr with⟨rfl,hno⟩|⟨i,hi,rfl,hp,tS⟩
  . exact absurd ((hname c hlt).2 ⟨_,Z8 hlt,hpc⟩) (hno c (by rw[h.len];exact hlt))
  . rw[h.len]at hi;obtain⟨k,hk,e⟩:=(hname i hi).1 hp;rcases Xg i c with hh|hh|hh
    . have:=nQ i hh;rw[Z8 hi]at hk;injection hk with hk;rw[hk]at this;exact absurd ((SK _ _).2 e) (by simpa using this)
    . rw[hh]
    . exact absurd ((hname c hlt).2 ⟨_,Z8 hlt,hpc⟩) (tS c hh)
theorem zJ {Q:Nat->Prop}{cl:List Cl}(hm:U3 m)(h:Ri w m Q cl){r:Nat->Nat}(hr:∀(c:Nat) (k:Kl) (a:Nat),m.kl[c]?=some k->k.above=some a->r a<r c):
 ∀(f c:Nat),c<m.kl.length->r c<f->NS f cl (c:Nat)=some (m.tot c:Nat)
 | 0,_,_,hf=>VH
 | f+1,c,hc,hf=>by
  obtain⟨k,hk⟩:∃k,m.kl[c]?=some k:=⟨_,Z8 hc⟩
  obtain⟨x,hx⟩:∃x,cl[c]?=some x:=⟨_,Z8 agG⟩
  obtain⟨_,h2,h3,_⟩:=h.rel c k x hk hx;have ht:m.tot c=k.tot:=by unfold Im.tot;rw[hk];rfl
  unfold NS;rw[ZX VH,Zp,hx];simp only
  cases ha:k.above with
  | none=>
   rw[ha]at h2 h3;have h0:NS f cl x.above=some 0:=by rw[h2];cases f<;>rfl
   rw[h0,ht,h3];simp
  | some a=>
   rw[ha]at h2 h3
   have hc0:c≠0:=λe=>by
    obtain⟨ms,h0⟩:=hm.any;rw[e,h0]at hk;injection hk with hk;rw[<- hk]at ha;cases ha
   obtain⟨a',ha',hal,_⟩:=hm.up c k hk hc0;rw[ha]at ha';injection ha' with ha';subst ha';have ih:=zJ hm h hr f a hal (by have:=hr c k a hk ha;omega);rw[h2];simp only[abv];rw[ih,ht,h3];simp
def aan {Q:Nat->Prop}{cl:List Cl}(hm:U3 m)(h:Ri w m Q cl):∀x∈cl,0<=x.own/\x.own<=10/\x.above<100:=λx hx=>by
 refine aix ?_;intro c hc hl k hk;obtain⟨_,h2,h3,_⟩:=h.rel c k x hk hc;have ht:=hm.tot c k hk;have hf:=hm.few;rw[h2,h3];by_cases hc0:c=0
 . obtain⟨ms,h0⟩:=hm.any;rw[hc0,h0]at hk;injection hk with hk;rw[<- hk];simp[abv]
 . obtain⟨a,ha,hal,hle⟩:=hm.up c k hk hc0;rw[ha];simp[abv];omega
def uh {Q:Nat->Prop}{cl:List Cl}(hm:U3 m)(h:Ri w m Q cl):∀x∈cl,x.name.size<=100:=λx hx=>by
 refine aix ?_;intro c hc hl k hk;rw[(h.rel c k x hk hc).1];have:=hm.names c k hk;unfold className at this;simp only[ZB,Zq]at this;have h6:(bl k.name).length<=6:=VH;rw[VB]at h6;omega
def Qh:Option Nat->Int
 | none=>-1
 | some c=>(c:Nat)
def BK {Q:Nat->Prop}{cl:List Cl}{B b:Nat}{vc:Value}(hm:U3 m)(hr:RIm w B b vc cl)(h:Ri w m Q cl)(s:ByteArray):
 Calls prog 93 #[VG b,.string s] w λe w'=>e=.returned (VI (Qh (m.cls s)))/\w'=w:=
 (nZ cl s w B b vc (uh hm h) (by rw[h.len];exact hm.few) hr).mono λe w' ⟨r,h1,h2,h3⟩=>⟨by rw[h1,h2.cls h];cases m.cls s<;>rfl,h3⟩
def abe {Q:Nat->Prop}{cl:List Cl}{B b:Nat}{vc:Value}(hm:U3 m)(hr:RIm w B b vc cl)(h:Ri w m Q cl)(c:Nat)(hc:c<m.kl.length):
 Calls prog 51 #[VG b,VI (c:Nat)] w λe w'=>e=.returned (VI (m.tot c:Nat))/\w'=w:=by
 obtain⟨r,h1,h2⟩:=hm.rank;have hf:=hm.few;exact lu 13 cl c _ w B b vc (by rw[h.len];exact hm.few) VH (aan hm h) VH (zJ hm h h2 13 c hc (by have:=h1 c;omega)) hr
def A8 (ms:List Mt)(sel:ByteArray):Int:=match ms.findIdx? (λx=>x.sel==sel) with
 | none=>-1
 | some i=>(i:Nat)
def kJ {Q:Nat->Prop}{cl:List Cl}{B b:Nat}{vc:Value}(hm:U3 m)(hr:RIm w B b vc cl)(h:Ri w m Q cl){c:Nat}{k:Kl}(hk:m.kl[c]?=some k)(sel:ByteArray)(hl:k.ms.length<=1600000000):
 Calls prog 96 #[VG b,VI (c:Nat),.string sel] w λe w'=>e=.returned (VI (A8 k.ms sel))/\w'=w:=by
 have hc:=(Z7.1 hk).1
 obtain⟨x,hx⟩:∃x,cl[c]?=some x:=⟨_,Z8 agG⟩
 obtain⟨_,_,_,mp,RM,hmv,R2⟩:=h.rel c k x hk hx;obtain⟨p,g,cap,rfl,hat⟩:=Qa hr.own;obtain rfl:p=some (VJ g 0):=hat.head eP;have c0:=hr.head;have c0:=hat.c3 c x hx;rw[hmv]at c0;have hcl:(c:Int)<(cl.length:Int):=eP;have HM:Hid _:=R2;obtain⟨n,hn⟩:∃n,n=k.ms.length:=Vx;have HN:Hid _:=hn;rw[<- hn]at c0 hl;clear hr h hat R2 hmv hx hk hm hn;go_enter func96,ntmps96;go_wp2
 go_loopw [7] (λi wr=>∃j:Nat,i=VI j/\j<=n/\(∀i x,i<j->k.ms[i]?=some x->¬x.sel=sel)/\wr=w) (λi _=>n-(intOf i).toNat)
 case atStart=>exact⟨0,rfl,VH,λi x hi=>VH,rfl⟩
 case round=>
  obtain⟨j,rfl,hj,hno,rfl⟩:=hrel;have G':Hid _:=hno;clear hno;by_cases hjn:j<n
  . obtain⟨y,hy⟩:∃y,k.ms[j]?=some y:=⟨_,Z8 agI⟩
    obtain⟨mg,rfl,_,_,hget⟩:=HM.o aeV;obtain⟨d0,_⟩:=hget j y hy;have HY:Hid _:=hy;clear hget hy;by_cases he:y.sel=sel
    . go_wp2
      go_ret
      refine⟨?_,rfl⟩
      have hfi:k.ms.findIdx? (λx=>x.sel==sel)=some j:=by
       obtain⟨hjl,hjy⟩:=Z7.1 HY.o;refine YZ.2 ⟨hjl,?_,λi hi=>?_⟩
       . rw[hjy];exact(SK _ _).2 he
       . have:=G'.o i _ hi (Z8 VH);simpa using(Vf _ _).2 this
      unfold A8;rw[hfi];rfl
    . have te:=yt he;go_wp2
      go_roundw
      case rel=>
       refine⟨j+1,Uu,VH,λi x hi hx=>?_,sK⟩;by_cases e:i=j
       . subst e;have:=HY.o.symm.trans hx;injection this with this;rw[<- this];exact he
       . exact G'.o i x VH hx
      case measure=>simp[intOf]<;>omega
  . obtain rfl:j=n:=by omega
    go_wp2
    go_ret
    refine⟨?_,rfl⟩
    have hfi:k.ms.findIdx? (λx=>x.sel==sel)=none:=by
     refine YI.2 λx hx=>?_;obtain⟨i,hi⟩:=Yd hx;exact(Vf _ _).2 (G'.o i x (by have:=(Z7.1 hi).1;rw[HN.o];exact this) hi)
    unfold A8;rw[hfi];rfl
def BA {k:Kl}{sel:ByteArray}:(0<=A8 k.ms sel)↔(k.own sel).isSome=true:=by
 unfold A8 Kl.own
 cases hf:k.ms.findIdx? (λx=>x.sel==sel) with
 | none=>
  have:k.ms.find? (λx=>x.sel==sel)=none:=Xp.2 λx hx=>by
   have:=YI.1 hf x hx;simp[this]
  simp[this]
 | some i=>
  have:(k.ms.find? (λx=>x.sel==sel)).isSome=true:=by
   obtain⟨hl,hp,_⟩:=YZ.1 hf;rw[List.find?_isSome];exact⟨_,V9 hl,hp⟩
  simp[this]
def agk {Q:Nat->Prop}{cl:List Cl}{B b:Nat}{vc:Value}(hm:U3 m)(hr:RIm w B b vc cl)(h:Ri w m Q cl)(c:Option Nat)(hc:∀x,c=some x->x<m.kl.length)(sel:ByteArray)(hl:∀(c:Nat) (k:Kl),m.kl[c]?=some k->k.ms.length<=1600000000):
 Calls prog 95 #[VG b,VI (Qh c),.string sel] w λe w'=>e=.returned (VI (Qh ((m.find sel c).map (·.1))))/\w'=w:=by
 obtain⟨rk,hr1,hr2⟩:=hm.rank
 have HI:Hid (U3 m/\RIm w B b vc cl/\Ri w m Q cl/\(∀(c:Nat) (k:Kl),m.kl[c]?=some k->k.ms.length<=1600000000)):=⟨hm,hr,h,hl⟩
 obtain⟨p,g,cap,I6,hat⟩:=Qa hr.own;have c0:=hr.head;rw[I6]at c0;have hp:=hat.head (by rw[h.len];have:=hm.two;omega);subst hp;have vR:Hid _:=hat;have HL:=UQ h.len;have HC:Hid _:=hc;clear hr h hat hm hl I6 hc;go_enter func95,ntmps95;go_wp2
 go_loopg [1] (m.kl.length+1) (λgk cv wr=>∃d:Option Nat,cv=VI (Qh d)/\(∀x,d=some x->x<m.kl.length)/\m.up sel gk d=m.find sel c/\(∀x,d=some x->rk x<gk)/\wr=w)
 case atStart=>exact⟨c,rfl,HC.o,rfl,λx _=>agw,rfl⟩
 case round=>
  obtain⟨d,rfl,hd,hup,Pc,rfl⟩:=hrel
  cases d with
  | none=>
   have hfn:m.find sel c=none:=by rw[<- hup];cases gk<;>rfl
   have xm:Hid _:=hfn;simp only[Qh];clear hup Pc hd hfn;go_wp2
   go_ret
   exact⟨by rw[xm.o];rfl,rfl⟩
  | some x=>
   have hx:=hd x rfl
   obtain⟨k,hk⟩:∃k,m.kl[x]?=some k:=⟨_,Z8 hx⟩
   obtain⟨y,hy⟩:∃y,cl[x]?=some y:=⟨_,Z8 (by rw[HL.o];exact hx)⟩
   obtain⟨gj,rfl⟩:∃gj,gk=gj+1:=⟨gk-1,by have:=Pc x rfl;omega⟩
   have hown:=kJ HI.o.1 HI.o.2.1 HI.o.2.2.1 hk sel (HI.o.2.2.2 x k hk);have d1:=vR.o.c1 x y hy;have hab:=(HI.o.2.2.1.rel x k y hk hy).2.1;rw[hab]at d1
   have hu:m.up sel (gj+1) (some x)=match k.own sel with
    | some ws=>some (x,ws)
    | none=>m.up sel gj k.above:=by
    show (match m.own x sel with
     | some ws=>some (x,ws)
     | none=>m.up sel gj (m.kl[x]?.bind (·.above)))=_
    unfold Im.own;rw[hk];rfl
   rw[hu]at hup;have hxi:(x:Int)<(cl.length:Int):=by rw[HL.o];omega
   have HK:Hid (m.kl[x]?=some k/\rk x<gj+1):=⟨hk,Pc x rfl⟩
   have ho:=BA (k:=k) (sel:=sel);simp only[Qh];clear hd Pc hk hy hab hu
   cases hws:k.own sel with
   | some ws=>
    rw[hws]at ho hup;have ho0:=ho.2 rfl;have xm:Hid (m.find sel c=some (x,ws)):=hup.symm;clear ho hup hws;go_wp2_with fail;refine hown.mono ?_;rintro e w1 ⟨rfl,rfl⟩;go_wp2
    go_ret
    exact⟨by rw[xm.o];rfl,rfl⟩
   | none=>
    rw[hws]at ho hup;have ho0:¬0<=A8 k.ms sel:=λe=>alx;have HU:Hid _:=hup;clear ho hup hws;go_wp2_with fail;refine hown.mono ?_;rintro e w1 ⟨rfl,rfl⟩;go_wp2
    go_roundg gj
    case measure=>omega
    case rel=>
     refine⟨k.above,?_,λa ha=>?_,HU.o,λa ha=>?_,?_⟩
     . cases k.above<;>rfl
     . by_cases h0:x=0
       . obtain⟨ms,hm0⟩:=HI.o.1.any;have:=HK.o.1;rw[h0,hm0]at this;injection this with this;rw[<- this]at ha;cases ha
       . obtain⟨a',ha',hal,_⟩:=HI.o.1.up x k HK.o.1 h0;rw[ha]at ha';exact acv
     . have:=hr2 x k a HK.o.1 ha;have:=HK.o.2;omega
     . first|rfl|trivial
def eY {Q:Nat->Prop}{cl:List Cl}{B b:Nat}{vc:Value}(hm:U3 m)(hr:RIm w B b vc cl)(h:Ri w m Q cl)(s:ByteArray):
 Calls prog 50 #[VG b,.string s] w λe w'=>e=.returned (VI (Qh (m.made s)))/\w'=w:=by
 have hc:=BK hm hr h s
 have HE:Hid (Qh (m.made s)=if Qh (m.cls s)=1 then -1 else Qh (m.cls s)):=by
  have hx:Qh (m.made s)=if Qh (m.cls s)=1 then -1 else Qh (m.cls s):=by
   unfold Im.made
   cases m.cls s with
   | none=>rfl
   | some c=>
    by_cases e:c=1
    . subst e;rfl
    . rw[ZX (by simp only[Qh];omega)];split
      . rename_i h1;injection h1 with h1;exact absurd h1 e
      . rfl
  exact hx
 obtain⟨n,hn⟩:∃n,n=Qh (m.cls s):=Vx;rw[<- hn]at hc HE;clear hr h hm hn;by_cases h1:n=1
 . subst h1;go_enter func50,ntmps50;go_wp2_with fail;refine hc.mono ?_;rintro e w1 ⟨rfl,rfl⟩;go_wp2
   go_ret
   exact⟨by rw[HE.o];rfl,rfl⟩
 . have HN:=UQ h1;go_enter func50,ntmps50;go_wp2_with fail;refine hc.mono ?_;rintro e w1 ⟨rfl,rfl⟩;go_wp2
   go_ret
   exact⟨by rw[HE.o,ZX HN.o];rfl,rfl⟩
def acy {b:Nat}{p:Option Addr}{n cap:Nat}(hn:n<=40)(h1:w.cell? (VJ b 1)=some (.slice p n cap))(hl:b<w.heap.size)(o:Int):
 Calls prog 53 #[VG b,VI o] w λe w'=>e=.returned (.bool (decide (0<=o)&&decide (o<(n:Int))))/\w'=w:=by
 by_cases h0:0<=o
 . go_enter func53,ntmps53;go_wp2
   go_ret
   exact⟨by simp[h0],rfl⟩
 . go_enter func53,ntmps53;go_wp2
   go_ret
   exact⟨by rw[XQ (by omega:¬0<=o)];rfl,rfl⟩
end Go.Proofs.Rz
namespace Go.Proofs.Rz
open ChangeShapes WideShapes ChangeAt RowKit Kn Tryz
def acT (w:World)(Q:Nat->Prop)(x:Mt)(a b:Value):Prop:=a=.string x.sel/\∃q h c,b=.slice q x.ws.length c/\pG w q h x.ws/\(1<=x.ws.length->Q h)
def Qu (w:World)(Q:Nat->Prop):List Mt->List Value->Prop
 | [],xs=>xs=[]
 | x::r,xs=>∃a b t,xs=a::b::t/\acT w Q x a b/\Qu w Q r t
variable {w : World}
theorem Qu.snoc {Q:Nat->Prop}{x:Mt}{a b:Value}(hx:acT w Q x a b):∀(l:List Mt) (xs:List Value),Qu w Q l xs->Qu w Q (l++[x]) (xs++[a,b])
 | [],xs,h=>by
  have h:xs=[]:=h;subst h;exact⟨a,b,[],rfl,hx,rfl⟩
 | y::r,xs,h=>by
  obtain⟨c,d,t,rfl,h1,h2⟩:=h;exact⟨c,d,t++[a,b],rfl,h1,Qu.snoc hx r t h2⟩
theorem Qu.get {Q:Nat->Prop}{x:Mt}:∀(l:List Mt) (xs:List Value) (i:Nat),Qu w Q l xs->l[i]?=some x->∃a b,xs[i*2]?=some a/\xs[i*2+1]?=some b/\acT w Q x a b
 | [],xs,i,h,hx=>by simp at hx
 | y::r,xs,0,h,hx=>by
  obtain⟨c,d,t,rfl,h1,h2⟩:=h;simp only[List.getElem?_cons_zero,Y2]at hx;subst hx;exact⟨c,d,rfl,rfl,h1⟩
 | y::r,xs,i+1,h,hx=>by
  obtain⟨c,d,t,rfl,h1,h2⟩:=h;rw[Xn]at hx;obtain⟨a,b,e1,e2,e3⟩:=Qu.get r t i h2 hx;refine⟨a,b,?_,?_,e3⟩
  . rw[show (i+1)*2=i*2+1+1 by omega];exact e1
  . rw[show (i+1)*2+1=i*2+1+1+1 by omega];exact e2
def Qu.at {w W:World}{Q Q':Nat->Prop}{l:List Mt}{xs:List Value}{B:Nat}{T:TypeId}{v:Value}(h:Qu w Q l xs)(ho:W.ownsRow B T 2 v l.length xs)(hb:Below w.heap.size w W)(hv:∀k,v.ownBlock=some k->Q' k)(hQ:∀k,Q k->Q' k):jD W Q' v l:=by
 obtain⟨p,cap,rfl⟩:=Rn ho;refine⟨p,cap,rfl,λh1=>?_⟩
 obtain⟨g,cap',cur,e,hB,hg,_⟩:=(ho.2.resolve_left (λe=>by
  obtain⟨e,_⟩:=e;injection e with _ e
  omega))
 injection e with e e' e2;subst e;have hlt:=ho.lt g rfl;refine⟨g,rfl,hv g rfl,hlt.2,λi x hx=>?_⟩;obtain⟨a,b,h1,h3,rfl,q,hh,c,rfl,h4,h5⟩:=h.get l xs i hx;have hi:=(Z7.1 hx).1;exact⟨(ho.cellAt (i*2) VH).trans h1,q,hh,c,(ho.cellAt (i*2+1) VH).trans h3,h4.below UM hb,λe=>hQ _ (h5 e)⟩
variable {m : Im}
def abb {Q:Nat->Prop}{cl:List Cl}{B b:Nat}{vc:Value}(hm:U3 m)(hr:RIm w B b vc cl)(h:Ri w m Q cl){c:Nat}{k:Kl}(hk:m.kl[c]?=some k)(hl:k.ms.length<=1600000000)(x:Mt)(p:Option Addr)(cap:Nat)(hx:acT w Q x (.string x.sel) (.slice p x.ws.length cap)):
 Calls prog 101 #[VG b,VI (c:Nat),.agg #[.string x.sel,.slice p x.ws.length cap]] w λe w'=>e=.returned (.tuple #[])/\∃W v g Zs xs,vc=.slice (some (VJ g 0)) cl.length Zs/\w'=W.setCell (VJ g (c*4+3)) v/\Below w.heap.size w W/\W.ownsRow w.heap.size 180 2 v (k.put x).ms.length xs/\Qu w Q (k.put x).ms xs:=by
 have hc:=(Z7.1 hk).1
 obtain⟨y,hy⟩:∃y,cl[c]?=some y:=⟨_,Z8 agG⟩
 obtain⟨_,_,_,mp,RM,hmv,R2⟩:=h.rel c k y hk hy;obtain⟨q,g,Zs,rfl,hat⟩:=Qa hr.own;obtain rfl:q=some (VJ g 0):=hat.head eP;refine ajo ?_;intro hg c0 c3 f3 hlt hcl HM;obtain⟨n,hn⟩:∃n,n=k.ms.length:=Vx;have HN:Hid _:=hn;have HX:=UQ hx;rw[<- hn]at c3 hl;obtain⟨i0,hi0,hz0,hz1,hz2⟩:=YQ FP;clear hr h hat R2 hmv hy hk hm hn hx;go_enter func101,ntmps101;go_wp2_with fail
 go_loopw [6,7] (λl i wr=>∃(j:Nat) (xs:List Value),i=VI j/\j<=n/\Below (w.heap.size+1) (w.alloc (.cells #[.string x.sel,.slice p x.ws.length cap] 180)) wr/\wr.ownsRow (w.heap.size+1) 180 2 l ((k.ms.take j).filter (λy=>!(y.sel==x.sel))).length xs/\Qu w Q ((k.ms.take j).filter (λy=>!(y.sel==x.sel))) xs) (λ_ i _=>n-(intOf i).toNat)
 case atStart=>exact⟨0,[],rfl,VH,ZR _ _,YW _ _ _ _,rfl⟩
 case round=>
  obtain⟨j,xs,rfl,hj,hbl,hown,hrow⟩:=hrel
  have hcell:∀bk o,bk<w.heap.size->wr.cell? (VJ bk o)=w.cell? (VJ bk o):=λbk o hb=>by
   rw[hbl.cell (p:=(VJ bk o)) (by show bk<w.heap.size+1;omega)];exact Z9 (a:=(VJ bk o)) (ZV w _ bk hb)
  have e0:=(hcell b 0 hlt).trans c0;have e3:=(hcell g _ hg).trans c3
  have g3:wr.frozen? (VJ g (c*4+3))=false:=by
   rw[hbl.frozen (p:=(VJ g (c*4+3))) (by show g<w.heap.size+1;omega)];exact(Zr (a:=(VJ g (c*4+3))) (ZV w _ g hg)).trans f3
  have b0:wr.cell? (VJ w.heap.size 0)=some (.string x.sel):=by
   rw[hbl.cell (p:=(VJ w.heap.size 0)) (by show w.heap.size<w.heap.size+1;omega)];simp[Addr.add]
  have b1:wr.cell? (VJ w.heap.size 1)=some (.slice p x.ws.length cap):=by
   rw[hbl.cell (p:=(VJ w.heap.size 1)) (by show w.heap.size<w.heap.size+1;omega)];simp[Addr.add]
  have hws:=hbl.size;simp only[ZJ]at hws
  have HI:Hid (Below (w.heap.size+1) (w.alloc (.cells #[.string x.sel,.slice p x.ws.length cap] 180)) wr/\Qu w Q ((k.ms.take j).filter (λy=>!(y.sel==x.sel))) xs/\∀bk o,bk<w.heap.size->wr.cell? (VJ bk o)=w.cell? (VJ bk o)):=⟨hbl,hrow,hcell⟩
  have hfl:((k.ms.take j).filter (λy=>!(y.sel==x.sel))).length<=1600000000:=ZC (XI _ _) (by simp only[Za];omega);obtain⟨nf,Mw⟩:∃nf,nf=((k.ms.take j).filter (λy=>!(y.sel==x.sel))).length:=Vx;have Db:Hid _:=Mw;rw[<- Mw]at hown hfl;clear hbl hrow hcell Mw c0 c3 f3;by_cases hjn:j<n
  . obtain⟨y,hy⟩:∃y,k.ms[j]?=some y:=⟨_,Z8 agI⟩
    obtain⟨mg,rfl,_,r9,hget⟩:=HM.o aeV;refine ajM ?_;intro d0 yq yh yc d1 wD wA HY htk;clear hget hy wD wA;by_cases he:y.sel=x.sel
    . have Wg:Hid ((k.ms.take (j+1)).filter (λy=>!(y.sel==x.sel))=(k.ms.take j).filter (λy=>!(y.sel==x.sel))):=by
       have hx1:(k.ms.take (j+1)).filter (λy=>!(y.sel==x.sel))=(k.ms.take j).filter (λy=>!(y.sel==x.sel)):=by
        rw[htk,Yi];simp[(SK y.sel x.sel).2 he]
       exact hx1
      have HOW:=UQ hown;clear hown htk;go_wp2
      go_quiet (fail)
      go_wp2
      go_roundw
      case rel=>exact⟨j+1,xs,Uu,VH,⟨HI.o.1.os,HI.o.1.tape,HI.o.1.output,HI.o.1.size,HI.o.1.block⟩,by rw[Wg.o,<- Db.o];exact HOW.o,by rw[Wg.o];exact HI.o.2.1⟩
      case measure=>simp[intOf];omega
    . have te:=yt he;go_wp2
      go_quiet (fail)
      have hown1:((wr.drewN nq).alloc (.cells #[.string y.sel,.slice yq y.ws.length yc] 180)).ownsRow (w.heap.size+1) 180 2 u6 nf xs:=WO (show (wr.drewN nq).ownsRow (w.heap.size+1) 180 2 u6 nf xs from hown) _;have hnews:=Us (wr.drewN nq) [.string y.sel,.slice yq y.ws.length yc] 180
      have HOW:Hid (wr.ownsRow (w.heap.size+1) 180 2 u6 nf xs/\k.ms.take (j+1)=k.ms.take j++[y]):=⟨hown,htk⟩
      clear hown htk
      go_wp2_with first
       | (at_builtin;refine wpList_append_own_at _ rfl _ _ 72 rfl (w.heap.size+1) 180 i0 (.agg #[.string ⟨#[]⟩,.slice none 0 0]) 2 40 underlying72 hi0 hz0 hz1 hz2 rfl Vz _ _ _ rfl hown1 (VJ wr.heap.size 0) 1 1 [.string y.sel,.slice yq y.ws.length yc] rfl rfl hnews vH SE VH aia ?_)
       | fail
      intro v2 W2 hown2 hg2 _ _
      have Uv:Hid (Below (w.heap.size+1) (w.alloc (.cells #[.string x.sel,.slice p x.ws.length cap] 180)) W2):=by
       have hx1:=Tc (wr:=wr.drewN nq) ⟨HI.o.1.os,HI.o.1.tape,HI.o.1.output,HI.o.1.size,HI.o.1.block⟩ Ey HOW.o.1 hg2;exact hx1
      have D1:=UQ hown2
      have Wg:Hid ((k.ms.take (j+1)).filter (λy=>!(y.sel==x.sel))=(k.ms.take j).filter (λy=>!(y.sel==x.sel))++[y]):=by
       have hx1:(k.ms.take (j+1)).filter (λy=>!(y.sel==x.sel))=(k.ms.take j).filter (λy=>!(y.sel==x.sel))++[y]:=by
        rw[HOW.o.2,Yi];simp[(Vf y.sel x.sel).2 he]
       exact hx1
      clear hown2 hg2 hnews hown1 e0 e3 g3 b0 b1 d0 d1;go_wp2
      go_roundw
      case rel=>exact⟨j+1,_,Uu,VH,Uv.o,aie,ah7⟩
      case measure=>simp[intOf];omega
  . obtain rfl:j=n:=by omega
    have hown1:(wr.alloc (.cells #[.string x.sel,.slice p x.ws.length cap] 180)).ownsRow (w.heap.size+1) 180 2 u6 nf xs:=WO hown _;have hnews:=Us wr [.string x.sel,.slice p x.ws.length cap] 180;have HOW:=UQ hown;clear hown
    go_wp2_with first
     | (at_builtin;refine wpList_append_own_at _ rfl _ _ 72 rfl (w.heap.size+1) 180 i0 (.agg #[.string ⟨#[]⟩,.slice none 0 0]) 2 40 underlying72 hi0 hz0 hz1 hz2 rfl Vz _ _ _ rfl hown1 (VJ wr.heap.size 0) 1 1 [.string x.sel,.slice p x.ws.length cap] rfl rfl hnews vH SE VH aia ?_)
     | fail
    intro v2 W2 hown2 hg2 _ _
    have Uv:Hid (Below (w.heap.size+1) (w.alloc (.cells #[.string x.sel,.slice p x.ws.length cap] 180)) W2):=by
     have hx1:=Tc (wr:=wr) HI.o.1 Ey HOW.o hg2;exact hx1
    have D1:=UQ hown2
    have O':∀bk,bk<w.heap.size->W2.heap[bk]?=wr.heap[bk]?:=λbk hb=>by
     rw[Uv.o.block bk VH,HI.o.1.block bk VH]
    have e02:=(Z9 (a:=(VJ b 0)) (O' b hlt)).trans e0;have e02:=(Z9 (a:=(VJ g (c*4+3))) (O' g hg)).trans e3;have g32:=(Zr (a:=(VJ g (c*4+3))) (O' g hg)).trans g3
    have Wg:Hid ((k.put x).ms=(k.ms.take j).filter (λy=>!(y.sel==x.sel))++[x]):=by
     have hx1:(k.put x).ms=(k.ms.take j).filter (λy=>!(y.sel==x.sel))++[x]:=by
      rw[HN.o,Yv];rfl
     exact hx1
    obtain⟨q2,c0,rfl⟩:=Rn hown2;clear hown2 hg2 hnews hown1 e0 e3 g3 b0 b1 O';go_wp2
    go_end0
    refine⟨rfl,W2,_,g,Zs,xs++[.string x.sel,.slice p x.ws.length cap],rfl,rfl,⟨Uv.o.os,Uv.o.tape,Uv.o.output,?_,λbk hb=>?_⟩,?_,?_⟩
    . have:=Uv.o.size;simp only[ZJ]at this;omega
    . rw[Uv.o.block bk VH];exact ZV w _ bk hb
    . rw[Wg.o,Zw,<- Db.o];obtain⟨h1,h2⟩:=D1.o;refine⟨h1,h2.imp id ?_⟩;rintro⟨g',cp,cur,h1,h2,h2⟩;exact⟨g',cp,cur,h1,VH,h2⟩
    . rw[Wg.o];exact Qu.snoc HX.o _ _ HI.o.2.1
def l9 {Q:Nat->Prop}{cl:List Cl}{B b:Nat}{vc:Value}(hm:U3 m)(hr:RIm w B b vc cl)(h:Ri w m Q cl){c:Nat}{k:Kl}(hk:m.kl[c]?=some k)(hl:k.ms.length<=1600000000)(cls sel:ByteArray)(hc0:m.cls cls=some c)(ho:0<=A8 k.ms sel):
 Calls prog 60 #[VG b,.string cls,.string sel] w λe w'=>e=.returned (VI 0)/\∃W v g Zs xs,vc=.slice (some (VJ g 0)) cl.length Zs/\w'=W.setCell (VJ g (c*4+3)) v/\Below w.heap.size w W/\W.ownsRow w.heap.size 180 2 v (k.drop sel).ms.length xs/\Qu w Q (k.drop sel).ms xs:=by
 have hcc:=BK hm hr h cls;rw[hc0]at hcc;simp only[Qh]at hcc;have hoo:=kJ hm hr h hk sel hl;have hc:=(Z7.1 hk).1
 obtain⟨y,hy⟩:∃y,cl[c]?=some y:=⟨_,Z8 agG⟩
 obtain⟨_,_,_,mp,RM,hmv,R2⟩:=h.rel c k y hk hy;obtain⟨q,g,Zs,rfl,hat⟩:=Qa hr.own;obtain rfl:q=some (VJ g 0):=hat.head eP;refine ajo ?_;intro hg c0 c3 f3 hlt hcl HM;obtain⟨n,hn⟩:∃n,n=k.ms.length:=Vx;have HN:Hid _:=hn;rw[<- hn]at c3 hl;obtain⟨i0,hi0,hz0,hz1,hz2⟩:=YQ FP;clear hr h hat R2 hmv hy hk hm hn hc0;go_enter func60,ntmps60;go_wp2_with fail;refine hcc.mono ?_;rintro e w1 ⟨rfl,hw1⟩;replace hw1:=hw1.symm;subst hw1;go_wp2_with fail;refine hoo.mono ?_;rintro e w1 ⟨rfl,hw1⟩;replace hw1:=hw1.symm;subst hw1;go_wp2_with fail
 go_loopw [8,9] (λl i wr=>∃(j:Nat) (xs:List Value),i=VI j/\j<=n/\Below w.heap.size w wr/\wr.ownsRow w.heap.size 180 2 l ((k.ms.take j).filter (λy=>!(y.sel==sel))).length xs/\Qu w Q ((k.ms.take j).filter (λy=>!(y.sel==sel))) xs) (λ_ i _=>n-(intOf i).toNat)
 case atStart=>exact⟨0,[],rfl,VH,ZR _ _,YW _ _ _ _,rfl⟩
 case round=>
  obtain⟨j,xs,rfl,hj,hbl,hown,hrow⟩:=hrel;have hcell:∀bk o,bk<w.heap.size->wr.cell? (VJ bk o)=w.cell? (VJ bk o):=λbk o hb=>hbl.cell (p:=(VJ bk o)) hb;have e0:=(hcell b 0 hlt).trans c0;have e3:=(hcell g _ hg).trans c3;have g3:=(hbl.frozen (p:=(VJ g (c*4+3))) hg).trans f3;have hws:=hbl.size
  have HI:Hid (Below w.heap.size w wr/\Qu w Q ((k.ms.take j).filter (λy=>!(y.sel==sel))) xs/\∀bk o,bk<w.heap.size->wr.cell? (VJ bk o)=w.cell? (VJ bk o)):=⟨hbl,hrow,hcell⟩
  have hfl:((k.ms.take j).filter (λy=>!(y.sel==sel))).length<=1600000000:=ZC (XI _ _) (by simp only[Za];omega);obtain⟨nf,Mw⟩:∃nf,nf=((k.ms.take j).filter (λy=>!(y.sel==sel))).length:=Vx;have Db:Hid _:=Mw;rw[<- Mw]at hown hfl;clear hbl hrow hcell Mw c0 c3 f3;by_cases hjn:j<n
  . obtain⟨y,hy⟩:∃y,k.ms[j]?=some y:=⟨_,Z8 agI⟩
    obtain⟨mg,rfl,_,r9,hget⟩:=HM.o aeV;refine ajM ?_;intro d0 yq yh yc d1 wD wA HY htk;clear hget hy wD wA;by_cases he:y.sel=sel
    . have Wg:Hid ((k.ms.take (j+1)).filter (λy=>!(y.sel==sel))=(k.ms.take j).filter (λy=>!(y.sel==sel))):=by
       have hx1:(k.ms.take (j+1)).filter (λy=>!(y.sel==sel))=(k.ms.take j).filter (λy=>!(y.sel==sel)):=by
        rw[htk,Yi];simp[(SK y.sel sel).2 he]
       exact hx1
      have HOW:=UQ hown;clear hown htk;go_wp2
      go_roundw
      case rel=>exact⟨j+1,xs,Uu,VH,HI.o.1,by rw[Wg.o,<- Db.o];exact HOW.o,by rw[Wg.o];exact HI.o.2.1⟩
      case measure=>simp[intOf];omega
    . have te:=yt he;have hown1:(wr.alloc (.cells #[.string y.sel,.slice yq y.ws.length yc] 180)).ownsRow w.heap.size 180 2 u8 nf xs:=WO hown _;have hnews:=Us wr [.string y.sel,.slice yq y.ws.length yc] 180
      have HOW:Hid (wr.ownsRow w.heap.size 180 2 u8 nf xs/\k.ms.take (j+1)=k.ms.take j++[y]):=⟨hown,htk⟩
      clear hown htk
      go_wp2_with first
       | (at_builtin;refine wpList_append_own_at _ rfl _ _ 72 rfl w.heap.size 180 i0 (.agg #[.string ⟨#[]⟩,.slice none 0 0]) 2 40 underlying72 hi0 hz0 hz1 hz2 rfl Vz _ _ _ rfl hown1 (VJ wr.heap.size 0) 1 1 [.string y.sel,.slice yq y.ws.length yc] rfl rfl hnews vH SE VH Ey ?_)
       | fail
      intro v2 W2 hown2 hg2 _ _
      have Uv:Hid (Below w.heap.size w W2):=by
       have hx1:=Tc (wr:=wr) HI.o.1 UM HOW.o.1 hg2;exact hx1
      have D1:=UQ hown2
      have Wg:Hid ((k.ms.take (j+1)).filter (λy=>!(y.sel==sel))=(k.ms.take j).filter (λy=>!(y.sel==sel))++[y]):=by
       have hx1:(k.ms.take (j+1)).filter (λy=>!(y.sel==sel))=(k.ms.take j).filter (λy=>!(y.sel==sel))++[y]:=by
        rw[HOW.o.2,Yi];simp[(Vf y.sel sel).2 he]
       exact hx1
      clear hown2 hg2 hnews hown1 e0 e3 g3 d0 d1;go_wp2
      go_roundw
      case rel=>exact⟨j+1,_,Uu,VH,Uv.o,aie,ah7⟩
      case measure=>simp[intOf];omega
  . obtain rfl:j=n:=by omega
    have Wg:Hid ((k.drop sel).ms=(k.ms.take j).filter (λy=>!(y.sel==sel))):=by
     have hx1:(k.drop sel).ms=(k.ms.take j).filter (λy=>!(y.sel==sel)):=by
      rw[HN.o,Yv];rfl
     exact hx1
    have D1:=UQ hown;obtain⟨q2,c0,rfl⟩:=Rn hown;clear hown;go_wp2
    go_ret
    refine⟨rfl,wr,_,g,Zs,xs,rfl,rfl,HI.o.1,?_,?_⟩
    . rw[Wg.o,<- Db.o];exact D1.o
    . rw[Wg.o];exact HI.o.2.1
end Go.Proofs.Rz
namespace Kn
open Go
theorem qF:∀(N:Nat) (l:List Nat),l.Nodup->(∀x∈l,x<N)->l.length<=N
 | 0,l,_,h=>by
  cases l with
  | nil=>simp
  | cons a r=>exact absurd (h a Po) VH
 | N+1,l,hn,h=>by
  have ih:=qF N (l.erase N) (hn.erase N) (λx hx=>by
   have hx':=(List.Nodup.mem_erase_iff hn).1 hx;have:=h x hx'.2
   omega)
  have hl:l.length<=(l.erase N).length+1:=by
   by_cases hm:N∈l
   . rw[List.length_erase_of_mem hm];omega
   . rw[List.erase_of_not_mem hm];omega
  omega
def OY:List UInt8->Nat
 | []=>0
 | c::r=>(c.toNat-96)+27*OY r
theorem sW:∀(l:List UInt8),(∀c∈l,97<=c.toNat/\c.toNat<=122)->OY l<27 ^ l.length
 | [],_=>by simp[OY]
 | c::r,h=>by
  have ih:=sW r (λd hd=>h d (Zo _ hd));have hc:=h c Po;simp only[OY,ZI,Nat.pow_succ];omega
theorem zM:∀(l r:List UInt8),(∀c∈l,97<=c.toNat/\c.toNat<=122)->(∀c∈r,97<=c.toNat/\c.toNat<=122)->OY l=OY r->l=r
 | [],[],_,_,_=>rfl
 | [],d::r,_,hr,e=>by
  have:=hr d Po;simp only[OY]at e;omega
 | c::l,[],hl,_,e=>by
  have:=hl c Po;simp only[OY]at e;omega
 | c::l,d::r,hl,hr,e=>by
  have h1:=hl c Po;have h2:=hr d Po;simp only[OY]at e;have e1:c.toNat=d.toNat:=VH;have e2:OY l=OY r:=VH;rw[Zj.1 e1,zM l r (λx hx=>hl x (Zo _ hx)) (λx hx=>hr x (Zo _ hx)) e2]
def DY (l:List UInt8):Nat:=OY (l.take (l.length-2))*4+U6 l
def Jm {l:List UInt8}(h:selector l=true):∃a d,l=a++[47,d]/\a.length<=6/\(∀c∈a,97<=c.toNat/\c.toNat<=122)/\48<=d.toNat/\d.toNat<=51/\DY l=OY a*4+(d.toNat-48):=by
 obtain⟨a,d,rfl,h1,h1,ha,hd⟩:=Tf h;refine⟨a,d,rfl,h1,λc hc=>?_,?_,?_,?_⟩
 . have:=ha c hc;unfold isSmall at this;simpa using this
 . unfold OC at hd;simp at hd;omega
 . unfold OC at hd;simp at hd;omega
 . unfold DY U6;simp
def aS {l:List UInt8}(h:selector l=true):DY l<1549681956:=by
 obtain⟨a,d,_,h6,ha,h1,h1,e⟩:=Jm h;have:=sW a ha;have hp:27 ^ a.length<=27 ^ 6:=Yb VH h6;rw[e];omega
def kQ {l r:List UInt8}(hl:selector l=true)(hr:selector r=true)(e:DY l=DY r):l=r:=by
 obtain⟨a,d,rfl,_,ha,h1,h1,e1⟩:=Jm hl;obtain⟨a',d',rfl,_,ha',h1',h2',e2⟩:=Jm hr;rw[e1,e2]at e;have e1:d.toNat=d'.toNat:=VH;have e2:OY a=OY a':=VH;rw[zM a a' ha ha' e2,Zj.1 e1]
theorem yT {α β:Type}{f:α->β}:∀ {l:List α},l.Nodup->(∀x∈l,∀y∈l,f x=f y->x=y)->(l.map f).Nodup
 | [],_,_=>List.nodup_nil
 | a::l,hn,hf=>by
  rw[YS]at hn;rw[Zc,YS];refine⟨λhm=>?_,yT hn.2 (λx hx y hy=>hf x (Zo _ hx) y (Zo _ hy))⟩;obtain⟨b,hb,e⟩:=Zy.1 hm;have:=hf b (Zo _ hb) a Po e;rw[this]at hb;exact hn.1 hb
def alF {a b:ByteArray}(h:bl a=bl b):a=b:=by
 cases a;cases b;simp[bl]at h;congr 1
def abW {l:List ByteArray}(hn:l.Nodup)(hs:∀s∈l,selector (bl s)=true):l.length<=1549681956:=by
 have h1:=yT hn (λx hx y hy e=>alF (kQ (hs x hx) (hs y hy) e))
 have:=qF 1549681956 _ h1 (λn hm=>by
  obtain⟨s,hs',rfl⟩:=Zy.1 hm
  exact aS (hs s hs'))
 simpa using this
end Kn
namespace Go.Proofs.Rz
open ChangeShapes WideShapes ChangeAt RowKit Kn Tryz
inductive Lb where
 | no
 | head
 | cls
 | obs
 | slot (i:Nat)
 | still
structure U0 where
 b:Nat
 vc:Value
 vo:Value
 cl:List Cl
 ob:Nat->Nat
 lab:Nat->Lb
 fu:Nat
 en:Int
def U0.Q (K:U0)(k:Nat):Prop:=K.lab k=.still
def U0.Mu (K:U0)(k:Nat):Prop:=K.lab k≠.no/\K.lab k≠.still
structure RK (w:World)(m:Im)(K:U0):Prop where
 ok:U3 m
 hd:w.heap[K.b]?=some (.cells #[K.vc,K.vo,VI (Go.RowKit.wrap64 (m.looks:Nat)),VI (K.fu:Nat),VI K.en] 78)
 own:w.ownsRow 0 74 4 K.vc K.cl.length (Ui K.cl)
 rel:Ri w m K.Q K.cl
 obs:w.ownsRow 0 122 2 K.vo m.obs.length (Uj K.ob 0 m.obs)
 slot:∀i o,m.obs[i]?=some o->w.heap[K.ob i]?=some (.cells (vcs o.slots).toArray 79)/\K.lab (K.ob i)=.slot i
 lh:K.lab K.b=.head
 lc:∀k,K.vc.ownBlock=some k->K.lab k=.cls
 lo:∀k,K.vo.ownBlock=some k->K.lab k=.obs
 lt:∀k,K.lab k≠.no->k<w.heap.size
variable {w : World}
variable {m : Im}
def RK.Vb {K:U0}(h:RK w m K):UL w K.b:=⟨_,_,h.hd⟩
def RK.c0 {K:U0}(h:RK w m K):w.cell? (VJ K.b 0)=some K.vc:=by simp only[World.cell?,h.hd];rfl
def RK.c1 {K:U0}(h:RK w m K):w.cell? (VJ K.b 1)=some K.vo:=by simp only[World.cell?,h.hd];rfl
def RK.c2 {K:U0}(h:RK w m K):w.cell? (VJ K.b 2)=some (VI (Go.RowKit.wrap64 (m.looks:Nat))):=by simp only[World.cell?,h.hd];rfl
def RK.c3 {K:U0}(h:RK w m K):w.cell? (VJ K.b 3)=some (VI (K.fu:Nat)):=by simp only[World.cell?,h.hd];rfl
def RK.c4 {K:U0}(h:RK w m K):w.cell? (VJ K.b 4)=some (VI K.en):=by simp only[World.cell?,h.hd];rfl
def RK.im {K:U0}(h:RK w m K):RIm w 0 K.b K.vc K.cl:=
 ⟨Yy _,h.Vb.lt,h.c0,h.Vb.free 0,h.own,λe=>by have:=h.lc _ e;rw[h.lh]at this;cases this⟩
variable {w' : World}
def Uk {B:Nat}{e:TypeId}{size n:Nat}{v:Value}{xs:List Value}(h:w.ownsRow B e size v n xs)(hk:∀k,v.ownBlock=some k->w'.heap[k]?=w.heap[k]?):w'.ownsRow B e size v n xs:=by
 refine⟨h.1,?_⟩;rcases h.2 with e|⟨g,cap,cur,rfl,h1,h2,h3⟩
 . exact .inl e
 . exact .inr ⟨g,cap,cur,rfl,h1,(hk g rfl).trans h2,h3⟩
def pG.same {p:Option Addr}{g:Nat}{ws:List (Kn.W×Nat)}(h:pG w p g ws)(hz:w.heap.size<=w'.heap.size)(e:1<=ws.length->w'.heap[g]?=w.heap[g]?):pG w' p g ws:=by
 have hc:∀i x o,ws[i]?=some x->w'.cell? (VJ g o)=w.cell? (VJ g o):=λi x o hx=>Z9 (a:=(VJ g o)) (e (by have:=(Z7.1 hx).1;omega));exact⟨h.head,λh1=>ZY (h.lt h1) hz,λi x hx=>(hc i x _ hx).trans (h.c0 i x hx),λi x hx=>(hc i x _ hx).trans (h.c1 i x hx),λi x hx=>(hc i x _ hx).trans (h.c2 i x hx),λi x hx=>(hc i x _ hx).trans (h.c3 i x hx),λi x hx=>(hc i x _ hx).trans (h.c4 i x hx),λi x hx=>(hc i x _ hx).trans (h.c5 i x hx)⟩
def jD.same {Q Q':Nat->Prop}{v:Value}{ms:List Mt}(h:jD w Q v ms)(hz:w.heap.size<=w'.heap.size)(hQ:∀k,Q k->Q' k/\w'.heap[k]?=w.heap[k]?):jD w' Q' v ms:=by
 obtain⟨p,cap,e,h1⟩:=h;refine⟨p,cap,e,λhl=>?_⟩;obtain⟨g,e1,hg,hlt,h1⟩:=h1 hl;refine⟨g,e1,(hQ g hg).1,ZY hlt hz,λi x hx=>?_⟩;obtain⟨h1,q,hh,c,h4,h5,h6⟩:=h1 i x hx;exact⟨(Z9 (a:=(VJ g _)) (hQ g hg).2).trans h1,q,hh,c,(Z9 (a:=(VJ g _)) (hQ g hg).2).trans h4,h5.same hz (λe=>(hQ _ (h6 e)).2),λe=>(hQ _ (h6 e)).1⟩
def Ri.same {Q Q':Nat->Prop}{cl:List Cl}(h:Ri w m Q cl)(hz:w.heap.size<=w'.heap.size)(hQ:∀k,Q k->Q' k/\w'.heap[k]?=w.heap[k]?):Ri w' m Q' cl:=
 ⟨h.len,λc k x hk hx=>by
  obtain⟨h1,h2,h3,h4⟩:=h.rel c k x hk hx
  exact⟨h1,h2,h3,h4.same hz hQ⟩⟩
def RK.same {K:U0}(h:RK w m K)(hz:w.heap.size<=w'.heap.size)(hk:∀k,K.lab k≠.no->w'.heap[k]?=w.heap[k]?)(lab:Nat->Lb)(hl:∀k,k<w.heap.size->lab k=K.lab k)(hn:∀k,lab k≠.no->k<w'.heap.size):RK w' m {K with lab:=lab}:=by
 have key:∀k l,K.lab k=l->l≠.no->lab k=l/\w'.heap[k]?=w.heap[k]?:=λk l e hne=>by
  have h0:K.lab k≠.no:=by rw[e];exact hne
  exact⟨(hl k (h.lt k h0)).trans e,hk k h0⟩
 refine⟨h.ok,(key _ _ h.lh Vy).2.trans h.hd,Uk h.own (λk e=>(key _ _ (h.lc k e) Vy).2),h.rel.same hz (λk e=>key _ _ e Vy),Uk h.obs (λk e=>(key _ _ (h.lo k e) Vy).2),λi o ho=>?_,(key _ _ h.lh Vy).1,λk e=>(key _ _ (h.lc k e) Vy).1,λk e=>(key _ _ (h.lo k e) Vy).1,hn⟩;obtain⟨h0,h2⟩:=h.slot i o ho;have:=key _ _ h2 Vy;exact⟨this.2.trans h0,this.1⟩
structure Vu (w w':World)(m:Im)(K:U0)(m':Im)(K':U0):Prop where
 rk:RK w' m' K'
 Ut:Vt w w' K.Mu
 lab:∀k,k<w.heap.size->K'.lab k=K.lab k
 b:K'.b=K.b
variable {w1 w2 : World}
def Vu.trans {m m1 m2:Im}{K K1 K2:U0}(h:Vu w w1 m K m1 K1)(h':Vu w1 w2 m1 K1 m2 K2):Vu w w2 m K m2 K2:=
 ⟨h'.rk,h.Ut.then h'.Ut (λk hk e=>by unfold U0.Mu at e ⊢;rw[h.lab k hk]at e;exact e),λk hk=>(h'.lab k (ZY hk h.Ut.size)).trans (h.lab k hk),h'.b.trans h.b⟩
def Vu.below {K:U0}(h:RK w m K)(hb:Below w.heap.size w w'):Vu w w' m K m K:=
 ⟨h.same hb.size (λk e=>hb.block k (h.lt k e)) K.lab Ji (λk e=>ZY (h.lt k e) hb.size),Vt.of_below hb _,λ_ _=>rfl,rfl⟩
def Vu.refl {K:U0}(h:RK w m K):Vu w w m K m K:=Vu.below h (ZR _ _)
def Vu.still {K:U0}(h:RK w m K)(hb:Below w.heap.size w w')(S:Nat->Prop)[DecidablePred S](hS:∀k,S k->w.heap.size<=k/\k<w'.heap.size):Vu w w' m K m {K with lab:=λk=>if S k then .still else K.lab k}:=by
 have hl:∀k,k<w.heap.size->(if S k then Lb.still else K.lab k)=K.lab k:=λk hk=>ZX (λe=>by have:=hS k e;omega);refine⟨h.same hb.size (λk e=>hb.block k (h.lt k e)) _ hl (λk e=>?_),Vt.of_below hb _,hl,rfl⟩;by_cases hs:S k
 . exact(hS k hs).2
 . simp only[ZX hs]at e;exact ZY (h.lt k e) hb.size
def QK {b:Nat}{cs:Array Value}{t:TypeId}(h:w.heap[b]?=some (.cells cs t))(o:Nat)(v:Value):(w.setCell (VJ b o) v).heap[b]?=some (.cells (cs.setIfInBounds o v) t):=by
 exact uX
def UN (w:World)(a:Addr)(v:Value):(w.setCell a v).heap.size=w.heap.size:=zb4
variable {m' : Im}
def RK.head {K K':U0}(h:RK w m K)(o:Nat)(v:Value)(hh:#[K.vc,K.vo,VI (Go.RowKit.wrap64 (m.looks:Nat)),VI (K.fu:Nat),VI K.en].setIfInBounds o v=#[K'.vc,K'.vo,VI (Go.RowKit.wrap64 (m'.looks:Nat)),VI (K'.fu:Nat),VI K'.en])
 (hm:U3 m') (hkl:m'.kl=m.kl) (Ra:m'.obs=m.obs) (e1:K'.b=K.b) (e2:K'.cl=K.cl) (e3:K'.ob=K.ob) (e4:K'.lab=K.lab) (e5:K'.vc=K.vc) (e6:K'.vo=K.vo):Vu w (w.setCell (VJ K.b o) v) m K m' K':=by
 have hoth:∀k,k≠K.b->(w.setCell (VJ K.b o) v).heap[k]?=w.heap[k]?:=λk e=>ZW w _ v k (λx=>e x);have key:∀k l,K.lab k=l->l≠.head->k≠K.b:=λk l e hne hb=>by rw[hb,h.lh]at e;exact hne e.symm
 have hQ:K'.Q=K.Q:=by unfold U0.Q;rw[e4]
 refine⟨⟨hm,?_,?_,?_,?_,?_,?_,?_,?_,?_⟩,(Vt.refl w _).setCell _ _ (λ_=>⟨by show K.lab K.b≠_;rw[h.lh];simp,by show K.lab K.b≠_;rw[h.lh];simp⟩),λk _=>by rw[e4],e1⟩
 . rw[e1,<- hh];exact QK h.hd _ _
 . rw[e5,e2];exact Uk h.own aeF
 . rw[e2,hQ];have:=h.rel.same (w':=w.setCell (VJ K.b o) v) (by rw[UN];exact ZN _) (Q':=K.Q) iH;refine⟨by rw[hkl];exact this.len,λc k x hk hx=>?_⟩;rw[hkl]at hk;have ht:m'.tot=m.tot:=by funext c;unfold Im.tot;rw[hkl]
   rw[ht];exact this.rel c k x hk hx
 . rw[e6,e3,Ra];exact Uk h.obs adE
 . intro i x hx;rw[Ra]at hx;obtain⟨h1,h2⟩:=h.slot i x hx;rw[e3,e4];exact fB
 . rw[e4,e1];exact h.lh
 . rw[e4,e5];exact h.lc
 . rw[e4,e6];exact h.lo
 . rw[e4,UN];exact h.lt
def RK.look {K:U0}(h:RK w m K)(n:Nat):Vu w (w.setCell (VJ K.b 2) (VI (Go.RowKit.wrap64 (n:Nat)))) m K {m with looks:=n} K:=
 h.head 2 _ rfl (h.ok.looks n) rfl rfl rfl rfl rfl rfl rfl rfl
def RK.fuel {K:U0}(h:RK w m K)(n:Nat):Vu w (w.setCell (VJ K.b 3) (VI (n:Nat))) m K m {K with fu:=n}:=
 h.head 3 _ rfl h.ok rfl rfl rfl rfl rfl rfl rfl rfl
def RK.end_ {K:U0}(h:RK w m K)(n:Int):Vu w (w.setCell (VJ K.b 4) (VI n)) m K m {K with en:=n}:=
 h.head 4 _ rfl h.ok rfl rfl rfl rfl rfl rfl rfl rfl
def Hw:∀(l:List Cl) (c:Nat) (x:Cl) (v:Value),l[c]?=some x->(Ui l).set (c*4+3) v=Ui (l.set c {x with Om:=v})
 | [],c,x,v,h=>vF
 | y::r,0,x,v,h=>by
  simp at h;subst h;rfl
 | y::r,c+1,x,v,h=>by
  have:=Hw r c x v Nv;rw[show (c+1)*4+3=c*4+3+4 from VH];simp only[Ui,XY,this]
def GY:∀(l:List Cl) (c:Nat) (x:Cl) (n:Int),l[c]?=some x->(Ui l).set (c*4+1) (VI n)=Ui (l.set c {x with above:=n})
 | [],c,x,v,h=>vF
 | y::r,0,x,v,h=>by
  simp at h;subst h;rfl
 | y::r,c+1,x,v,h=>by
  have:=GY r c x v Nv;rw[show (c+1)*4+1=c*4+1+4 from VH];simp only[Ui,XY,this]
def RK.TR {K:U0}(h:RK w m K){g cap:Nat}(hv:K.vc=.slice (some (VJ g 0)) K.cl.length cap)(o:Nat)(v:Value)(cl:List Cl)(hcl:(Ui K.cl).set o v=Ui cl)(hl:cl.length=K.cl.length)(ho:o<K.cl.length*4)(hv1:v.oneCell'=true)
 (hm:U3 m') (Ra:m'.obs=m.obs) (hlk:m'.looks=m.looks) (hrel:Ri w m' K.Q cl):Vu w (w.setCell (VJ g o) v) m K m' {K with cl:=cl}:=by
 have hgl:=h.lc g (by rw[hv];rfl);have hoth:∀k,k≠g->(w.setCell (VJ g o) v).heap[k]?=w.heap[k]?:=λk e=>ZW w _ v k (λx=>e x);have key:∀k l,K.lab k=l->l≠.cls->k≠g:=λk l e hne hb=>aeD;refine⟨⟨hm,?_,?_,?_,?_,?_,h.lh,h.lc,h.lo,?_⟩,(Vt.refl w _).setCell _ _ (λ_=>⟨by show K.lab g≠_;rw[hgl];simp,by show K.lab g≠_;rw[hgl];simp⟩),λk _=>rfl,rfl⟩
 . rw[hlk];exact(hoth _ (key _ _ h.lh Vy)).trans h.hd
 . have hown:=h.own;rw[hv]at hown;have:=World.ownsRow.stored hown o v;rw[hcl]at this;show (w.setCell (VJ g o) v).ownsRow 0 _ 4 K.vc cl.length (Ui cl);rw[hl,hv];exact this.1
 . exact hrel.same (by rw[UN];exact ZN _) iH
 . rw[Ra];exact Uk h.obs adE
 . intro i x hx;rw[Ra]at hx;obtain⟨h1,h2⟩:=h.slot i x hx;exact fB
 . rw[UN];exact h.lt
def Ri.Om {Q:Nat->Prop}{cl:List Cl}(h:Ri w m Q cl){c:Nat}{k:Kl}{x:Cl}(hk:m.kl[c]?=some k)(hx:cl[c]?=some x)(ms:List Mt)(v:Value)(hv:jD w Q v ms):Ri w (m.UY c (λk=>{k with ms:=ms})) Q (cl.set c {x with Om:=v}):=by
 have htot:(m.UY c (λk=>{k with ms:=ms})).tot=m.tot:=by
  exact anP
 refine⟨by simp[Im.UY,h.len],λd l y hl hy=>?_⟩;rw[htot];simp only[Im.UY,Y4]at hl;rw[Wu]at hy;by_cases e:c=d
 . subst e;have hlt:=(Z7.1 hx).1;rw[hk]at hl;simp at hl;simp[hlt]at hy;subst hl hy;obtain⟨h1,h2,h3,_⟩:=h.rel c k x hk hx;exact⟨h1,h2,h3,hv⟩
 . simp[e]at hl hy;exact h.rel d l y hl hy
def abY {c:Nat}{k:Kl}(hk:m.kl[c]?=some k)(f:Kl->Kl)(ms:List Mt)(hf:f k={k with ms:=ms}):m.UY c f=m.UY c (λk=>{k with ms:=ms}):=by
 unfold Im.UY;congr 1;apply XH;intro d;simp only[Y4];by_cases e:c=d
 . subst e;rw[hk];simp[hf]
 . simp[e]
def RK.Om {K:U0}(h:RK w m K){c:Nat}{k:Kl}(hk:m.kl[c]?=some k)(f:Kl->Kl)(ms:List Mt)(hf:f k={k with ms:=ms}) (hm:U3 (m.UY c f)) {W:World}{v:Value}{g Zs:Nat}{xs:List Value} (I6:K.vc=.slice (some (VJ g 0)) K.cl.length Zs) (hb:Below w.heap.size w W) (ho:W.ownsRow w.heap.size 180 2 v ms.length xs) (hr:Qu w K.Q ms xs):
 ∃K',Vu w (W.setCell (VJ g (c*4+3)) v) m K (m.UY c f) K'/\K'.fu=K.fu/\K'.en=K.en:=by
 have hs:=Vu.still h hb (λk=>v.ownBlock=some k) (λk e=>ho.lt k e);have hc:=(Z7.1 hk).1;have hl:=h.rel.len
 obtain⟨x,hx⟩:∃x,K.cl[c]?=some x:=⟨_,Z8 VH⟩
 have hat:jD W ({K with lab:=λk=>if v.ownBlock=some k then .still else K.lab k}:U0).Q v ms:=hr.at ho hb (λk e=>by show (if v.ownBlock=some k then Lb.still else K.lab k)=.still;rw[ZU e]) (λk e=>by show (if v.ownBlock=some k then Lb.still else K.lab k)=.still;split<;>first|rfl|exact e);have Ra:v.oneCell'=true:=by obtain⟨p,cap,rfl⟩:=Rn ho;rfl
 have h2:=hs.rk.TR (m':=m.UY c f) I6 (c*4+3) v (K.cl.set c {x with Om:=v}) (Hw K.cl c x v hx) Vy (by show c*4+3<K.cl.length*4;omega) Ra hm rfl rfl (by rw[abY hk f ms hf];exact hs.rk.rel.Om hk hx ms v hat);exact⟨_,hs.trans h2,rfl,rfl⟩
def LD (h:U3 m):∀(c:Nat) (k:Kl),m.kl[c]?=some k->k.ms.length<=1600000000:=λc k hk=>by
 have:=abW (h.Am c k hk) (λs hs=>by
  obtain⟨x,hx,rfl⟩:=Zy.1 hs
  exact(h.meth c k x hk hx).1)
 simp at this;omega
end Go.Proofs.Rz
namespace Go.Proofs.Rz
open ChangeShapes WideShapes ChangeAt RowKit Kn Tryz
theorem vW (ob:Nat->Nat):∀(l:List Ob) (k i:Nat) (o:Ob),l[i]?=some o->(Uj ob k l)[i*2]?=some (VI (o.cls:Nat))/\(Uj ob k l)[i*2+1]?=some (.slice (some (VJ (ob (k+i)) 0)) o.slots.length o.slots.length)
 | [],k,i,o,h=>MO
 | x::r,k,0,o,h=>by
  simp at h;subst h;exact KP
 | x::r,k,i+1,o,h=>by
  have:=vW ob r (k+1) i o Nv;rw[show (i+1)*2=i*2+1+1 from VH,show k+(i+1)=k+1+i from VH];simpa[Uj]using this
theorem GI {ob ob':Nat->Nat}:∀(l l':List Ob) (k:Nat),l'.length=l.length->(∀i o o',l[i]?=some o->l'[i]?=some o'->o'.cls=o.cls/\ob' (k+i)=ob (k+i)/\o'.slots.length=o.slots.length)->Uj ob' k l'=Uj ob k l
 | [],[],_,_,_=>rfl
 | [],_::_,_,h,_=>MO
 | _::_,[],_,h,_=>MO
 | x::r,x'::r',k,h,hx=>by
  obtain⟨h1,h2,h3⟩:=hx 0 x x' rfl rfl
  have:=GI (ob:=ob) (ob':=ob') r r' (k+1) Nv (λi o o' ho ho'=>by
   have:=hx (i+1) o o' (by simpa using ho) (by simpa using ho');rw[show k+1+i=k+(i+1) from VH]
   exact this)
  simp only[Yt]at h2;simp[Uj,h1,h2,h3,this]
theorem uF (ob:Nat->Nat):∀(l:List Ob) (k:Nat) (o:Ob),Uj ob k (l++[o])=Uj ob k l++[VI (o.cls:Nat),.slice (some (VJ (ob (k+l.length)) 0)) o.slots.length o.slots.length]
 | [],k,o=>rfl
 | x::r,k,o=>by
  have:=uF ob r (k+1) o;simp only[YR,Uj,this,ZI];rw[show k+1+r.length=k+(r.length+1) from VH]
theorem gB (ob:Nat->Nat):∀(l:List Ob) (k i:Nat) (o o':Ob),l[i]?=some o->o'.slots.length=o.slots.length->Uj ob k (l.set i o')=(Uj ob k l).set (i*2) (VI (o'.cls:Nat))
 | [],_,_,_,_,h,_=>MO
 | x::r,k,0,o,o',h,hs=>by
  simp at h;subst h;simp[Uj,hs]
 | x::r,k,i+1,o,o',h,hs=>by
  have:=gB ob r (k+1) i o o' Nv hs;rw[show (i+1)*2=i*2+1+1 from VH];simp[Uj,this]
structure ajY (w:World)(K:U0)(i:Nat)(o:Ob)(g cap n:Nat):Prop where
 v:K.vo=.slice (some (VJ g 0)) n cap
 c0:w.cell? (VJ g (i*2))=some (VI (o.cls:Nat))
 c1:w.cell? (VJ g (i*2+1))=some (.slice (some (VJ (K.ob i) 0)) o.slots.length o.slots.length)
 Vb:UL w g
 s:UL w (K.ob i)
 sc:∀j v,o.slots[j]?=some v->w.cell? (VJ (K.ob i) (j*2))=some (.bool v.obj)/\w.cell? (VJ (K.ob i) (j*2+1))=some (VI v.n)
variable {w : World}
variable {m : Im}
def RK.ob_ {K:U0}(h:RK w m K){i:Nat}{o:Ob}(ho:m.obs[i]?=some o):∃g cap,ajY w K i o g cap m.obs.length:=by
 have hi:=(Z7.1 ho).1;rcases h.obs.2 with⟨_,e⟩|⟨g,cap,cur,e,_,hg,_⟩
 . omega
 . have hown:=h.obs;rw[e]at hown;refine⟨g,cap,e,?_,?_,⟨_,_,hg⟩,⟨_,_,(h.slot i o ho).1⟩,λj v hv=>?_⟩
   . rw[hown.cellAt (i*2) VH];exact(vW K.ob m.obs 0 i o ho).1
   . rw[hown.cellAt (i*2+1) VH];have:=(vW K.ob m.obs 0 i o ho).2;rw[YU]at this;exact this
   . have hs:=(h.slot i o ho).1;obtain⟨h1,h2⟩:=PV o.slots j v hv;simp only[World.cell?,hs];exact⟨by simpa using h1,by simpa using h2⟩
def RK.vo_ {K:U0}(h:RK w m K):∃p cap,K.vo=.slice p m.obs.length cap:=Rn h.obs
def uK {K:U0}{k:Nat}{l:Lb}(h:K.lab k=l)(h1:l≠.no)(h2:l≠.still):K.Mu k:=⟨by rw[h];exact h1,by rw[h];exact h2⟩
def RK.be_ {K:U0}(h:RK w m K){i:Nat}{o:Ob}(ho:m.obs[i]?=some o){g cap n:Nat}(hF:ajY w K i o g cap n)(c:Nat)(hm:U3 {m with obs:=m.obs.set i {o with cls:=c} }):
 Vu w (w.setCell (VJ g (i*2)) (VI (c:Nat))) m K {m with obs:=m.obs.set i {o with cls:=c} } K:=by
 have hi:=(Z7.1 ho).1;have hv:=hF.v;obtain⟨p,cap',hv'⟩:=h.vo_;rw[hv]at hv';injection hv' with _ hn _;subst hn;have hgl:=h.lo g (by rw[hv];rfl);have hoth:∀k,k≠g->(w.setCell (VJ g (i*2)) (VI (c:Nat))).heap[k]?=w.heap[k]?:=λk e=>ZW w _ _ k (λx=>e x);have key:∀k l,K.lab k=l->l≠.obs->k≠g:=λk l e hne hb=>aeD;have hz:=UN w (VJ g (i*2)) (VI (c:Nat));refine⟨⟨hm,(hoth _ (key _ _ h.lh Vy)).trans h.hd,Uk h.own aeF,?_,?_,?_,h.lh,h.lc,h.lo,by rw[hz];exact h.lt⟩,(Vt.refl w _).setCell _ _ acJ,λk _=>rfl,rfl⟩
 . have:=h.rel.same (w':=w.setCell (VJ g (i*2)) (VI (c:Nat))) ac4 (Q':=K.Q) iH;exact⟨this.len,this.rel⟩
 . have hown:=h.obs;rw[hv]at hown;have:=World.ownsRow.stored hown (i*2) (VI (c:Nat));rw[hv];show (w.setCell (VJ g (i*2)) (VI (c:Nat))).ownsRow 0 _ 2 (.slice (some (VJ g 0)) m.obs.length cap) (m.obs.set i {o with cls:=c}).length (Uj K.ob 0 (m.obs.set i {o with cls:=c}));rw[gB K.ob m.obs 0 i o {o with cls:=c} ho rfl,List.length_set];exact this.1
 . intro j x hx;simp only[Wu]at hx;by_cases e:i=j
   . subst e;simp[hi]at hx;subst hx;obtain⟨h1,h2⟩:=h.slot i o ho;exact fB
   . simp[e]at hx;obtain⟨h1,h2⟩:=h.slot j x hx;exact fB
def RK.store {K:U0}(h:RK w m K){i j:Nat}{o:Ob}(ho:m.obs[i]?=some o)(hj:j<o.slots.length)(v:Vl)(hm:U3 {m with obs:=m.obs.modify i (λo=>{o with slots:=o.slots.set j v})}):
 Vu w ((w.setCell (VJ (K.ob i) (j*2)) (.bool v.obj)).setCell (VJ (K.ob i) (j*2+1)) (VI v.n)) m K {m with obs:=m.obs.modify i (λo=>{o with slots:=o.slots.set j v})} K:=by
 obtain⟨hs,hgl⟩:=h.slot i o ho;obtain⟨W,hW⟩:∃W,W=(w.setCell (VJ (K.ob i) (j*2)) (.bool v.obj)).setCell (VJ (K.ob i) (j*2+1)) (VI v.n):=Vx
 have hoth:∀k,k≠K.ob i->W.heap[k]?=w.heap[k]?:=λk e=>by
  rw[hW];exact(ZW _ _ _ k yV).trans (ZW w _ _ k yV)
 have key:∀k l,K.lab k=l->l≠.slot i->k≠K.ob i:=λk l e hne hb=>aeD;have hz:W.heap.size=w.heap.size:=by rw[hW,UN,UN]
 have hblk:W.heap[K.ob i]?=some (.cells (vcs (o.slots.set j v)).toArray 79):=by
  rw[hW,QK (QK hs _ _) _ _,Ej _ _ _ hj];simp
 have hC:Vt w W K.Mu:=by
  rw[hW];exact((Vt.refl w _).setCell _ _ acJ).setCell _ _ acJ
 rw[<- hW];refine⟨⟨hm,(hoth _ (key _ _ h.lh Vy)).trans h.hd,Uk h.own aeF,?_,?_,?_,h.lh,h.lc,h.lo,by rw[hz];exact h.lt⟩,hC,λk _=>rfl,rfl⟩
 . have:=h.rel.same (w':=W) ac4 (Q':=K.Q) iH;exact⟨this.len,this.rel⟩
 . have h1:=Uk (w':=W) h.obs adE;show W.ownsRow 0 _ 2 K.vo (m.obs.modify i (λo=>{o with slots:=o.slots.set j v})).length (Uj K.ob 0 (m.obs.modify i (λo=>{o with slots:=o.slots.set j v})));rw[List.length_modify,GI (ob:=K.ob) (ob':=K.ob) m.obs _ 0 Vy (λk x x' hx hx'=>?_)]
   . exact h1
   . simp only[Y4,hx]at hx';by_cases e:i=k
     . subst e;simp at hx';subst hx';exact⟨rfl,rfl,Vy⟩
     . simp[e]at hx';subst hx';exact vg
 . intro k x hx;simp only[Y4]at hx;by_cases e:i=k
   . subst e;rw[ho]at hx;simp at hx;subst hx;exact⟨hblk,hgl⟩
   . simp[e]at hx;obtain⟨h1,h2⟩:=h.slot k x hx;exact⟨(hoth _ (key _ _ h2 (by intro x;injection x with x;exact e x.symm))).trans h1,h2⟩
def RK.more {w W:World}{K:U0}(h:RK w m K)(c n z:Nat)(v:Value)(hm:U3 {m with obs:=m.obs++[⟨c,List.replicate n Vl.zero⟩]}) (hC:Vt w W (λk=>K.vo.ownBlock=some k)) (hz:w.heap.size<=z) (hzb:W.heap[z]?=some (.cells (vcs (List.replicate n Vl.zero)).toArray 79))
 (ho:W.ownsRow 0 122 2 v (m.obs.length+1) (Uj K.ob 0 m.obs++[VI (c:Nat),.slice (some (VJ z 0)) n n])) (hv:v.ownBlock=K.vo.ownBlock\/∃k,w.heap.size<=k/\v.ownBlock=some k):
 ∃K',Vu w (W.setCell (VJ K.b 1) v) m K {m with obs:=m.obs++[⟨c,List.replicate n Vl.zero⟩]} K'/\K'.fu=K.fu/\K'.en=K.en:=by
 have hzl:=(Z5.1 hzb).1
 have hvz:v.ownBlock≠some z:=λe=>by
  rcases ho.2 with⟨_,e1⟩|⟨g,cap,cur,e1,_,e2,_⟩
  . omega
  . rw[e1]at e;injection e with e;have e:g=z:=e;rw[e,hzb]at e2;injection e2 with e2;injection e2 with _ e2;exact absurd e2 Vz
 have hvb:v.ownBlock≠some K.b:=λe=>by
  rcases hv with e1|⟨k,hk,e1⟩
  . rw[e1]at e;have:=h.lo _ e;rw[h.lh]at this;cases this
  . rw[e1]at e;injection e with e;have:=h.Vb.lt;omega
 obtain⟨K',hK⟩:∃K':U0,K'={K with vo:=v,ob:=λi=>if i=m.obs.length then z else K.ob i,lab:=λk=>if k=z then .slot m.obs.length else if v.ownBlock=some k/\w.heap.size<=k then .obs else K.lab k}:=Vx;obtain⟨W',hW⟩:∃W',W'=W.setCell (VJ K.b 1) v:=Vx;rw[<- hW]
 have ox:Vt w W' K.Mu:=by
  rw[hW];exact(hC.mono (λk _ e=>uK (h.lo k e) Vy Vy)).setCell _ _ (λ_=>uK h.lh Vy Vy)
 have hoth:∀k,k≠K.b->W'.heap[k]?=W.heap[k]?:=λk e=>ajy
 have hlab:∀k,k<w.heap.size->K'.lab k=K.lab k:=λk hk=>by
  rw[hK];show (if k=z then Lb.slot m.obs.length else if v.ownBlock=some k/\w.heap.size<=k then .obs else K.lab k)=K.lab k;rw[ZX VH,ZX VH]
 have key:∀k l,K.lab k=l->l≠.no->l≠.obs->l≠.head->W'.heap[k]?=w.heap[k]?/\K'.lab k=l:=λk l e h0 h1 h2=>by
  have hk:=h.lt k (by rw[e];exact h0);refine⟨(hoth k (λx=>by rw[x,h.lh]at e;exact h2 e.symm)).trans (hC.block k hk (λx=>by have:=h.lo k x;rw[this]at e;exact h1 e.symm)),(hlab k hk).trans e⟩
 have lr:z≠K.b:=by have:=h.Vb.lt;omega
 have hsz:W'.heap.size=W.heap.size:=by rw[hW,UN]
 refine⟨K',⟨⟨hm,?_,?_,?_,?_,?_,?_,?_,?_,?_⟩,ox,hlab,Oa⟩,Oa,Oa⟩
 . have h1:=hC.block _ h.Vb.lt (λx=>by have:=h.lo _ x;rw[h.lh]at this;cases this);rw[hK,hW];exact QK (h1.trans h.hd) 1 v
 . rw[hK];exact Uk h.own (λk e=>(key _ _ (h.lc k e) Vy Vy Vy).1)
 . refine aht ?_;intro h1;have e:K'.cl=K.cl:=Oa;rw[e];exact⟨h1.len,h1.rel⟩
 . have h1:=Uk (w':=W') ho (λk e=>hoth k (λx=>hvb (by rw[e,x])));have e1:K'.vo=v:=Oa;rw[e1];show W'.ownsRow 0 _ 2 v (m.obs++[(⟨c,List.replicate n Vl.zero⟩:Ob)]).length (Uj K'.ob 0 (m.obs++[(⟨c,List.replicate n Vl.zero⟩:Ob)]));rw[uF,GI (ob:=K.ob) (ob':=K'.ob) m.obs m.obs 0 rfl (λi o o' h1 h2=>?_)]
   . have e2:K'.ob (0+m.obs.length)=z:=by rw[hK];simp
     rw[e2];simp only[Zw,ZI,YJ,List.length_replicate,YU];exact h1
   . rw[h1]at h2;injection h2 with h2;subst h2;refine⟨rfl,?_,rfl⟩;have:=(Z7.1 h1).1;rw[hK];exact ZX VH
 . intro i o BV;by_cases e:i<m.obs.length
   . rw[ZH e]at BV;obtain⟨h1,h2⟩:=h.slot i o BV;have e1:K'.ob i=K.ob i:=by rw[hK];exact ZX VH
     rw[e1];have:=key _ _ h2 Vy Vy Vy;exact⟨this.1.trans h1,this.2⟩
   . have hi:i=m.obs.length:=by
      have:=(Z7.1 BV).1;simp at this;omega
     subst hi;rw[ZP UM]at BV;simp at BV;subst BV;have e1:K'.ob m.obs.length=z:=by rw[hK];exact ZU rfl
     rw[e1];refine⟨(hoth z lr).trans hzb,?_⟩;rw[hK];exact ZU rfl
 . have e1:K'.b=K.b:=by rw[hK]
   rw[e1,hlab _ h.Vb.lt];exact h.lh
 . intro k e;have e1:K'.vc=K.vc:=Oa;rw[e1]at e;exact(key _ _ (h.lc k e) Vy Vy Vy).2
 . intro k e;have e1:K'.vo=v:=Oa;rw[e1]at e;by_cases hk:k<w.heap.size
   . rw[hlab k hk];rcases hv with e2|⟨j,hj,e2⟩
     . exact h.lo k (by rw[<- e2];exact e)
     . rw[e2]at e;injection e with e;omega
   . have Be:k≠z:=λx=>hvz (by rw[e,x]);rw[hK];show (if k=z then Lb.slot m.obs.length else if v.ownBlock=some k/\w.heap.size<=k then .obs else K.lab k)=.obs;rw[ZX Be,ZU ⟨e,VH⟩]
 . intro k e;by_cases hk:k<w.heap.size
   . omega
   . rw[hK]at e;simp only at e;by_cases Be:k=z
     . rw[hsz,Be];exact hzl
     . rw[ZX Be]at e;exact ao1
def RK.amU {w W:World}{K:U0}(h:RK w m K)(name:ByteArray)(a n:Nat)(ha:a<m.kl.length)(v:Value)(hm:U3 {m with kl:=m.kl++[⟨name,some a,m.tot a+n,[]⟩]}) (hC:Vt w W (λk=>K.vc.ownBlock=some k))
 (ho:W.ownsRow 0 74 4 v (K.cl.length+1) (Ui K.cl++[.string name,VI (a:Nat),VI (n:Nat),.slice none 0 0])) (hv:v.ownBlock=K.vc.ownBlock\/∃k,w.heap.size<=k/\v.ownBlock=some k):
 ∃K',Vu w (W.setCell (VJ K.b 0) v) m K {m with kl:=m.kl++[⟨name,some a,m.tot a+n,[]⟩]} K'/\K'.fu=K.fu/\K'.en=K.en:=by
 have hvb:v.ownBlock≠some K.b:=λe=>by
  rcases hv with e1|⟨k,hk,e1⟩
  . rw[e1]at e;have:=h.lc _ e;rw[h.lh]at this;cases this
  . rw[e1]at e;injection e with e;have:=h.Vb.lt;omega
 obtain⟨K',hK⟩:∃K':U0,K'={K with vc:=v,cl:=K.cl++[⟨name,(a:Nat),(n:Nat),.slice none 0 0⟩],lab:=λk=>if v.ownBlock=some k/\w.heap.size<=k then .cls else K.lab k}:=Vx;obtain⟨W',hW⟩:∃W',W'=W.setCell (VJ K.b 0) v:=Vx;rw[<- hW]
 have ox:Vt w W' K.Mu:=by
  rw[hW];exact(hC.mono (λk _ e=>uK (h.lc k e) Vy Vy)).setCell _ _ (λ_=>uK h.lh Vy Vy)
 have hoth:∀k,k≠K.b->W'.heap[k]?=W.heap[k]?:=λk e=>ajy
 have hlab:∀k,k<w.heap.size->K'.lab k=K.lab k:=λk hk=>by
  rw[hK];show (if v.ownBlock=some k/\w.heap.size<=k then Lb.cls else K.lab k)=K.lab k;rw[ZX VH]
 have key:∀k l,K.lab k=l->l≠.no->l≠.cls->l≠.head->W'.heap[k]?=w.heap[k]?/\K'.lab k=l:=λk l e h0 h1 h2=>by
  have hk:=h.lt k (by rw[e];exact h0);refine⟨(hoth k (λx=>by rw[x,h.lh]at e;exact h2 e.symm)).trans (hC.block k hk (λx=>by have:=h.lc k x;rw[this]at e;exact h1 e.symm)),(hlab k hk).trans e⟩
 have hsz:W'.heap.size=W.heap.size:=by rw[hW,UN]
 refine⟨K',⟨⟨hm,?_,?_,?_,?_,?_,?_,?_,?_,?_⟩,ox,hlab,Oa⟩,Oa,Oa⟩
 . have h1:=hC.block _ h.Vb.lt (λx=>by have:=h.lc _ x;rw[h.lh]at this;cases this);rw[hK,hW];exact QK (h1.trans h.hd) 0 v
 . have h1:=Uk (w':=W') ho (λk e=>hoth k (λx=>hvb (by rw[e,x])));rw[hK];simp only[Ls,Zw,ZI,YJ,YU];exact h1
 . refine aht ?_;intro h1;have e:K'.cl=K.cl++[⟨name,(a:Nat),(n:Nat),.slice none 0 0⟩]:=Oa;rw[e]
   have htot:∀d,d<m.kl.length->Im.tot {m with kl:=m.kl++[⟨name,some a,m.tot a+n,[]⟩]} d=m.tot d:=λd hd=>by
    unfold Im.tot;simp only;rw[ZH hd]
   refine⟨by simp[h1.len],λd l x hl hx=>?_⟩;simp only at hl;by_cases hd:d<m.kl.length
   . rw[ZH hd]at hl;rw[ZH (by rw[h1.len];exact hd)]at hx;obtain⟨q1,q2,q3,q4⟩:=h1.rel d l x hl hx;refine⟨q1,q2,?_,q4⟩;rw[q3]
     cases hab:l.above with
     | none=>rfl
     | some u=>
      have hu:u<m.kl.length:=by
       by_cases hd0:d=0
       . obtain⟨ms,hm0⟩:=h.ok.any;rw[hd0,hm0]at hl;injection hl with hl;rw[<- hl]at hab;cases hab
       . obtain⟨a',ha',hal,_⟩:=h.ok.up d l hl hd0;rw[hab]at ha';exact acv
      simp only[ZG,YX,htot u hu]
   . have BS:d=m.kl.length:=by
      have:=(Z7.1 hl).1;simp at this;omega
     subst BS;rw[ZP UM]at hl;rw[ZP (by rw[h1.len];exact ZN _),h1.len]at hx;simp at hl hx;subst hl hx;refine⟨rfl,rfl,?_,none,0,rfl,λe=>sH⟩;simp only[ZG,YX,htot a ha];omega
 . rw[hK];exact Uk h.obs (λk e=>(key _ _ (h.lo k e) Vy Vy Vy).1)
 . intro i o BV;obtain⟨h1,h2⟩:=h.slot i o BV;have:=key _ _ h2 Vy Vy Vy;have e1:K'.ob=K.ob:=Oa;rw[e1];exact⟨this.1.trans h1,this.2⟩
 . have e1:K'.b=K.b:=by rw[hK]
   rw[e1,hlab _ h.Vb.lt];exact h.lh
 . intro k e;have e1:K'.vc=v:=Oa;rw[e1]at e;by_cases hk:k<w.heap.size
   . rw[hlab k hk];rcases hv with e2|⟨j,hj,e2⟩
     . exact h.lc k (by rw[<- e2];exact e)
     . rw[e2]at e;injection e with e;omega
   . rw[hK];exact ZU ⟨e,VH⟩
 . intro k e;have e1:K'.vo=K.vo:=Oa;rw[e1]at e;exact(key _ _ (h.lo k e) Vy Vy Vy).2
 . intro k e;by_cases hk:k<w.heap.size
   . have:=ox.size;omega
   . rw[hK]at e;simp only at e;exact ao1
def RK.akw {K:U0}(h:RK w m K){c a:Nat}{k:Kl}(hk:m.kl[c]?=some k)(ha:a<m.kl.length)(hc0:c≠0)(ht:m.tot a=m.tot ((m.kl[c]?.bind (·.above)).getD 0))(hm:U3 (m.UY c (λk=>{k with above:=some a}))) {g cap:Nat} (hv:K.vc=.slice (some (VJ g 0)) K.cl.length cap):
 ∃K',Vu w (w.setCell (VJ g (c*4+1)) (VI (a:Nat))) m K (m.UY c (λk=>{k with above:=some a})) K'/\K'.fu=K.fu/\K'.en=K.en:=by
 have hc:=(Z7.1 hk).1;have hl:=h.rel.len
 obtain⟨x,hx⟩:∃x,K.cl[c]?=some x:=⟨_,Z8 VH⟩
 have htot:(m.UY c (λk=>{k with above:=some a})).tot=m.tot:=by
  exact anP
 have hrel:Ri w (m.UY c (λk=>{k with above:=some a})) K.Q (K.cl.set c {x with above:=(a:Nat)}):=by
  refine⟨by simp[Im.UY,hl],λd l y hl' hy=>?_⟩;rw[htot];simp only[Im.UY,Y4]at hl';rw[Wu]at hy;by_cases e:c=d
  . subst e;have hlt:=(Z7.1 hx).1;rw[hk]at hl';simp at hl';simp[hlt]at hy;subst hl' hy;obtain⟨h1,h2,h2,h4⟩:=h.rel.rel c k x hk hx;refine⟨h1,rfl,?_,h4⟩;obtain⟨u,hu,_⟩:=h.ok.up c k hk hc0;rw[hk]at ht;simp only[YA,hu,YX]at ht;simp only[ZG,YX,ht];rw[hu]at h2;exact h2
  . simp[e]at hl' hy;exact h.rel.rel d l y hl' hy
 exact⟨_,h.TR hv (c*4+1) (VI (a:Nat)) _ (GY K.cl c x a hx) Vy VH rfl hm rfl rfl hrel,rfl,rfl⟩
def akm (b:Nat)(sel:ByteArray)(hs:sel.size<=maxLen):
 Calls prog 64 #[VG b,.string sel] w λe w'=>e=.returned (VI (Q7 sel))/\w'=w:=by
 by_cases he:sel=⟨#[]⟩
 . have D4:Q7 sel=0:=by unfold Q7;rw[ZX];exact λe=>e.1 he
   rw[D4];subst he;go_enter func64,ntmps64;go_wp2
   go_ret
   exact KP
 . refine ahN ?_;intro hne UB;have HN:Hid _:=he;clear he;go_enter func64,ntmps64;go_wp2_with fail;refine(Pj sel w hs).mono ?_;rintro e w1 ⟨rfl,hw⟩;replace hw:=hw.symm;subst hw
   cases hs:selector (bl sel) with
   | false=>
    go_wp2
    go_ret
    exact⟨by unfold Q7;rw[ZU ⟨HN.o,hs⟩];rfl,rfl⟩
   | true=>
    go_wp2
    go_ret
    exact⟨by unfold Q7;rw[ZX (by rw[hs];exact λe=>by cases e.2)];rfl,rfl⟩
def RK.there {K:U0}(h:RK w m K)(o:Int):Calls prog 53 #[VG K.b,VI o] w λe w'=>e=.returned (.bool (m.there o))/\w'=w:=by
 obtain⟨p,cap,hv⟩:=h.vo_;have c1:=h.c1;rw[hv]at c1;exact acy h.ok.objs c1 h.Vb.lt o
def RK.vc_ {K:U0}(h:RK w m K):∃g cap,K.vc=.slice (some (VJ g 0)) K.cl.length cap/\als w (some (VJ g 0)) g K.cl:=by
 obtain⟨p,g,cap,hv,hat⟩:=Qa h.own;have hp:=hat.head (by rw[h.rel.len];have:=h.ok.two;omega);subst hp;exact⟨g,cap,hv,hat⟩
def SG (w:World)(m:Im)(K:U0)(m':Im)(w':World):Prop:=∃K',Vu w w' m K m' K'/\K'.fu=K.fu/\K'.en=K.en
def SG.refl {K:U0}(h:RK w m K):SG w m K m w:=⟨K,Vu.refl h,rfl,rfl⟩
variable {w' : World}
def SG.below {K:U0}(h:RK w m K)(hb:Below w.heap.size w w'):SG w m K m w':=⟨K,Vu.below h hb,rfl,rfl⟩
def RK.class {K:U0}(h:RK w m K)(s:ByteArray):Calls prog 93 #[VG K.b,.string s] w λe w'=>e=.returned (VI (Qh (m.cls s)))/\w'=w:=BK h.ok h.im h.rel s
def RK.slots {K:U0}(h:RK w m K){c:Nat}(hc:c<m.kl.length):Calls prog 51 #[VG K.b,VI (c:Nat)] w λe w'=>e=.returned (VI (m.tot c:Nat))/\w'=w:=abe h.ok h.im h.rel c hc
def RK.agJ {K:U0}(h:RK w m K){c:Nat}{k:Kl}(hk:m.kl[c]?=some k)(sel:ByteArray):Calls prog 96 #[VG K.b,VI (c:Nat),.string sel] w λe w'=>e=.returned (VI (A8 k.ms sel))/\w'=w:=kJ h.ok h.im h.rel hk sel (LD h.ok c k hk)
def Cm {s:ByteArray}{c:Nat}(h:m.cls s=some c):c<m.kl.length:=by
 obtain⟨k,hk,_⟩:=RJ h;exact(Z7.1 hk).1
def JJ (h:U3 m)(c:Nat):m.tot c<=10:=by
 unfold Im.tot
 cases hk:m.kl[c]? with
 | none=>simp
 | some k=>exact h.tot c k hk
def lq {c:Nat}{k:Kl}(hk:m.kl[c]?=some k)(sel:ByteArray):m.own c sel=k.own sel:=by unfold Im.own;rw[hk];rfl
def rof {K:U0}(h:RK w m K)(o:Int):
 Calls prog 26 #[VG K.b,VI o] w λe w'=>e=.returned (.tuple #[.string (m.nP o).1,VI (m.nP o).2])/\Below w.heap.size w w':=by
 have hcall:=h.there o;obtain⟨r,hr⟩:∃r,m.nP o=r:=Vx;rw[hr];have hlt:=h.Vb.lt
 cases ht:m.there o with
 | false=>
  have hdr:r=(⟨#[]⟩,4):=by rw[<- hr];unfold Im.nP;rw[ht];rfl
  subst hdr;rw[ht]at hcall;clear h hr ht;go_enter func26,ntmps26;go_wp2_with fail;refine hcall.mono ?_;rintro e w' ⟨rfl,rfl⟩;go_wp2
  go_ret2
  exact⟨rfl,ZR _ _⟩
 | true=>
  obtain⟨i,x,rfl,hx,hi,hil⟩:=Rj ht;obtain⟨g,cap,hF⟩:=h.ob_ hx;have hxo:=h.ok.obj x (ZK hx)
  obtain⟨kc,hk⟩:∃kc,m.kl[x.cls]?=some kc:=⟨_,Z8 hxo.1⟩
  have hdr:r=(kc.name,0):=amm;subst hdr;obtain⟨g2,cap2,hv2,hat⟩:=h.vc_
  obtain⟨y,hy⟩:∃y,K.cl[x.cls]?=some y:=⟨_,Z8 (by rw[h.rel.len];exact hxo.1)⟩
  have n0:=hat.c0 _ y hy;rw[(h.rel.rel _ kc y hk hy).1]at n0;have o0:=hF.c0;have c0:=h.c0;have c1:=h.c1;rw[hv2]at c0;rw[hF.v]at c1;rw[ht]at hcall;refine Jz ?_;intro R6;have hcl:(x.cls:Int)<(K.cl.length:Int):=by rw[h.rel.len];omega
  clear h hr ht hF hat hxo hk hx hy hv2;go_enter func26,ntmps26;go_wp2_with fail;refine zA ?_;go_wp2_with fail
  go_quiet (fail)
  go_wp2
  go_ret2
  exact⟨rfl,uq⟩
def O1 {fn:Func}{p k:Tmp}(h:fn.results=#[.cell p 79,.tmp k]){tmps:Array Value}{z:Nat}(v0 v1 v:Value)(hp:tmps.getD p undef=(VG z))(hk:tmps.getD k undef=v)(z0:w.cell? (VJ z 0)=some v0)(z1:w.cell? (VJ z 1)=some v1):
 (results fn tmps).run prog w=.ok (.tuple #[.agg #[v0,v1],v]) w:=by
 exact alm
structure Rz (w W:World):Prop where
 bel:Below w.heap.size w W
 lt:w.heap.size<W.heap.size
 blk:W.heap[w.heap.size]?=some (.cells #[.bool false,VI 0] 79)
def Rz.z0 {w W:World}(h:Rz w W):W.cell? (VJ w.heap.size 0)=some (.bool false):=by simp only[World.cell?,h.blk];rfl
def Rz.z1 {w W:World}(h:Rz w W):W.cell? (VJ w.heap.size 1)=some (VI 0):=by simp only[World.cell?,h.blk];rfl
def Rz.Vb {w W:World}(h:Rz w W):UL W w.heap.size:=⟨_,_,h.blk⟩
def RK.res {K:U0}(h:RK w m K):∃W,W=w.alloc (.cells #[.bool false,VI 0] 79)/\RK W m K/\Rz w W:=by
 have hb:Below w.heap.size w (w.alloc (.cells #[.bool false,VI 0] 79)):=(ZR _ w).alloc UM _;exact⟨_,rfl,(Vu.below h hb).rk,hb,Vy,(Z4 w _).1⟩
def RQ {W:World}{z:Nat}{c0 c1:Value}(z0:W.cell? (VJ z 0)=some c0)(z1:W.cell? (VJ z 1)=some c1)(a b:Value):((W.setCell (VJ z 0) a).setCell (VJ z 1) b).cell? (VJ z 0)=some a/\((W.setCell (VJ z 0) a).setCell (VJ z 1) b).cell? (VJ z 1)=some b:=by
 have h1:(VJ z 1)≠(VJ z 0):=by intro e;injection e with _ e;cases e
 exact⟨(VD h1).trans (Vr z0),Vr ((VD h1.symm).trans z1)⟩
def pW {w W:World}(h:Below w.heap.size w W){z:Nat}(hz:w.heap.size<=z)(a b:Value):Below w.heap.size w ((W.setCell (VJ z 0) a).setCell (VJ z 1) b):=
 (((Vt.of_below h (λk=>k=z)).setCell _ _ (λ_=>rfl)).setCell _ _ (λ_=>rfl)).below UM (λk _ e=>VH)
def anU {K:U0}(h:RK w m K)(o j:Int):
 Calls prog 24 #[VG K.b,VI o,VI j] w λe w'=>e=.returned (.tuple #[(m.slot o j).1.val,VI (m.slot o j).2])/\Below w.heap.size w w':=by
 obtain⟨W,hW,h,hz⟩:=h.res;have HB:=UQ hz.bel;have z0:=hz.z0;have z1:=hz.z1;have zf:=λo=>hz.Vb.free o;have hcall:=h.there o;obtain⟨r,hr⟩:∃r,m.slot o j=r:=Vx;rw[hr];clear hz
 cases ht:m.there o with
 | false=>
  have hdr:r=(Vl.zero,4):=by rw[<- hr];unfold Im.slot;rw[ht];rfl
  subst hdr;rw[ht]at hcall;clear h hr ht;go_enter func24,ntmps24;go_wp2_with fail;rw[<- hW];clear hW;refine zA ?_;go_wp2;obtain⟨y0,y1⟩:=RQ z0 z1 (.bool false) (VI 0);exact ZQ (O1 results24 _ _ _ rfl rfl y0 y1) rfl acR
 | true=>
  obtain⟨i,x,rfl,hx,hi,hil⟩:=Rj ht;obtain⟨g,cap,hF⟩:=h.ob_ hx;have hxo:=h.ok.obj x (ZK hx);have h10:x.slots.length<=10:=by rw[hxo.2.2.1];exact JJ h.ok _
  rw[ht]at hcall;have o1:=hF.c1;have c1:=h.c1;rw[hF.v]at c1;refine Jz ?_;intro R6;have hsc:=hF.sc;obtain⟨n,hn⟩:∃n,n=x.slots.length:=Vx;rw[<- hn]at o1 h10;by_cases hj:0<=j/\j<(n:Int)
  . obtain⟨j,rfl⟩:=YP hj.1
    obtain⟨v,hv⟩:∃v,x.slots[j]?=some v:=⟨_,Z8 VH⟩
    have hdr:r=(v,0):=by rw[<- hr];unfold Im.slot;rw[ht,ZU rfl,hi,hx];simp only;rw[ZU hj.1,Zp,hv]
    subst hdr;obtain⟨s0,s0⟩:=hsc j v hv;have eK:=hj.2;clear h hr ht hF hxo hx hsc hn hj hv;unfold Vl.val;go_enter func24,ntmps24;go_wp2_with fail;rw[<- hW];clear hW;refine zA ?_;go_wp2;obtain⟨y0,y1⟩:=RQ z0 z1 (.bool v.obj) (VI v.n);exact ZQ (O1 results24 _ _ _ rfl rfl y0 y1) rfl acR
  . have hdr:r=(Vl.zero,4):=by
     rw[<- hr];unfold Im.slot;rw[ht,ZU rfl,hi,hx];simp only;by_cases h0:0<=j
     . rw[ZU h0];have:x.slots[j.toNat]?=none:=Y8 VH;rw[this]
     . rw[ZX h0]
    subst hdr;clear h hr ht hF hxo hx hsc hn;by_cases h0:0<=j
    . have h1:¬j<(n:Int):=λe=>hj ⟨h0,e⟩;exact aoq
    . exact aoq
def rbe {K:U0}(h:RK w m K)(o:Int)(s:ByteArray):
 Calls prog 63 #[VG K.b,VI o,.string s] w λe w'=>e=.returned (VI (m.be o s).1)/\SG w m K (m.be o s).2 w':=by
 have hok:=(adH h.ok o s).1;have hcall:=h.there o;have Z3:=eY h.ok h.im h.rel s;have HR:=UQ (SG.refl h);obtain⟨r,hr⟩:∃r,m.be o s=r:=Vx;rw[hr]at hok ⊢;unfold Im.be at hr
 cases ht:m.there o with
 | false=>
  rw[ZU ht]at hr;subst hr;rw[ht]at hcall;clear h hok Z3;go_enter func63,ntmps63;go_wp2_with fail;refine hcall.mono ?_;rintro e w' ⟨rfl,rfl⟩;go_wp2
  go_ret
  exact O5
 | true=>
  rw[ZX (by rw[ht];simp)]at hr;rw[ht]at hcall
  cases hm:m.made s with
  | none=>
   rw[hm]at hr Z3;simp only at hr;subst hr;simp only[Qh]at Z3;clear h hok;go_enter func63,ntmps63;go_wp2_with fail;refine hcall.mono ?_;rintro e w' ⟨rfl,rfl⟩;go_wp2_with fail;refine Z3.mono ?_;rintro e w' ⟨rfl,rfl⟩;go_wp2
   go_ret
   exact O5
  | some c=>
   obtain⟨i,x,rfl,hx,hi,hil⟩:=Rj ht;rw[hm,hi,hx]at hr;rw[hm]at Z3;simp only at hr;simp only[Qh]at Z3;have hcl:=Cm (O7 hm).2;have hsl:=(Vu.below h (ZR _ w).drew).rk.slots hcl;obtain⟨g,cap,hF⟩:=h.ob_ hx;have hxo:=h.ok.obj x (ZK hx);have h10:x.slots.length<=10:=by rw[hxo.2.2.1];exact JJ h.ok _
   have Kj:=JJ h.ok c;have o0:=hF.c0;have o0:=hF.c1;have c1:=h.c1;rw[hF.v]at c1;refine Jz ?_;intro R6;have gf:=λk=>hF.Vb.free k;obtain⟨n,hn⟩:∃n,n=x.slots.length:=Vx;obtain⟨tc,yd⟩:∃tc,tc=m.tot c:=Vx;rw[<- hn]at o0 h10 hr;rw[<- yd]at hsl Kj hr
   have HH:Hid (RK w m K/\m.obs[i]?=some x/\ajY w K i x g cap m.obs.length):=⟨h,hx,hF⟩
   by_cases he:tc=n
   . rw[ZX (by simp[he])]at hr;subst hr;have HO:Hid _:=hok;clear h hok hx hF hxo hm ht hn yd hi;go_enter func63,ntmps63;go_wp2_with fail;refine zA ?_;go_wp2_with fail;refine Z3.mono ?_;refine Sl ?_;go_wp2_with fail;refine Uy ?_;refine aiV ?_;intro hHeld;refine Ep ?_;refine afr ?_;refine dX ?_;refine Ur 11 ?_;refine Ul 2 λY_ Z_=>?_;go_simp;refine hsl.mono ?_;rintro e w3 ⟨rfl,rfl⟩
     try go_wp2_with fail
     refine Z_.go λhHeld=>?_;clear Z_ Y_;refine BD ?_;refine Nr ?_;go_wp2
     go_ret
     have hst:=HH.o.1.be_ HH.o.2.1 HH.o.2.2 c HO.o;exact⟨rfl,K,hst.trans (Vu.below hst.rk (ZR _ _).drew),rfl,rfl⟩
   . rw[ZU he]at hr;subst hr;clear h hok hx hF hxo hm ht hn yd hi;go_enter func63,ntmps63;go_wp2_with fail;refine zA ?_;go_wp2_with fail;refine Z3.mono ?_;refine Sl ?_;go_wp2_with fail;refine Uy ?_;refine aiV ?_;intro hHeld;refine Ep ?_;refine afr ?_;refine dX ?_;refine Ur 11 ?_;refine Ul 2 λY_ Z_=>?_;go_simp;refine hsl.mono ?_;rintro e w3 ⟨rfl,rfl⟩
     try go_wp2_with fail
     refine Z_.go λhHeld=>?_;clear Z_ Y_;refine BD ?_;refine Nr ?_;go_wp2
     go_ret
     exact⟨rfl,SG.below HH.o.1 (ZR _ _).drew⟩
end Go.Proofs.Rz
