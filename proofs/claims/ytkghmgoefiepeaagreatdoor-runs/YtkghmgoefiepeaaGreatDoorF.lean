import Derived.Lib.Strings
import Derived.Lib.BufferWrite
import Derived.Lib.UnsafeStr
import Derived.Test.YtkghmgoefiepeaaGreatDoorE
set_option linter.unusedSimpArgs false
set_option linter.unusedVariables false
set_option maxHeartbeats 4000000
set_option maxRecDepth 100000
namespace Go.Proofs.Rz
open ChangeShapes WideShapes ChangeAt RowKit Kn Tryz
theorem fJ {ws:List (W×Nat)}{args slots:Nat}(h0:∀(i:Nat) (x:W×Nat),ws[i]?=some x->Pv x.1)(hno:∀j,j<ws.length->¬SC ws args slots j)(i:Nat)(x:W×Nat)(hx:ws[i]?=some x):Fine x.1 ws.length:=by
 have h:=h0 i x hx;have hi:=(Z7.1 hx).1;refine⟨h.kind,h.lo,h.hi,h.send,λe=>⟨h.goto e,?_⟩⟩;have hn:=hno i hi;have hw:EG ws i=x.1:=ql;unfold SC TJ at hn;rw[hw]at hn;by_cases hc:x.1.n<=ws.length
 . exact hc
 . exact absurd (W9 (Or.inr ⟨e,VH⟩)) hn
theorem fits_any (ws:List (W×Nat))(p:Option Addr)(g cap args slots:Nat)(w:World)(hn:ws.length<=40)(ha:args<=3)(hs:slots<=10)(hw:pG w p g ws)(h0:∀(i:Nat) (x:W×Nat),ws[i]?=some x->Pv x.1):
 Calls prog 100 #[.slice p ws.length cap,VI args,VI slots] w λe w'=>∃r i:Int,e=.returned (.tuple #[VI r,VI i])/\MN ws args slots r i/\Below w.heap.size w w':=by
 have HW:Hid _:=hw;have HF:Hid _:=h0;clear hw h0;go_enter func100,ntmps100;go_wp2
 go_loop [8] (λi=>∃k:Nat,i=VI k/\k<=ws.length/\∀j,j<k->¬SC ws args slots j) (λi=>ws.length-(intOf i).toNat)
 case atStart=>exact zt9
 case round=>
  obtain⟨k,rfl,hk,hno⟩:=hrel;have G':Hid _:=hno;clear hno;by_cases hkn:k<ws.length
  . refine BH ?_;intro x hx;have hwx:EG ws k=x.1:=ql;have Rg:=HF.o k x hx;obtain rfl:p=some (VJ g 0):=HW.o.head VH;have c0:=HW.o.c0 k x hx;have c1:=HW.o.c1 k x hx;have hlo:=Rg.lo;have hhi:=Rg.hi
    have HA:Hid (TJ ws args k↔(x.1.k=97/\(args:Int)<=x.1.n)\/((x.1.k=62\/x.1.k=63)/\(ws.length:Int)<x.1.n)):=by
     have hx1:TJ ws args k↔(x.1.k=97/\(args:Int)<=x.1.n)\/((x.1.k=62\/x.1.k=63)/\(ws.length:Int)<x.1.n):=by unfold TJ;rw[hwx]
     exact hx1
    have HS:Hid (TG ws slots k↔((x.1.k=103\/x.1.k=112)/\(slots:Int)<=x.1.n)):=by
     have hx1:TG ws slots k↔((x.1.k=103\/x.1.k=112)/\(slots:Int)<=x.1.n):=by unfold TG;rw[hwx]
     exact hx1
    obtain⟨⟨xk,xn,xs,xa,xb⟩,xi⟩:=x;simp only at c0 c1 hlo hhi HA HS;clear hx hwx Rg;by_cases e97:xk=97
    . skip;by_cases hb:(args:Int)<=xn
      . skip;go_wp2
        go_ret2
        exact amr
      . skip;go_wp2
        go_round
        case rel=>
         exact anj
        case measure=>simp[intOf]<;>omega
    by_cases e62:xk=62
    . exact al0
    by_cases e63:xk=63
    . exact al0
    by_cases ap2:xk=103
    . exact anc
    by_cases ap4:xk=112
    . exact anc
    have oy:((xk:Int)==97)=false:=Vo;have oy:((xk:Int)==62)=false:=Vo;have oy:((xk:Int)==63)=false:=Vo;have oy:((xk:Int)==103)=false:=Vo;have oy:((xk:Int)==112)=false:=Vo;go_wp2
    go_round
    case rel=>
     exact anj
    case measure=>simp[intOf]<;>omega
  . obtain rfl:k=ws.length:=by omega
    go_wp2_with fail;refine(qj ws p g cap _ hn HW.o (fJ HF.o G'.o)).mono ?_;rintro e w1 ⟨r,rfl,hr,hb⟩;have HR:=UQ hr;clear hr;go_wp2
    go_ret2
    exact⟨6,r,rfl,.inr ⟨G'.o,rfl,HR.o⟩,hb⟩
structure Cl where
 name:ByteArray
 above:Int
 own:Int
 Om:Value
def Ui:List Cl->List Value
 | []=>[]
 | x::r=>.string x.name::VI x.above::VI x.own::x.Om::Ui r
theorem Ls:∀(l r:List Cl),Ui (l++r)=Ui l++Ui r
 | [],r=>rfl
 | x::l,r=>by simp only[YR,Ui,Ls l r]
theorem Gf:∀(l:List Cl) (i:Nat) (x:Cl) (c:Nat) (u:Value),l[i]?=some x->([Value.string x.name,VI x.above,VI x.own,x.Om])[c]?=some u->(Ui l)[i*4+c]?=some u
 | [],i,x,c,u,h,_=>vF
 | y::r,0,x,c,u,h,hc=>by
  simp at h;subst h;rw[Yu,YU]
  match c,hc with
  | 0,hc=>simpa[Ui]using hc
  | 1,hc=>simpa[Ui]using hc
  | 2,hc=>simpa[Ui]using hc
  | 3,hc=>simpa[Ui]using hc
  | c+4,hc=>simp at hc
 | y::r,i+1,x,c,u,h,hc=>by
  have ih:=Gf r i x c u Nv hc;rw[show (i+1)*4+c=i*4+c+4 from VH];simpa[Ui]using ih
structure RIm (w:World)(B b:Nat)(vc:Value)(cl:List Cl):Prop where
 lo:B<=b
 lt:b<w.heap.size
 head:w.cell? (VJ b 0)=some vc
 free:w.frozen? (VJ b 0)=false
 own:w.ownsRow B 74 4 vc cl.length (Ui cl)
 apart:vc.ownBlock≠some b
variable {w w' : World}
structure als (w:World)(p:Option Addr)(g:Nat)(cl:List Cl):Prop where
 head:1<=cl.length->p=some (VJ g 0)
 lt:1<=cl.length->g<w.heap.size
 c0:∀i x,cl[i]?=some x->w.cell? (VJ g (i*4))=some (.string x.name)
 c1:∀i x,cl[i]?=some x->w.cell? (VJ g (i*4+1))=some (VI x.above)
 c2:∀i x,cl[i]?=some x->w.cell? (VJ g (i*4+2))=some (VI x.own)
 c3:∀i x,cl[i]?=some x->w.cell? (VJ g (i*4+3))=some x.Om
theorem Qa {cl:List Cl}{B:Nat}{e:TypeId}{v:Value}(h:w.ownsRow B e 4 v cl.length (Ui cl)):∃p g cap,v=.slice p cl.length cap/\als w p g cl:=by
 have hc:=λg hg=>h.cells (g:=g) hg;rcases h.2 with⟨rfl,h0⟩|⟨g,cap,cur,rfl,hb,hg,hn,_⟩
 . refine⟨none,0,0,by rw[h0],⟨λe=>VH,λe=>VH,?_,?_,?_,?_⟩⟩
   all_goals
    intro i x hx;have:=(Z7.1 hx).1;omega
 . have key:∀i x c u,cl[i]?=some x->([Value.string x.name,VI x.above,VI x.own,x.Om])[c]?=some u->w.cell? (VJ g (i*4+c))=some u:=by
    intro i x c u hx hu;have:=hc g rfl (i*4+c) u (Gf cl i x c u hx hu);have hadd:(VJ g 0).add (i*4+c)=(VJ g (i*4+c)):=qP;rw[hadd]at this;exact this
   exact⟨some (VJ g 0),g,cap,rfl,⟨λ_=>rfl,λ_=>(Z5.1 hg).1,λi x hx=>key i x 0 _ hx rfl,λi x hx=>key i x 1 _ hx rfl,λi x hx=>key i x 2 _ hx rfl,λi x hx=>key i x 3 _ hx rfl⟩⟩
theorem yt {a b:ByteArray}(h:¬a=b):(a.toList==b.toList)=false:=by
 refine Jv (λe=>h ?_);rw[ZL]at e;cases a;cases b;congr 1;exact Wh.1 e
def IsClass (cl:List Cl)(s:ByteArray)(r:Int):Prop:=Kt (λi=>∃x,cl[i]?=some x/\x.name=s) cl.length r
theorem nZ (cl:List Cl)(s:ByteArray)(w:World)(B b:Nat)(vc:Value)(hn:∀x∈cl,x.name.size<=100)(hl:cl.length<=12)(h:RIm w B b vc cl):
 Calls prog 93 #[VG b,.string s] w λe w'=>∃r:Int,e=.returned (VI r)/\IsClass cl s r/\w'=w:=by
 obtain⟨p,g,cap,rfl,hat⟩:=Qa h.own;have c0:=h.head;have HC:Hid _:=hat;clear h hat;go_enter func93,ntmps93;go_wp2
 go_loop [5] (λi=>∃k:Nat,i=VI k/\k<=cl.length/\∀j,j<k->¬∃x,cl[j]?=some x/\x.name=s) (λi=>cl.length-(intOf i).toNat)
 case atStart=>exact zt9
 case round=>
  obtain⟨k,rfl,hk,hno⟩:=hrel;have G':Hid _:=hno;clear hno;by_cases hkn:k<cl.length
  . obtain⟨x,hx⟩:∃x,cl[k]?=some x:=⟨_,Z8 hkn⟩
    obtain rfl:p=some (VJ g 0):=HC.o.head VH;have d0:=HC.o.c0 k x hx;have HX:Hid _:=hx;clear hx;by_cases he:x.name=s
    . go_wp2
      go_ret
      exact⟨k,rfl,.inr ⟨k,hkn,rfl,⟨x,HX.o,he⟩,G'.o⟩,rfl⟩
    . have te:=yt he;go_wp2
      go_round
      case rel=>
       refine⟨k+1,Uu,VH,λj hj=>?_⟩;by_cases e:j=k
       . subst e;rintro⟨y,hy,hys⟩;rw[HX.o]at hy;injection hy with hy;exact he (by rw[hy];exact hys)
       . exact G'.o j VH
      case measure=>simp[intOf]<;>omega
  . obtain rfl:k=cl.length:=by omega
    go_wp2
    go_ret
    exact⟨-1,rfl,.inl ⟨rfl,G'.o⟩,rfl⟩
def NS:Nat->List Cl->Int->Option Int
 | 0,_,c=>if c<0 then some 0 else none
 | f+1,cl,c=>if c<0 then some 0 else match cl[c.toNat]? with
  | none=>none
  | some x=>(NS f cl x.above).map (x.own+·)
theorem lu (f:Nat)(cl:List Cl)(c n:Int)(w:World)(B b:Nat)(vc:Value)(hl:cl.length<=12)(hc:c<100)(hown:∀x∈cl,0<=x.own/\x.own<=10/\x.above<100)(hf:f<=20)(hn:NS f cl c=some n)(h:RIm w B b vc cl):
 Calls prog 51 #[VG b,VI c] w λe w'=>e=.returned (VI n)/\w'=w:=by
 obtain⟨p,g,cap,rfl,hat⟩:=Qa h.own;have c0:=h.head;have HC:Hid _:=hat;have HO:Hid _:=hown;clear h hat hown;have HN:Hid _:=hn;clear hn;go_enter func51,ntmps51;go_wp2
 go_loopg [1,5] f (λgk cv nv wr=>∃(c' acc m:Int),cv=VI c'/\nv=VI acc/\NS gk cl c'=some m/\acc+m=n/\0<=acc/\acc<=10*(20-(gk:Int))/\gk<=20/\c'<100/\wr=w)
 case atStart=>exact⟨c,0,n,rfl,rfl,HN.o,VH,VH,VH,hf,hc,rfl⟩
 case round=>
  obtain⟨c',acc,m,rfl,rfl,hs,hm,ha0,ha0,aqf,hc',rfl⟩:=hrel;by_cases hneg:c'<0
  . have hm0:m=0:=by
     cases gk<;>(unfold NS at hs;rw[ZU hneg]at hs;injection hs with hs;exact hs.symm)
    subst hm0;clear hs;go_wp2
    go_ret
    exact⟨by rw[<- hm];simp,rfl⟩
  . cases gk with
    | zero=>unfold NS at hs;rw[ZX hneg]at hs;cases hs
    | succ gk=>
     unfold NS at hs;rw[ZX hneg]at hs;obtain⟨q,rfl⟩:=YP (by omega:0<=c');rw[Zp]at hs
     cases hx:cl[q]? with
     | none=>rw[hx]at hs;cases hs
     | some x=>
      rw[hx]at hs;simp only at hs
      cases hr:NS gk cl x.above with
      | none=>rw[hr]at hs;cases hs
      | some m'=>
       rw[hr]at hs;simp at hs;have hq:=(Z7.1 hx).1;have hxo:=HO.o x (ZK hx);obtain⟨ho0,ho0,hab⟩:=hxo;obtain rfl:p=some (VJ g 0):=HC.o.head VH;have d1:=HC.o.c1 q x hx;have d1:=HC.o.c2 q x hx;have HR:Hid _:=hr;clear hr hx;go_wp2
       go_roundg gk
       case measure=>omega
       case rel=>exact⟨x.above,acc+x.own,m',rfl,rfl,HR.o,VH,VH,VH,VH,hab,rfl⟩
def ajv:List Cl:=[⟨⟨#[65,110,121]⟩,-1,0,.slice none 0 0⟩,⟨⟨#[73,110,116]⟩,0,0,.slice none 0 0⟩]
structure apZ (w w':World)(L:List Nat):Prop where
 os:w'.os=w.os
 tape:w'.tape=w.tape
 output:w'.output=w.output
 size:w.heap.size<=w'.heap.size
 block:∀k,k<w.heap.size->k ∉ L->w'.heap[k]?=w.heap[k]?
variable {w1 w2 : World}
theorem ng:(prog.info? 74).map (λi=>(i.zero,i.size,i.bytes))=some (some (.agg #[.string ⟨#[]⟩,VI 0,VI 0,.slice none 0 0]),4,56):=VE
theorem FP:(prog.info? 180).map (λi=>(i.zero,i.size,i.bytes))=some (some (.agg #[.string ⟨#[]⟩,.slice none 0 0]),2,40):=VE
theorem Nu {s:ByteArray}(h:selector (bl s)=true):3<=s.size/\s.size<=8/\48<=((bl s)[s.size-1]?.getD 0).toNat/\U6 (bl s)<=3:=by
 have ha:=Kw h;unfold selector at h;simp only[ZB,Zq]at h;obtain⟨⟨⟨⟨⟨h3,h8⟩,h47⟩,hd1⟩,hd2⟩,hall⟩:=h;rw[VB]at h3 h8 hd1;exact⟨h3,h8,hd1,ha⟩
def jD (w:World)(Q:Nat->Prop)(v:Value)(ms:List Mt):Prop:=∃p cap,v=.slice p ms.length cap/\(1<=ms.length->∃g,p=some (VJ g 0)/\Q g/\g<w.heap.size/\
 ∀i x,ms[i]?=some x->w.cell? (VJ g (i*2))=some (.string x.sel)/\∃q h c,w.cell? (VJ g (i*2+1))=some (.slice q x.ws.length c)/\pG w q h x.ws/\(1<=x.ws.length->Q h))
def abv:Option Nat->Int
 | none=>-1
 | some a=>(a:Nat)
structure Ri (w:World)(m:Im)(Q:Nat->Prop)(cl:List Cl):Prop where
 len:cl.length=m.kl.length
 rel:∀(c:Nat) (k:Kl) (x:Cl),m.kl[c]?=some k->cl[c]?=some x->x.name=k.name/\x.above=abv k.above/\x.own=(k.tot:Int)-((k.above.map m.tot).getD 0:Nat)/\jD w Q x.Om k.ms
def Uj (ob:Nat->Nat):Nat->List Ob->List Value
 | _,[]=>[]
 | i,o::r=>VI (o.cls:Nat)::.slice (some (VJ (ob i) 0)) o.slots.length o.slots.length::Uj ob (i+1) r
variable {m : Im}
theorem IsClass.cls {Q:Nat->Prop}{cl:List Cl}(h:Ri w m Q cl){s:ByteArray}{r:Int}(hr:IsClass cl s r):r=match m.cls s with
 | none=>-1
 | some c=>(c:Nat):=by
 have hname:∀i,i<m.kl.length->((∃x,cl[i]?=some x/\x.name=s)↔∃k,m.kl[i]?=some k/\k.name=s):=λi hi=>by
  obtain⟨k,hk⟩:∃k,m.kl[i]?=some k:=⟨_,Z8 hi⟩
  obtain⟨x,hx⟩:∃x,cl[i]?=some x:=⟨_,Z8 (by rw[h.len];exact hi)⟩
  have hn:=(h.rel i k x hk hx).1;constructor
  . rintro⟨y,hy,e⟩;rw[hx]at hy;injection hy with hy;exact⟨k,hk,by rw[<- hn,hy];exact e⟩
  . rintro⟨y,hy,e⟩;rw[hk]at hy;injection hy with hy;exact⟨x,hx,by rw[hn,hy];exact e⟩
 unfold Im.cls
 cases hc:m.kl.findIdx? (λk=>k.name==s) with
 | none=>
  rcases hr with⟨rfl,_⟩|⟨i,hi,rfl,hp,_⟩
  . rfl
  . rw[h.len]at hi;obtain⟨k,hk,e⟩:=(hname i hi).1 hp;have:=YI.1 hc k (ZK hk);rw[(SK _ _).2 e]at this;cases this
 | some c=>
  obtain⟨hlt,hpc,nQ⟩:=YZ.1 hc;have hpc:=(SK _ _).1 hpc;rcases hr with⟨rfl,hno⟩|⟨i,hi,rfl,hp,tS⟩
  . exact absurd ((hname c hlt).2 ⟨_,Z8 hlt,hpc⟩) (hno c (by rw[h.len];exact hlt))
  . rw[h.len]at hi;obtain⟨k,hk,e⟩:=(hname i hi).1 hp;rcases Xg i c with hh|hh|hh
    . have:=nQ i hh;rw[Z8 hi]at hk;injection hk with hk;rw[hk]at this;exact absurd ((SK _ _).2 e) (by simpa using this)
    . rw[hh]
    . exact absurd ((hname c hlt).2 ⟨_,Z8 hlt,hpc⟩) (tS c hh)
theorem zJ {Q:Nat->Prop}{cl:List Cl}(hm:U3 m)(h:Ri w m Q cl){r:Nat->Nat}(hr:∀(c:Nat) (k:Kl) (a:Nat),m.kl[c]?=some k->k.above=some a->r a<r c):
 ∀(f c:Nat),c<m.kl.length->r c<f->NS f cl (c:Nat)=some (m.tot c:Nat)
 | 0,_,_,hf=>VH
 | f+1,c,hc,hf=>by
  obtain⟨k,hk⟩:∃k,m.kl[c]?=some k:=⟨_,Z8 hc⟩
  obtain⟨x,hx⟩:∃x,cl[c]?=some x:=⟨_,Z8 agG⟩
  obtain⟨_,h2,h3,_⟩:=h.rel c k x hk hx;have ht:m.tot c=k.tot:=by unfold Im.tot;rw[hk];rfl
  unfold NS;rw[ZX VH,Zp,hx];simp only
  cases ha:k.above with
  | none=>
   rw[ha]at h2 h3;have h0:NS f cl x.above=some 0:=by rw[h2];cases f<;>rfl
   rw[h0,ht,h3];simp
  | some a=>
   rw[ha]at h2 h3
   have hc0:c≠0:=λe=>by
    obtain⟨ms,h0⟩:=hm.any;rw[e,h0]at hk;injection hk with hk;rw[<- hk]at ha;cases ha
   obtain⟨a',ha',hal,_⟩:=hm.up c k hk hc0;rw[ha]at ha';injection ha' with ha';subst ha';have ih:=zJ hm h hr f a hal (by have:=hr c k a hk ha;omega);rw[h2];simp only[abv];rw[ih,ht,h3];simp
theorem aan {Q:Nat->Prop}{cl:List Cl}(hm:U3 m)(h:Ri w m Q cl):∀x∈cl,0<=x.own/\x.own<=10/\x.above<100:=λx hx=>by
 refine aix ?_;intro c hc hl k hk;obtain⟨_,h2,h3,_⟩:=h.rel c k x hk hc;have ht:=hm.tot c k hk;have hf:=hm.few;rw[h2,h3];by_cases hc0:c=0
 . obtain⟨ms,h0⟩:=hm.any;rw[hc0,h0]at hk;injection hk with hk;rw[<- hk];simp[abv]
 . obtain⟨a,ha,hal,hle⟩:=hm.up c k hk hc0;rw[ha];simp[abv];omega
theorem uh {Q:Nat->Prop}{cl:List Cl}(hm:U3 m)(h:Ri w m Q cl):∀x∈cl,x.name.size<=100:=λx hx=>by
 refine aix ?_;intro c hc hl k hk;rw[(h.rel c k x hk hc).1];have:=hm.names c k hk;unfold className at this;simp only[ZB,Zq]at this;have h6:(bl k.name).length<=6:=VH;rw[VB]at h6;omega
def Qh:Option Nat->Int
 | none=>-1
 | some c=>(c:Nat)
theorem BK {Q:Nat->Prop}{cl:List Cl}{B b:Nat}{vc:Value}(hm:U3 m)(hr:RIm w B b vc cl)(h:Ri w m Q cl)(s:ByteArray):
 Calls prog 93 #[VG b,.string s] w λe w'=>e=.returned (VI (Qh (m.cls s)))/\w'=w:=
 (nZ cl s w B b vc (uh hm h) (by rw[h.len];exact hm.few) hr).mono λe w' ⟨r,h1,h2,h3⟩=>⟨by rw[h1,h2.cls h];cases m.cls s<;>rfl,h3⟩
theorem abe {Q:Nat->Prop}{cl:List Cl}{B b:Nat}{vc:Value}(hm:U3 m)(hr:RIm w B b vc cl)(h:Ri w m Q cl)(c:Nat)(hc:c<m.kl.length):
 Calls prog 51 #[VG b,VI (c:Nat)] w λe w'=>e=.returned (VI (m.tot c:Nat))/\w'=w:=by
 obtain⟨r,h1,h2⟩:=hm.rank;have hf:=hm.few;exact lu 13 cl c _ w B b vc (by rw[h.len];exact hm.few) VH (aan hm h) VH (zJ hm h h2 13 c hc (by have:=h1 c;omega)) hr
def A8 (ms:List Mt)(sel:ByteArray):Int:=match ms.findIdx? (λx=>x.sel==sel) with
 | none=>-1
 | some i=>(i:Nat)
theorem kJ {Q:Nat->Prop}{cl:List Cl}{B b:Nat}{vc:Value}(hm:U3 m)(hr:RIm w B b vc cl)(h:Ri w m Q cl){c:Nat}{k:Kl}(hk:m.kl[c]?=some k)(sel:ByteArray)(hl:k.ms.length<=1600000000):
 Calls prog 96 #[VG b,VI (c:Nat),.string sel] w λe w'=>e=.returned (VI (A8 k.ms sel))/\w'=w:=by
 have hc:=(Z7.1 hk).1
 obtain⟨x,hx⟩:∃x,cl[c]?=some x:=⟨_,Z8 agG⟩
 obtain⟨_,_,_,mp,RM,hmv,R2⟩:=h.rel c k x hk hx;obtain⟨p,g,cap,rfl,hat⟩:=Qa hr.own;obtain rfl:p=some (VJ g 0):=hat.head eP;have c0:=hr.head;have c0:=hat.c3 c x hx;rw[hmv]at c0;have hcl:(c:Int)<(cl.length:Int):=eP;have HM:Hid _:=R2;obtain⟨n,hn⟩:∃n,n=k.ms.length:=Vx;have HN:Hid _:=hn;rw[<- hn]at c0 hl;clear hr h hat R2 hmv hx hk hm hn;go_enter func96,ntmps96;go_wp2
 go_loopw [7] (λi wr=>∃j:Nat,i=VI j/\j<=n/\(∀i x,i<j->k.ms[i]?=some x->¬x.sel=sel)/\wr=w) (λi _=>n-(intOf i).toNat)
 case atStart=>exact⟨0,rfl,VH,λi x hi=>VH,rfl⟩
 case round=>
  obtain⟨j,rfl,hj,hno,rfl⟩:=hrel;have G':Hid _:=hno;clear hno;by_cases hjn:j<n
  . obtain⟨y,hy⟩:∃y,k.ms[j]?=some y:=⟨_,Z8 agI⟩
    obtain⟨mg,rfl,_,_,hget⟩:=HM.o aeV;obtain⟨d0,_⟩:=hget j y hy;have HY:Hid _:=hy;clear hget hy;by_cases he:y.sel=sel
    . go_wp2
      go_ret
      refine⟨?_,rfl⟩
      have hfi:k.ms.findIdx? (λx=>x.sel==sel)=some j:=by
       obtain⟨hjl,hjy⟩:=Z7.1 HY.o;refine YZ.2 ⟨hjl,?_,λi hi=>?_⟩
       . rw[hjy];exact(SK _ _).2 he
       . have:=G'.o i _ hi (Z8 VH);simpa using(Vf _ _).2 this
      unfold A8;rw[hfi];rfl
    . have te:=yt he;go_wp2
      go_roundw
      case rel=>
       refine⟨j+1,Uu,VH,λi x hi hx=>?_,sK⟩;by_cases e:i=j
       . subst e;have:=HY.o.symm.trans hx;injection this with this;rw[<- this];exact he
       . exact G'.o i x VH hx
      case measure=>simp[intOf]<;>omega
  . obtain rfl:j=n:=by omega
    go_wp2
    go_ret
    refine⟨?_,rfl⟩
    have hfi:k.ms.findIdx? (λx=>x.sel==sel)=none:=by
     refine YI.2 λx hx=>?_;obtain⟨i,hi⟩:=Yd hx;exact(Vf _ _).2 (G'.o i x (by have:=(Z7.1 hi).1;rw[HN.o];exact this) hi)
    unfold A8;rw[hfi];rfl
theorem BA {k:Kl}{sel:ByteArray}:(0<=A8 k.ms sel)↔(k.own sel).isSome=true:=by
 unfold A8 Kl.own
 cases hf:k.ms.findIdx? (λx=>x.sel==sel) with
 | none=>
  have:k.ms.find? (λx=>x.sel==sel)=none:=Xp.2 λx hx=>by
   have:=YI.1 hf x hx;simp[this]
  simp[this]
 | some i=>
  have:(k.ms.find? (λx=>x.sel==sel)).isSome=true:=by
   obtain⟨hl,hp,_⟩:=YZ.1 hf;rw[List.find?_isSome];exact⟨_,V9 hl,hp⟩
  simp[this]
theorem agk {Q:Nat->Prop}{cl:List Cl}{B b:Nat}{vc:Value}(hm:U3 m)(hr:RIm w B b vc cl)(h:Ri w m Q cl)(c:Option Nat)(hc:∀x,c=some x->x<m.kl.length)(sel:ByteArray)(hl:∀(c:Nat) (k:Kl),m.kl[c]?=some k->k.ms.length<=1600000000):
 Calls prog 95 #[VG b,VI (Qh c),.string sel] w λe w'=>e=.returned (VI (Qh ((m.find sel c).map (·.1))))/\w'=w:=by
 obtain⟨rk,hr1,hr2⟩:=hm.rank
 have HI:Hid (U3 m/\RIm w B b vc cl/\Ri w m Q cl/\(∀(c:Nat) (k:Kl),m.kl[c]?=some k->k.ms.length<=1600000000)):=⟨hm,hr,h,hl⟩
 obtain⟨p,g,cap,I6,hat⟩:=Qa hr.own;have c0:=hr.head;rw[I6]at c0;have hp:=hat.head (by rw[h.len];have:=hm.two;omega);subst hp;have vR:Hid _:=hat;have HL:=UQ h.len;have HC:Hid _:=hc;clear hr h hat hm hl I6 hc;go_enter func95,ntmps95;go_wp2
 go_loopg [1] (m.kl.length+1) (λgk cv wr=>∃d:Option Nat,cv=VI (Qh d)/\(∀x,d=some x->x<m.kl.length)/\m.up sel gk d=m.find sel c/\(∀x,d=some x->rk x<gk)/\wr=w)
 case atStart=>exact⟨c,rfl,HC.o,rfl,λx _=>agw,rfl⟩
 case round=>
  obtain⟨d,rfl,hd,hup,Pc,rfl⟩:=hrel
  cases d with
  | none=>
   have hfn:m.find sel c=none:=by rw[<- hup];cases gk<;>rfl
   have xm:Hid _:=hfn;simp only[Qh];clear hup Pc hd hfn;go_wp2
   go_ret
   exact⟨by rw[xm.o];rfl,rfl⟩
  | some x=>
   have hx:=hd x rfl
   obtain⟨k,hk⟩:∃k,m.kl[x]?=some k:=⟨_,Z8 hx⟩
   obtain⟨y,hy⟩:∃y,cl[x]?=some y:=⟨_,Z8 (by rw[HL.o];exact hx)⟩
   obtain⟨gj,rfl⟩:∃gj,gk=gj+1:=⟨gk-1,by have:=Pc x rfl;omega⟩
   have hown:=kJ HI.o.1 HI.o.2.1 HI.o.2.2.1 hk sel (HI.o.2.2.2 x k hk);have d1:=vR.o.c1 x y hy;have hab:=(HI.o.2.2.1.rel x k y hk hy).2.1;rw[hab]at d1
   have hu:m.up sel (gj+1) (some x)=match k.own sel with
    | some ws=>some (x,ws)
    | none=>m.up sel gj k.above:=by
    show (match m.own x sel with
     | some ws=>some (x,ws)
     | none=>m.up sel gj (m.kl[x]?.bind (·.above)))=_
    unfold Im.own;rw[hk];rfl
   rw[hu]at hup;have hxi:(x:Int)<(cl.length:Int):=by rw[HL.o];omega
   have HK:Hid (m.kl[x]?=some k/\rk x<gj+1):=⟨hk,Pc x rfl⟩
   have ho:=BA (k:=k) (sel:=sel);simp only[Qh];clear hd Pc hk hy hab hu
   cases hws:k.own sel with
   | some ws=>
    rw[hws]at ho hup;have ho0:=ho.2 rfl;have xm:Hid (m.find sel c=some (x,ws)):=hup.symm;clear ho hup hws;go_wp2_with fail;refine hown.mono ?_;rintro e w1 ⟨rfl,rfl⟩;go_wp2
    go_ret
    exact⟨by rw[xm.o];rfl,rfl⟩
   | none=>
    rw[hws]at ho hup;have ho0:¬0<=A8 k.ms sel:=λe=>alx;have HU:Hid _:=hup;clear ho hup hws;go_wp2_with fail;refine hown.mono ?_;rintro e w1 ⟨rfl,rfl⟩;go_wp2
    go_roundg gj
    case measure=>omega
    case rel=>
     refine⟨k.above,?_,λa ha=>?_,HU.o,λa ha=>?_,?_⟩
     . cases k.above<;>rfl
     . by_cases h0:x=0
       . obtain⟨ms,hm0⟩:=HI.o.1.any;have:=HK.o.1;rw[h0,hm0]at this;injection this with this;rw[<- this]at ha;cases ha
       . obtain⟨a',ha',hal,_⟩:=HI.o.1.up x k HK.o.1 h0;rw[ha]at ha';exact acv
     . have:=hr2 x k a HK.o.1 ha;have:=HK.o.2;omega
     . first|rfl|trivial
theorem eY {Q:Nat->Prop}{cl:List Cl}{B b:Nat}{vc:Value}(hm:U3 m)(hr:RIm w B b vc cl)(h:Ri w m Q cl)(s:ByteArray):
 Calls prog 50 #[VG b,.string s] w λe w'=>e=.returned (VI (Qh (m.made s)))/\w'=w:=by
 have hc:=BK hm hr h s
 have HE:Hid (Qh (m.made s)=if Qh (m.cls s)=1 then -1 else Qh (m.cls s)):=by
  have hx:Qh (m.made s)=if Qh (m.cls s)=1 then -1 else Qh (m.cls s):=by
   unfold Im.made
   cases m.cls s with
   | none=>rfl
   | some c=>
    by_cases e:c=1
    . subst e;rfl
    . rw[ZX (by simp only[Qh];omega)];split
      . rename_i h1;injection h1 with h1;exact absurd h1 e
      . rfl
  exact hx
 obtain⟨n,hn⟩:∃n,n=Qh (m.cls s):=Vx;rw[<- hn]at hc HE;clear hr h hm hn;by_cases h1:n=1
 . subst h1;go_enter func50,ntmps50;go_wp2_with fail;refine hc.mono ?_;rintro e w1 ⟨rfl,rfl⟩;go_wp2
   go_ret
   exact⟨by rw[HE.o];rfl,rfl⟩
 . have HN:=UQ h1;go_enter func50,ntmps50;go_wp2_with fail;refine hc.mono ?_;rintro e w1 ⟨rfl,rfl⟩;go_wp2
   go_ret
   exact⟨by rw[HE.o,ZX HN.o];rfl,rfl⟩
theorem acy {b:Nat}{p:Option Addr}{n cap:Nat}(hn:n<=40)(h1:w.cell? (VJ b 1)=some (.slice p n cap))(hl:b<w.heap.size)(o:Int):
 Calls prog 53 #[VG b,VI o] w λe w'=>e=.returned (.bool (decide (0<=o)&&decide (o<(n:Int))))/\w'=w:=by
 by_cases h0:0<=o
 . go_enter func53,ntmps53;go_wp2
   go_ret
   exact⟨by simp[h0],rfl⟩
 . go_enter func53,ntmps53;go_wp2
   go_ret
   exact⟨by rw[XQ (by omega:¬0<=o)];rfl,rfl⟩
end Go.Proofs.Rz
namespace Kn
open Go
def UJ {α:Type}(ab:Nat->Option Nat)(ow:Nat->Option α):Nat->Option Nat->Option (Nat×α)
 | 0,_=>none
 | _+1,none=>none
 | f+1,some c=>match ow c with
  | some x=>some (c,x)
  | none=>UJ ab ow f (ab c)
inductive Up (ab:Nat->Option Nat):Nat->Nat->Prop
 | refl (c:Nat):Up ab c c
 | step {c a d:Nat}:ab c=some a->Up ab a d->Up ab c d
theorem PI {α:Type}{ab:Nat->Option Nat}{ow:Nat->Option α}:∀(f c d:Nat) (x:α),UJ ab ow f (some c)=some (d,x)->Up ab c d/\ow d=some x
 | 0,_,_,_,h=>MO
 | f+1,c,d,x,h=>by
  unfold UJ at h
  cases ho:ow c with
  | some y=>
   rw[ho]at h;injection h with h;injection h with h1 h2;subst h1 h2;exact⟨.refl _,ho⟩
  | none=>
   rw[ho]at h;simp only at h
   cases ha:ab c with
   | none=>rw[ha]at h;cases f<;>cases h
   | some a=>
    rw[ha]at h;obtain⟨h1,h2⟩:=PI f a d x h;exact⟨.step ha h1,h2⟩
def aeN {α:Type}(ab:Nat->Option Nat)(c0 c:Nat)(r:Option (Nat×α)):Prop:=Up ab c c0/\∀d x,r=some (d,x)->Up ab c0 d
theorem uS {α:Type}{ab:Nat->Option Nat}{ow yo:Nat->Option α}{c0:Nat}(he:∀c,c≠c0->yo c=ow c):∀(f c:Nat),(∀F,f<=F->¬aeN ab c0 c (UJ ab ow f (some c)))->UJ ab yo f (some c)=UJ ab ow f (some c)
 | 0,_,_=>rfl
 | f+1,c,h=>by
  by_cases e:c=c0
  . subst e;exact absurd ⟨.refl _,λd x hd=>(PI _ _ _ _ hd).1⟩ (h (f+1) UM)
  . have hu:∀o:Nat->Option α,UJ ab o (f+1) (some c)=match o c with
     | some x=>some (c,x)
     | none=>UJ ab o f (ab c):=λ_=>rfl
    rw[hu yo,hu ow,he c e]
    cases ho:ow c with
    | some y=>rfl
    | none=>
     simp only
     cases ha:ab c with
     | none=>cases f<;>rfl
     | some a=>
      refine uS he f a (λF hF hc=>h (f+1) UM ?_);rw[hu ow,ho];simp only;rw[ha];exact⟨.step ha hc.1,hc.2⟩
theorem rY {α:Type}{ab yz:Nat->Option Nat}{ow:Nat->Option α}{c0:Nat}(he:∀c,c≠c0->yz c=ab c):∀(f c:Nat),¬(aeN ab c0 c (UJ ab ow f (some c))/\∀x,UJ ab ow f (some c)≠some (c0,x))->UJ yz ow f (some c)=UJ ab ow f (some c)
 | 0,_,_=>rfl
 | f+1,c,h=>by
  have hu:∀b:Nat->Option Nat,UJ b ow (f+1) (some c)=match ow c with
   | some x=>some (c,x)
   | none=>UJ b ow f (b c):=λ_=>rfl
  rw[hu yz,hu ab]
  cases ho:ow c with
  | some y=>rfl
  | none=>
   simp only;by_cases e:c=c0
   . subst e;refine absurd ⟨⟨.refl _,λd x hd=>(PI _ _ _ _ hd).1⟩,λx hx=>?_⟩ h;have:=(PI _ _ _ _ hx).2;rw[ho]at this;cases this
   . rw[he c e]
     cases ha:ab c with
     | none=>cases f<;>rfl
     | some a=>
      refine rY he f a (λhc=>h ?_);rw[hu ab,ho];simp only;rw[ha];exact⟨⟨.step ha hc.1.1,hc.1.2⟩,hc.2⟩
theorem DC {α:Type}{ab:Nat->Option Nat}{ow:Nat->Option α}{r:Nat->Nat}(hr:∀c a,ab c=some a->r a<r c):∀(f g c:Nat),r c<f->r c<g->UJ ab ow f (some c)=UJ ab ow g (some c)
 | 0,_,_,h,_=>VH
 | _+1,0,_,_,h=>VH
 | f+1,g+1,c,h1,h2=>by
  have hu:∀n,UJ ab ow (n+1) (some c)=match ow c with
   | some x=>some (c,x)
   | none=>UJ ab ow n (ab c):=λ_=>rfl
  rw[hu f,hu g]
  cases ho:ow c with
  | some y=>rfl
  | none=>
   simp only
   cases ha:ab c with
   | none=>cases f<;>cases g<;>rfl
   | some a=>
    have:=hr c a ha;exact DC hr f g a VH VH
theorem Ja {α:Type}(ab:Nat->Option Nat)(ow:Nat->Option α)(f:Nat):UJ ab ow f none=none:=by cases f<;>rfl
theorem yR {α β:Type}(g:α->β)(ab:Nat->Option Nat)(ow:Nat->Option α):∀(f:Nat) (c:Option Nat),UJ ab (λc=>(ow c).map g) f c=(UJ ab ow f c).map (λp=>(p.1,g p.2))
 | 0,_=>rfl
 | f+1,none=>rfl
 | f+1,some c=>by
  unfold UJ
  cases ho:ow c with
  | some y=>rfl
  | none=>simp only[Zm];exact yR g ab ow f (ab c)
def Im.ab (m:Im)(c:Nat):Option Nat:=m.kl[c]?.bind (·.above)
theorem qB (m:Im)(sel:ByteArray):∀(f:Nat) (c:Option Nat),m.up sel f c=UJ m.ab (λc=>m.own c sel) f c
 | 0,_=>rfl
 | f+1,none=>rfl
 | f+1,some c=>by
  unfold Im.up UJ
  cases ho:m.own c sel with
  | some ws=>rfl
  | none=>simp only;exact qB m sel f _
theorem Jf (m:Im)(sel:ByteArray)(c:Option Nat):m.find sel c=UJ m.ab (λc=>m.own c sel) (m.kl.length+1) c:=qB m sel _ c
variable {m : Im}
theorem rU {d:Nat}:∀(f c:Nat),m.under d f (some c)=true->Up m.ab c d
 | 0,_,h=>MO
 | f+1,c,h=>by
  unfold Im.under at h;rw[WU,YB]at h;rcases h with h|h
  . subst h;exact .refl _
  . cases ha:m.ab c with
    | none=>unfold Im.ab at ha;rw[ha]at h;cases f<;>cases h
    | some a=>have ha':=ha;unfold Im.ab at ha;rw[ha]at h;exact .step ha' (rU f a h)
theorem vC {d:Nat}{r:Nat->Nat}(hr:∀c a,m.ab c=some a->r a<r c):∀(f c:Nat),r c<f->Up m.ab c d->m.under d f (some c)=true
 | 0,_,h,_=>VH
 | f+1,c,h,hu=>by
  unfold Im.under;rw[WU,YB]
  cases hu with
  | refl=>exact .inl rfl
  | step ha hu=>
   refine .inr ?_;have:=hr c _ ha;have h2:=vC hr f _ VH hu;unfold Im.ab at ha;rw[ha];exact h2
theorem Io (h:U3 m):∃r:Nat->Nat,(∀c,r c<=m.kl.length)/\∀c a,m.ab c=some a->r a<r c:=by
 obtain⟨r,h1,h2⟩:=h.rank;refine⟨r,h1,λc a ha=>?_⟩;unfold Im.ab at ha
 cases hk:m.kl[c]? with
 | none=>rw[hk]at ha;cases ha
 | some k=>rw[hk]at ha;exact h2 c k a hk ha
theorem KA (h:U3 m)(c d:Nat):m.under d (m.kl.length+1) (some c)=true↔Up m.ab c d:=by
 obtain⟨r,h1,h2⟩:=Io h;exact⟨rU _ _,vC h2 _ _ (by have:=h1 c;omega)⟩
end Kn
namespace Go.Proofs.Rz
open ChangeShapes WideShapes ChangeAt RowKit Kn Iz Tryz
structure Cls (w:World)(m:Im)(cb cm:Nat->Nat):Prop where
 at_:∀c k,m.kl[c]?=some k->w.heap[cb c]?=some (.cells #[.string k.name,VI (c:Nat),.pointer (Vq (k.above.map cb)),VI (k.tot:Nat),.map (some (cm c))] 101)
 inj:∀c d,c<m.kl.length->d<m.kl.length->cb c=cb d->c=d
variable {w : World}
variable {m : Im}
theorem Cls.Vb {cb cm:Nat->Nat}(h:Cls w m cb cm){c:Nat}(hc:c<m.kl.length):UL w (cb c):=⟨_,_,h.at_ c _ (Z8 hc)⟩
variable {w' : World}
theorem Cls.same {cb cm:Nat->Nat}(h:Cls w m cb cm)(hk:∀c,c<m.kl.length->w'.heap[cb c]?=w.heap[cb c]?):Cls w' m cb cm:=
 ⟨λc k hck=>(hk c (Z7.1 hck).1).trans (h.at_ c k hck),h.inj⟩
theorem Cls.above {cb cm:Nat->Nat}(h:Cls w m cb cm){c:Nat}(hc:c<m.kl.length):w.cell? (VJ (cb c) 2)=some (.pointer (Vq ((m.ab c).map cb))):=by
 have hx:=Z8 hc;have:=h.at_ c _ hx;refine FK ?_;unfold Im.ab;rw[hx];rfl
theorem CS (h:U3 m){c a:Nat}(ha:m.ab c=some a):a<m.kl.length:=by
 unfold Im.ab at ha
 cases hk:m.kl[c]? with
 | none=>rw[hk]at ha;cases ha
 | some k=>
  rw[hk]at ha;have ha':k.above=some a:=ha
  have hc0:c≠0:=λe=>by
   subst e;obtain⟨ms,hm⟩:=h.any;rw[hm]at hk;injection hk with hk;rw[<- hk]at ha';cases ha'
  obtain⟨a',e1,e2,_⟩:=h.up c k hk hc0;rw[ha']at e1;injection e1 with e1;omega
theorem ae7 {p q:Nat}(hp:UL w p)(hq:UL w q):(binOp .eql 57 (VG p) (VG q)).run prog w=.ok (.bool (decide (p=q))) w:=by
 have hs:=BF
 cases hi:prog.info? 101 with
 | none=>rw[hi]at hs;cases hs
 | some i=>
  exact amy
theorem J9 (m:Im)(cb cm:Nat->Nat)(c:Option Nat)(d:Nat)(w:World)(hm:U3 m)(hw:Cls w m cb cm)(hc:∀x,c=some x->x<m.kl.length)(hd:d<m.kl.length):
 Calls prog 65 #[.pointer (Vq (c.map cb)),VG (cb d)] w λe w'=>e=.returned (.bool (m.under d (m.kl.length+1) c))/\w'=w:=by
 obtain⟨r,hr1,hr2⟩:=Io hm;obtain⟨b,hb⟩:∃b,m.under d (m.kl.length+1) c=b:=Vx;rw[hb];have HB:Hid _:=hb;have HW:Hid _:=hw;have HM:Hid _:=hm;clear hb hw hm;go_enter func65,ntmps65;go_wp2
 go_loopg [0] (m.kl.length+1) (λgk v wr=>∃e:Option Nat,v=.pointer (Vq (e.map cb))/\(∀x,e=some x->x<m.kl.length/\r x<gk)/\m.under d gk e=b/\wr=w)
 case atStart=>exact⟨c,rfl,λx hx=>⟨hc x hx,agw⟩,HB.o,rfl⟩
 case round=>
  obtain⟨e,rfl,he,hu,rfl⟩:=hrel
  cases e with
  | none=>
   have pB:b=false:=by rw[<- hu];cases gk<;>rfl
   subst pB;simp only[Zm,Vq];clear hu he;go_wp2
   go_ret
   exact KP
  | some x=>
   obtain⟨hx,hrx⟩:=he x rfl
   obtain⟨g,rfl⟩:∃g,gk=g+1:=⟨gk-1,VH⟩
   have heq:=ae7 (HW.o.Vb hx) (HW.o.Vb hd);have hab:=HW.o.above hx;have hu':(decide (x=d)||m.under d g (m.ab x))=b:=hu;simp only[ZG,Vq]at *;by_cases e1:x=d
   . subst e1;have Mf:b=true:=by rw[<- hu'];simp
     subst Mf;rw[show decide (cb x=cb x)=true from Vy]at heq;clear hu hu' he;go_wp2
     go_ret
     exact KP
   . have hne:¬cb x=cb d:=λe=>e1 (HW.o.inj x d hx hd e);rw[show decide (cb x=cb d)=false from by simp[hne]]at heq
     have HU:Hid (m.under d g (m.ab x)=b):=by
      have hx1:m.under d g (m.ab x)=b:=by rw[<- hu'];simp[e1]
      exact hx1
     clear hu hu' he hne e1;go_wp2
     go_roundg g
     case measure=>omega
     case rel=>
      exact⟨m.ab x,by simp[Vq],λy hy=>⟨CS HM.o hy,by have:=hr2 x y hy;omega⟩,HU.o,rfl⟩
structure akV (m:Im)(cb:Nat->Nat)(r:U1):Prop where
 fr:∃c,c<m.kl.length/\r.fr=some (VJ (cb c) 0)
 hm:∃d:Option Nat,(∀x,d=some x->x<m.kl.length)/\r.hm=Vq (d.map cb)
def abL (m:Im)(cb:Nat->Nat)(c0:Nat)(r:U1):Prop:=∃c d,c<m.kl.length/\(∀x,d=some x->x<m.kl.length)/\r.fr=some (VJ (cb c) 0)/\r.hm=Vq (d.map cb)/\Up m.ab c c0/\∀x,d=some x->Up m.ab c0 x
def upTo (m:Im)(c0:Nat):Option Nat->Bool
 | none=>true
 | some x=>m.under x (m.kl.length+1) (some c0)
noncomputable def Hg (m:Im) (cb:Nat->Nat) (c0:Nat) (r:U1):Bool:=@decide (abL m cb c0 r) (Classical.propDecidable _)
theorem jW (m:Im)(cb cm:Nat->Nat)(c0:Nat)(r:U1)(w:World)(hm:U3 m)(hw:Cls w m cb cm)(hr:akV m cb r\/r=noRow)(hc0:c0<m.kl.length):
 Calls prog 104 #[r.val,VG (cb c0)] w λe w'=>e=.returned (.bool (Hg m cb c0 r))/\Below w.heap.size w w':=by
 obtain⟨v,hv⟩:∃v,Hg m cb c0 r=v:=Vx;rw[hv];have HV:Hid _:=hv;clear hv
 obtain⟨c,d,hc,hd,hfr,Ga⟩:∃c d:Option Nat,(∀x,c=some x->x<m.kl.length)/\(∀x,d=some x->x<m.kl.length)/\r.fr=Vq (c.map cb)/\r.hm=Vq (d.map cb):=by
  rcases hr with h|rfl
  . obtain⟨c,hc,hfr⟩:=h.fr;obtain⟨d,hd,Ga⟩:=h.hm;exact⟨some c,d,λx hx=>by injection hx with hx;omega,hd,hfr,Ga⟩
  . exact⟨none,none,λx hx=>(by cases hx),λx hx=>(by cases hx),rfl,rfl⟩
 have hcon:v=(m.under c0 (m.kl.length+1) c&&upTo m c0 d):=by
  rw[<- HV.o]
  have hcb:∀(x y:Option Nat),(∀z,x=some z->z<m.kl.length)->(∀z,y=some z->z<m.kl.length)->Vq (x.map cb)=Vq (y.map cb)->x=y:=by
   intro x y hx hy e
   cases x with
   | none=>cases y with
    | none=>rfl
    | some b=>simp[Vq]at e
   | some a=>cases y with
    | none=>simp[Vq]at e
    | some b=>
     simp[Vq]at e;rw[hw.inj a b (hx a rfl) (hy b rfl) e]
  unfold Hg
  cases hb:(m.under c0 (m.kl.length+1) c&&upTo m c0 d) with
  | true=>
   rw[ZB]at hb;refine @Xh _ (Classical.propDecidable _) ?_
   cases c with
   | none=>exact absurd hb.1 (by simp[Im.under])
   | some cc=>
    refine⟨cc,d,hc cc rfl,hd,hfr,Ga,(KA hm cc c0).1 hb.1,λx hx=>?_⟩;have h2:=hb.2;rw[hx]at h2;exact(KA hm c0 x).1 h2
  | false=>
   refine @XQ _ (Classical.propDecidable _) ?_;rintro⟨cc,dd,hcc,hdd,hf,hh,hu1,hu2⟩;have e1:=hcb c (some cc) hc (λz hz=>by injection hz with hz;omega) (hfr.symm.trans hf);have e2:=hcb d dd hd hdd (Ga.symm.trans hh);subst e1 e2;have h1:=(KA hm cc c0).2 hu1;rw[h1,Wp]at hb
   cases d with
   | none=>simp[upTo]at hb
   | some x=>
    have h2:=(KA hm c0 x).2 (hu2 x rfl);simp only[upTo]at hb;rw[h2]at hb;cases hb
 clear HV;unfold U1.val;rw[hfr,Ga]
 cases d with
 | none=>
  have hw1:Cls (w.alloc (.cells #[.pointer (Vq (c.map cb)),.string r.sel,.pointer none,.pointer r.mt] 64)) m cb cm:=hw.same (λx hx=>ZV w _ _ (hw.Vb hx).lt);have hcall:=J9 m cb cm c c0 _ hm hw1 hc hc0;simp only[upTo,Bool.and_true]at hcon;rw[<- hcon]at hcall;rw[show Vq ((none:Option Nat).map cb)=none from rfl];clear hcon hw1 hw hfr Ga hr hc hd hm;revert hcall;generalize Vq (c.map cb)=pf;intro hcall;cases v
  all_goals
   go_enter func104,ntmps104;go_wp2_with fail;refine hcall.mono ?_;rintro e w1 ⟨rfl,rfl⟩;clear hcall;go_wp2
   go_ret
   exact zt6
 | some x=>
  have hw1:Cls (w.alloc (.cells #[.pointer (Vq (c.map cb)),.string r.sel,VG (cb x),.pointer r.mt] 64)) m cb cm:=hw.same (λx hx=>ZV w _ _ (hw.Vb hx).lt);have hcall:=J9 m cb cm c c0 _ hm hw1 hc hc0;have O_:=J9 m cb cm (some c0) x _ hm hw1 (λy hy=>by injection hy with hy;omega) (hd x rfl);rw[show Vq ((some x:Option Nat).map cb)=some (VJ (cb x) 0) from rfl];rw[show Vq ((some c0:Option Nat).map cb)=some (VJ (cb c0) 0) from rfl]at O_;simp only[upTo]at hcon;obtain⟨b1,hb1⟩:∃b1,m.under c0 (m.kl.length+1) c=b1:=Vx;obtain⟨b2,hb2⟩:∃b2,m.under x (m.kl.length+1) (some c0)=b2:=Vx;rw[hb1]at hcall hcon;rw[hb2]at O_ hcon;subst hcon;clear hw1 hw hfr Ga hr hc hd hm hb1 hb2;revert hcall O_;generalize Vq (c.map cb)=pf;generalize cb c0=q0;generalize cb x=qx;intro hcall O_;cases b1
  . clear O_;go_enter func104,ntmps104;go_wp2_with fail;refine hcall.mono ?_;rintro e w1 ⟨rfl,rfl⟩;clear hcall;go_wp2
    go_ret
    exact zt6
  . go_enter func104,ntmps104;go_wp2_with fail;refine hcall.mono ?_;rintro e w1 ⟨rfl,rfl⟩;clear hcall;go_wp2_with fail;refine O_.mono ?_;rintro e w1 ⟨rfl,rfl⟩;clear O_;go_wp2
    go_ret
    exact⟨bF,(ZR _ _).alloc UM _⟩
variable {bd : Nat}
theorem vY (v:Value)(w:World):Calls prog 105 #[.map none,v] w λe w'=>e=.returned (.tuple #[])/\Below w.heap.size w w':=by
 have hrg:=run_range_nilMap (P:=prog) w 138 _ _ underlying138;have hnx:=run_next_nilMap (P:=prog) w 0 0 0 #[];go_enter func105,ntmps105;go_wp2;refine wp_loop_rounds 1 ?_;rw[rounds_succ];go_wp2
 go_end0
 exact zt6
noncomputable def SI (m:Im) (cb:Nat->Nat) (c0:Nat) (sel:ByteArray) (r:U1):Bool:=decide (r.sel=sel)&&Hg m cb c0 r
def Nw (m:Im)(cb:Nat->Nat)(r:U1):Prop:=akV m cb r\/r=noRow
theorem ac9 (m:Im)(cb cm:Nat->Nat)(c0:Nat)(sel:ByteArray)(x y:Nat)(hm:U3 m)(hc0:c0<m.kl.length):
 Ih 113 #[VG x,VG y] (SI m cb c0 sel) (λW=>W.cell? (VJ x 0)=some (.string sel)/\W.cell? (VJ y 0)=some ((VG (cb c0)))/\Cls W m cb cm) (Nw m cb):=by
 refine⟨λargs W=>lK,λW r hW hr=>?_⟩;obtain⟨hx,hy,hw⟩:=hW;have hxl:=ZE W (VJ x 0) hx;have Fs:=ZE W (VJ y 0) hy;show Calls _ _ #[_,_,_] _ _;obtain⟨v,hv⟩:∃v,SI m cb c0 sel r=v:=Vx;rw[hv];by_cases he:r.sel=sel
 . have htl:r.sel.toList=sel.toList:=by rw[he]
   refine ajs ?_;intro hcall;have hvv:Hg m cb c0 r=v:=by rw[<- hv];simp[SI,he]
   rw[hvv]at hcall;unfold U1.val at hcall ⊢;clear hv hw hr hvv he;go_enter func113,ntmps113;go_wp2_with fail;refine hcall.mono ?_;rintro e w1 ⟨rfl,hb1⟩;have HB:=UQ alz;clear hb1 hcall;go_wp2
   go_ret
   exact agl
 . have hne:=IJ he;have vi:v=false:=by rw[<- hv];simp[SI,he]
   subst vi;unfold U1.val;clear hv hw hr he;go_enter func113,ntmps113;go_wp2
   go_ret
   exact zt6
theorem TK {w:World}{L:List (Nat×ByteArray)}{pm:Nat->Mm}{Sd:ByteArray->U1->Prop}(h:Sm bd w L pm Sd){k:Nat}{cs:Array Value}{t:TypeId}{fz:Nat×Nat}(hk:w.heap[k]?=some (.cells cs t fz))(h1:t≠198)(h2:t≠64):¬Vm L pm k:=by
 rintro⟨p,s,hps,e|e⟩
 . subst e;have:=h.at_ _ s hps;rw[hk]at this;injection this with this;injection this with _ this _;exact h1 this
 . obtain⟨cur,V_⟩:=h.Qz hps e;rw[hk]at V_;injection V_ with V_;injection V_ with _ V_ _;exact h2 V_
theorem TT {w:World}{L:List (Nat×ByteArray)}{pm:Nat->Mm}{Sd:ByteArray->U1->Prop}(h:Sm bd w L pm Sd){k:Nat}{es:Array MapEntry}{ck:Nat}(hk:w.heap[k]?=some (.map es ck)):¬Vm L pm k:=by
 rintro⟨p,s,hps,e|e⟩
 . subst e;have:=h.at_ _ s hps;rw[hk]at this;cases this
 . obtain⟨cur,V_⟩:=h.Qz hps e;rw[hk]at V_;cases V_
theorem pV (m:Im)(cb cm:Nat->Nat)(b c0 sb n:Nat)(cur:Array Value)(l:List (ByteArray×Value))(ps:Nat->List Nat)(R:Nat->U1)(L:List (Nat×ByteArray))(pm:Nat->Mm)(Sd:ByteArray->U1->Prop)(sel:ByteArray)(w:World)(hm:U3 m)(hc0:c0<m.kl.length)
 (S3:w.heap[b]?=some (.cells cur 70)) (hb:w.cell? (VJ b 5)=some (.map (some sb))) (hs:Ux w sb l ps) (ht:TabAt w b n R) (hcl:Cls w m cb cm) (hP:Sm bd w L pm Sd) (q_:∀s p,Reg l ps s p->(p,s)∈L)
 (hQ:∀s r,Sd s r->Nw m cb r) (hr:∀i,i<n->Nw m cb (R i)):
 Calls prog 84 #[VG b,VG (cb c0),.string sel] w λe w'=>e=.returned (.tuple #[])/\∃T_,Sm bd w' L T_ Sd/\(∀p,Reg l ps sel p->T_ p=(pm p).forget (SI m cb c0 sel))/\(∀p,¬Reg l ps sel p->T_ p=pm p)/\
  TabAt w' b n (λi=>if i<n/\SI m cb c0 sel (R i)=true then noRow else R i)/\Vt w w' (λk=>k=b\/Vm L pm k)/\UK w w' b:=by
 have hbl:=ht.Vb.lt;have Ww:=TK hP S3 Vz Vz
 have DE:∀c,c<m.kl.length->¬Vm L pm (cb c)/\cb c≠b:=λc hc=>by
  exact anY
 have Rr:∀k,Vm L pm k->k<w.heap.size:=by
  exact aoJ
 refine aiF ?_;intro HS HN;clear hs ht hcl hP q_ Ww DE Rr S3;go_enter func84,ntmps84;go_wp2_with fail;have hz0:((w.alloc (.cells #[VG (cb c0)] 57)).alloc (.cells #[.string sel] 9)).heap[w.heap.size]?=some (.cells #[VG (cb c0)] 57):=(ZV _ _ _ Vy).trans (Z4 w _).1
 have hz1:((w.alloc (.cells #[VG (cb c0)] 57)).alloc (.cells #[.string sel] 9)).heap[w.heap.size+1]?=some (.cells #[.string sel] 9):=by
  have:=(Z4 (w.alloc (.cells #[VG (cb c0)] 57)) (.cells #[.string sel] 9)).1;rw[ZJ]at this;exact this
 have hb0:((w.alloc (.cells #[VG (cb c0)] 57)).alloc (.cells #[.string sel] 9)).cell? (VJ b 5)=some (.map (some sb)):=UG;have US:Vt w ((w.alloc (.cells #[VG (cb c0)] 57)).alloc (.cells #[.string sel] 9)) (λ_=>False):=((Vt.refl w _).alloc _).alloc _;revert hz0 hz1 hb0 US;generalize (w.alloc (.cells #[VG (cb c0)] 57)).alloc (.cells #[.string sel] 9)=W0;intro hz0 hz1 hb0 US;have zl:=(Z5.1 hz1).1;have zc:W0.cell? (VJ (w.heap.size+1) 0)=some (.string sel):=by simp only[World.cell?,hz1];rfl
 have yc:W0.cell? (VJ w.heap.size 0)=some ((VG (cb c0))):=by simp only[World.cell?,hz0];rfl
 have hs0:=HS.o.1.Ut US EZ Nh aap;have pA:=HS.o.2.2.2.1.same (λk hk=>US.block k (HN.o.2.2 k hk) EZ)
 have H_:∀W,Vt W0 W (λk=>k=b\/Vm L pm k)->W.cell? (VJ (w.heap.size+1) 0)=some (.string sel)/\W.cell? (VJ w.heap.size 0)=some ((VG (cb c0)))/\Cls W m cb cm:=by
  intro W hW;have Z1:¬(w.heap.size+1=b\/Vm L pm (w.heap.size+1)):=λe=>aml;have hn0:¬(w.heap.size=b\/Vm L pm w.heap.size):=λe=>aml;refine⟨(Z9 (a:=(VJ (w.heap.size+1) 0)) (hW.block _ zl Z1)).trans zc,(Z9 (a:=(VJ w.heap.size 0)) (hW.block _ (show w.heap.size<W0.heap.size by omega) hn0)).trans yc,?_⟩;refine HS.o.2.2.1.same (λc hc=>?_);have hlt:=(HS.o.2.2.1.Vb hc).lt;exact(hW.block _ (ZY hlt US.size) (λe=>by rcases e with e|e;exact(HN.o.2.1 c hc).2 e;exact(HN.o.2.1 c hc).1 e)).trans (US.block _ hlt EZ)
 have c9:Hid _:=H_;refine ahO ?_;intro L0 Sb
 have NN:∀(w2:World) (T_:Nat->Mm),Sm bd w2 L T_ Sd->(∀p,Reg l ps sel p->T_ p=(pm p).forget (SI m cb c0 sel))->(∀p,¬Reg l ps sel p->T_ p=pm p)->Vt W0 w2 (Vm L pm)->
  Calls prog 71 #[.pointer (some (VJ b 6)),.func (.func 113) #[] #[VG (w.heap.size+1),VG w.heap.size]] w2 λe w'=>e=.returned (.tuple #[])/\∃T_,Sm bd w' L T_ Sd/\(∀p,Reg l ps sel p->T_ p=(pm p).forget (SI m cb c0 sel))/\(∀p,¬Reg l ps sel p->T_ p=pm p)/\
   TabAt w' b n (λi=>if i<n/\SI m cb c0 sel (R i)=true then noRow else R i)/\Vt w w' (λk=>k=b\/Vm L pm k)/\UK w w' b:=by
  intro w2 T_ Fu hf1 hf2 hc2;obtain⟨_,_,Mi,Sh⟩:=L0.o;have Sh:=Sh.same (hc2.block b Sb HN.o.1);refine(GX b n _ _ _ _ (Nw m cb) R w2 (ac9 m cb cm c0 sel (w.heap.size+1) w.heap.size hm hc0) hr (λW hW=>c9.o W ((hc2.mono lF).then hW jJ)) Sh).mono ?_;rintro e w3 ⟨rfl,Sh,hc3,hd3⟩
  have hblk:∀k,Vm L T_ k->Vm L pm k:=by
   rintro k ⟨p,s,hps,e|e⟩
   . exact lT
   . refine⟨p,s,hps,.inr ?_⟩;by_cases q_:Reg l ps sel p
     . rw[hf1 p q_]at e;rcases Mm.QH (SI m cb c0 sel) (pm p) with h|h
       . rw[h]at e;cases e
       . rw[h]at e;exact e
     . rw[hf2 p q_]at e;exact e
  refine⟨rfl,T_,Fu.same (λk hk=>hc3.block k ?_ (λe=>?_)),hf1,hf2,Sh,?_⟩
  . exact ZY (HN.o.2.2 k (hblk k hk)) (ZC Mi.size hc2.size)
  . subst e;exact HN.o.1 (hblk _ hk)
  . exact⟨((Mi.mono (λ_ _ h=>h.elim)).then hc2 lF).then hc3 jJ,(UK.of_block ((hc2.block b Sb HN.o.1).trans (Mi.block b hbl EZ))).trans hd3⟩
 have p8:Hid _:=NN;clear hz0 hz1 hs0 pA US H_ NN hb yc
 cases hl:l.lookup sel with
 | none=>
  refine ajA ?_;intro lk rz;clear hl;refine Uy ?_;refine ahP ?_;intro hHeld;refine zr4 ?_;refine Ur 6 ?_;refine Ul 5 λY_ Z_=>?_;refine Vg ?_;intro hHeld;clear Z_ Y_
  try refine UE ?_
  refine Ul 7 λY_ Z_=>?_;go_simp;refine(vY _ _).mono ?_;rintro e w2 ⟨rfl,hb2⟩;have hb3:=(hb2.cell (p:=(VJ b 5)) Sb).trans hb0;have fd:=(hb2.cell (p:=(VJ (w.heap.size+1) 0)) zl).trans zc
  try go_wp2_with fail
  refine Z_.go λhHeld=>?_;clear Z_ Y_;refine Um ?_;have MD:Hid (Vt W0 w2 (Vm L pm)):=(Vt.refl W0 _).drew.trans (Vt.of_below hb2 _);have htab:=p8.o w2 pm (L0.o.2.1.same (λk hk=>hb2.block k (ZY (HN.o.2.2 k hk) L0.o.2.2.1.size))) (λp h=>absurd h (rz.o p)) (λp _=>rfl) MD.o;clear hb2 hb0 zc lk;clear hHeld;clear hHeld;clear hHeld;go_wp2_with fail;refine htab.mono ?_;rintro e w3 ⟨rfl,hres⟩;go_wp2
  go_end0
  exact⟨rfl,hres⟩
 | some v=>
  obtain⟨ib,rfl,B_,_⟩:=L0.o.1.inn sel v hl;have lk:(Instr.lookup 56 (.map (some sb)) (.string sel) false).run prog W0.drew=.ok (.map (some ib)) W0.drew:=akt;have hcall:=Fb ib 113 #[VG (w.heap.size+1),VG w.heap.size] (ps ib) (SI m cb c0 sel) _ (Nw m cb) L pm Sd W0.drew (B_.same rfl) (λp hp=>⟨sel,HS.o.2.2.2.2 sel p ⟨ib,hl,hp⟩⟩) (L0.o.2.1.same Ji) (ac9 m cb cm c0 sel (w.heap.size+1) w.heap.size hm hc0) hQ (λW hW=>c9.o W ((Vt.refl W0 _).drew.then (hW.mono (λk _ e=>.inr e)) (λk _ e=>e)))
  have ii:Hid (∀p,Reg l ps sel p↔p∈ps ib):=by
   exact aoS
  have mH:¬Vm L pm (w.heap.size+1):=λe=>by have:=HN.o.2.2 _ e;omega
  have Ww:=HN.o.1;clear B_ hl;refine Uy ?_;refine ahP ?_;intro hHeld;refine zr4 ?_;refine Ur 6 ?_;refine Ul 5 λY_ Z_=>?_;refine Vg ?_;intro hHeld;clear Z_ Y_
  try refine UE ?_
  refine Ul 7 λY_ Z_=>?_;go_simp;refine hcall.mono ?_;rintro e w2 ⟨rfl,T_,hp2,hf1,hf2,hb2⟩;have hb3:=(Z9 (a:=(VJ b 5)) (hb2.block b Sb Ww)).trans hb0;have fd:=(Z9 (a:=(VJ (w.heap.size+1) 0)) (hb2.block _ zl mH)).trans zc
  try go_wp2_with fail
  refine Z_.go λhHeld=>?_;clear Z_ Y_;refine Um ?_;refine ahv ?_;intro MD htab;clear hb2 hb0 zc lk hp2 hf1 hf2 hcall;clear hHeld;clear hHeld;clear hHeld;go_wp2_with fail;refine htab.mono ?_;rintro e w3 ⟨rfl,hres⟩;go_wp2
  go_end0
  exact⟨rfl,hres⟩
theorem ae3 (q:Nat)(w:World)(t2 ty:TypeId):(Builtin.delete_ #[138,t2] ty #[.map none,TM q]).run prog w=.ok (.tuple #[]) w:=by
 simp[Builtin.delete_,Zu underlying138,Qp Gz]
theorem nD (w:World)(ty:TypeId):(Builtin.len_ #[138] ty #[.map none]).run prog w=.ok (VI 0) w:=by
 simp[Builtin.len_,Zu underlying138,goInt]
theorem afK {W:World}{sb:Nat}{l:List (ByteArray×Value)}{ps:Nat->List Nat}(h:Ux W sb l ps){s:ByteArray}{ib q:Nat}(hl:l.lookup s=some (.map (some ib)))(hq:UL W q)(t2 ty:TypeId):
 ∃W' ps',(Builtin.delete_ #[138,t2] ty #[.map (some ib),TM q]).run prog W=.ok (.tuple #[]) W'/\Ux W' sb l ps'/\(∀t r,Reg l ps' t r↔Reg l ps t r/\¬(t=s/\r=q))/\W.grownBy W' (some ib):=by
 obtain⟨cP,e,B_,hne⟩:=h.inn s _ hl;injection e with e;injection e with e;subst e;obtain⟨W',fY,hrun,hp,hmem,hg,hsz⟩:=abm (P:=prog) B_ (λp hp=>h.Vb s ib p hl hp) underlying138 Gz hq t2 ty;have keep:∀p,UL W p->UL W' p:=λp hc=>hc.same (hg.block p hc.lt (λe=>by injection e with e;exact QO hc B_ e));refine⟨W',λk=>if k=ib then fY else ps k,hrun,⟨h.map.same (hg.block _ h.map.lt (λe=>by injection e with e;exact hne e.symm)),λt u hu=>?_,h.inj,λt jb p ht hp'=>?_⟩,λt r=>?_,hg⟩
 . exact anp
 . by_cases e:jb=ib
   . subst e;simp only[Y6]at hp';exact keep p (h.Vb t jb p ht ((hmem p).1 hp').1)
   . simp only[e,Zg]at hp';exact keep p (h.Vb t jb p ht hp')
 . constructor
   . rintro⟨jb,h4,h5⟩;by_cases e:jb=ib
     . subst e;simp only[Y6]at h5;have h8:=(hmem r).1 h5;exact⟨⟨jb,h4,h8.1⟩,λe=>h8.2 e.2⟩
     . simp only[e,Zg]at h5
       exact⟨⟨jb,h4,h5⟩,λe'=>by
        rw[e'.1,hl]at h4
        exact e (PL h4).symm⟩
   . rintro⟨⟨jb,h4,h5⟩,hn⟩;by_cases e:jb=ib
     . subst e;exact⟨jb,h4,by simp only[Y6];exact(hmem r).2 ⟨h5,λe'=>hn ⟨h.inj t s jb h4 hl,e'⟩⟩⟩
     . exact⟨jb,h4,by simp only[e,Zg];exact h5⟩
theorem CW {W:World}{sb:Nat}{l:List (ByteArray×Value)}{ps:Nat->List Nat}(h:Ux W sb l ps)(s:ByteArray)(hn:∀r,¬Reg l ps s r)(t2 ty:TypeId):
 ∃W',(Builtin.delete_ #[56,t2] ty #[.map (some sb),.string s]).run prog W=.ok (.tuple #[]) W'/\Ux W' sb (del l s) ps/\(∀t r,Reg (del l s) ps t r↔Reg l ps t r)/\W.grownBy W' (some sb):=by
 obtain⟨W',hrun,hm,hg,hsz⟩:=je (P:=prog) h.map underlying56 underlying9 s t2 ty;have keep:∀p,UL W p->UL W' p:=λp hc=>hc.same (hg.block p hc.lt (λe=>aol))
 have hlk:∀t v,(del l s).lookup t=some v->l.lookup t=some v:=λt v ht=>by
  rw[Na]at ht;by_cases e:t=s
  . rw[ZU e]at ht;cases ht
  . rw[ZX e]at ht;exact ht
 refine⟨W',hrun,⟨hm,λt u hu=>?_,λt1 t2 ib h1 h2=>h.inj t1 t2 ib (hlk _ _ h1) (hlk _ _ h2),λt jb p ht hp=>keep p (h.Vb t jb p (hlk _ _ ht) hp)⟩,λt r=>?_,hg⟩
 . obtain⟨jb,rfl,h4,h5⟩:=h.inn t u (hlk _ _ hu);exact⟨jb,rfl,h4.same (hg.block _ h4.lt (λe'=>by injection e' with e';exact h5 e')),h5⟩
 . constructor
   . rintro⟨jb,h1,h2⟩;exact⟨jb,hlk _ _ h1,h2⟩
   . rintro⟨jb,h1,h2⟩;refine⟨jb,?_,h2⟩;rw[Na];by_cases e:t=s
     . subst e;exact absurd ⟨jb,h1,h2⟩ (hn r)
     . rw[ZX e];exact h1
def Sends (ws:List (W×Nat))(pl:Nat->Nat)(k:Nat)(s:ByteArray)(q:Nat):Prop:=∃i x,i<k/\ws[i]?=some x/\UO x.1=true/\VF x.1.sel=s/\q=pl i
theorem I8 {ws:List (W×Nat)}{pl:Nat->Nat}{k:Nat}{x:W×Nat}(hx:ws[k]?=some x)(hs:UO x.1=false)(s:ByteArray)(q:Nat):Sends ws pl (k+1) s q↔Sends ws pl k s q:=by
 constructor
 . rintro⟨i,y,hi,hy,h1,h2⟩;refine⟨i,y,?_,hy,h1,h2⟩;by_cases e:i=k
   . subst e;rw[hx]at hy;injection hy with hy;subst hy;rw[hs]at h1;cases h1
   . omega
 . rintro⟨i,y,hi,h⟩;exact⟨i,y,VH,h⟩
theorem MB {ws:List (W×Nat)}{pl:Nat->Nat}{k:Nat}{x:W×Nat}(hx:ws[k]?=some x)(hs:UO x.1=true)(s:ByteArray)(q:Nat):Sends ws pl (k+1) s q↔Sends ws pl k s q\/(s=VF x.1.sel/\q=pl k):=by
 constructor
 . rintro⟨i,y,hi,hy,h1,h2,h3⟩;by_cases e:i=k
   . exact ajz
   . exact .inl ⟨i,y,VH,hy,h1,h2,h3⟩
 . rintro(⟨i,y,hi,h⟩|⟨rfl,rfl⟩)
   . exact⟨i,y,VH,h⟩
   . exact⟨k,x,VH,hx,hs,rfl,rfl⟩
theorem kV (b m h1:Nat)(v:Value)(h:Int)(w:World)(hh:0<Go.RowKit.wrap64 (h-1))(hm:w.heap[m]?=some (.cells #[v,VI h] 165)):
 Calls prog 83 #[VG b,VG m] w λe w'=>e=.returned (.tuple #[])/\w'=w.setCell (VJ m 1) (VI (Go.RowKit.wrap64 (h-1))):=by
 have m1:w.cell? (VJ m 1)=some (VI h):=by simp only[World.cell?,hm];rfl
 have mf:=λo=>UL.free wK o;go_enter func83,ntmps83;go_wp2;refine yM ?_;exact KP
theorem au (b m:Nat)(v:Value)(h:Int)(w:World)(hh:1<Go.RowKit.wrap64 (h+1))(hm:w.heap[m]?=some (.cells #[v,VI h] 165)):
 Calls prog 82 #[VG b,VG m] w λe w'=>e=.returned (.tuple #[])/\w'=w.setCell (VJ m 1) (VI (Go.RowKit.wrap64 (h+1))):=by
 have m1:w.cell? (VJ m 1)=some (VI h):=by simp only[World.cell?,hm];rfl
 have mf:=λo=>UL.free wK o;go_enter func82,ntmps82;go_wp2;refine yM ?_;exact KP
structure pK (bd:Nat)(w0 W:World)(sb:Nat)(l0:List (ByteArray×Value))(Sw:Nat->List Nat)(Pb:Nat->Mm)(L:List (Nat×ByteArray))(Sd:ByteArray->U1->Prop)(ws:List (Kn.W×Nat))(pl:Nat->Nat)(k:Nat)(l:List (ByteArray×Value))(ps:Nat->List Nat)(pm:Nat->Mm):Prop where
 snd:Ux W sb l ps
 sub:∀s ib,l.lookup s=some (.map (some ib))->l0.lookup s=some (.map (some ib))
 reg:∀s q,Reg l ps s q↔Reg l0 Sw s q/\¬Sends ws pl k s q
 Ru:Sm bd W L pm Sd
 only:∀s q,Sends ws pl k s q->pm q=.only
 keep:∀q,(∀s,¬Sends ws pl k s q)->pm q=Pb q
 Ut:Vt w0 W (λk=>k=sb\/(∃s,l0.lookup s=some (.map (some k)))\/∃s,(k,s)∈L)
theorem Sm.lt {w:World}{L:List (Nat×ByteArray)}{pm:Nat->Mm}{Sd:ByteArray->U1->Prop}(hP:Sm bd w L pm Sd):∀k,Vm L pm k->k<w.heap.size:=by
 exact aoJ
theorem Ux.ne {w:World}{sb:Nat}{l:List (ByteArray×Value)}{ps:Nat->List Nat}(h:Ux w sb l ps){k:Nat}(hk:UL w k):¬(k=sb\/∃s,l.lookup s=some (.map (some k))):=by
 rintro(e|⟨s,e⟩)
 . exact UA hk h.map e
 . obtain⟨ib,e1,e2,_⟩:=h.inn s _ e;injection e1 with e1;injection e1 with e1;subst e1;exact QO hk e2 rfl
theorem Sm.drew {w:World}{L:List (Nat×ByteArray)}{pm:Nat->Mm}{Sd:ByteArray->U1->Prop}(h:Sm bd w L pm Sd):Sm bd w.drew L pm Sd:=h.same Ji
theorem Sm.alloc {w:World}{L:List (Nat×ByteArray)}{pm:Nat->Mm}{Sd:ByteArray->U1->Prop}(h:Sm bd w L pm Sd)(o:Obj):Sm bd (w.alloc o) L pm Sd:=h.same (λk hk=>ZV _ _ _ (h.lt k hk))
theorem Ux.alloc {w:World}{sb:Nat}{l:List (ByteArray×Value)}{ps:Nat->List Nat}(h:Ux w sb l ps)(o:Obj):Ux (w.alloc o) sb l ps:=h.Ut ((Vt.refl w (λ_=>False)).alloc _) EZ Nh aap
theorem Sm.beside {w w':World}{L:List (Nat×ByteArray)}{pm:Nat->Mm}{Sd:ByteArray->U1->Prop}(h:Sm bd w L pm Sd)(hk:∀j,UL w j->w'.heap[j]?=w.heap[j]?):Sm bd w' L pm Sd:=h.same (λk hb=>by
 rcases hb with⟨p,s,hps,e|e⟩
 . subst e;exact hk _ (h.Vb hps)
 . obtain⟨cr,hcr⟩:=h.Qz hps e
   exact hk _ ⟨_,_,hcr⟩)
theorem eu {w w':World}{p m o:Nat}{v:Value}(h:UL w p)(e:w'.heap[p]?=(w.setCell (VJ m o) v).heap[p]?)(hne:p≠m):UL w' p:=h.same (e.trans (ZW w _ _ p hne))
section
variable {w0 : World} {sb : Nat} {l0 : List (ByteArray × Value)} {Sw : Nat -> List Nat} {Pb : Nat -> Mm} {L : List (Nat × ByteArray)} {Sd : ByteArray -> U1 -> Prop} {ws : List (Kn.W × Nat)} {pl : Nat -> Nat}
theorem pK.alloc {W:World}{k:Nat}{l:List (ByteArray×Value)}{ps:Nat->List Nat}{pm:Nat->Mm}(h:pK bd w0 W sb l0 Sw Pb L Sd ws pl k l ps pm)(o:Obj):pK bd w0 (W.alloc o) sb l0 Sw Pb L Sd ws pl k l ps pm:=
 ⟨h.snd.alloc o,h.sub,h.reg,h.Ru.alloc o,h.only,h.keep,h.Ut.alloc o⟩
theorem pK.drew {W:World}{k:Nat}{l:List (ByteArray×Value)}{ps:Nat->List Nat}{pm:Nat->Mm}(h:pK bd w0 W sb l0 Sw Pb L Sd ws pl k l ps pm):pK bd w0 W.drew sb l0 Sw Pb L Sd ws pl k l ps pm:=
 ⟨h.snd.drew,h.sub,h.reg,h.Ru.drew,h.only,h.keep,h.Ut.drew⟩
theorem pK.pass {W:World}{k:Nat}{l:List (ByteArray×Value)}{ps:Nat->List Nat}{pm:Nat->Mm}{x:Kn.W×Nat}(h:pK bd w0 W sb l0 Sw Pb L Sd ws pl k l ps pm)(hx:ws[k]?=some x)(hs:UO x.1=false):pK bd w0 W sb l0 Sw Pb L Sd ws pl (k+1) l ps pm:=
 ⟨h.snd,h.sub,λs q=>by rw[h.reg s q,I8 hx hs],h.Ru,λs q I2=>h.only s q ((I8 hx hs s q).1 I2),λq hq=>h.keep q (λs I2=>hq s ((I8 hx hs s q).2 I2)),h.Ut⟩
theorem aag:prog.underlying 138=some (.map (prog.mapKeyOf 138) (prog.mapElemOf 138)):=VE
theorem pK.go {W:World}{k:Nat}{l:List (ByteArray×Value)}{ps:Nat->List Nat}{pm:Nat->Mm}{x:Kn.W×Nat}(h:pK bd w0 W sb l0 Sw Pb L Sd ws pl k l ps pm)(hx:ws[k]?=some x)(hs:UO x.1=true)(hL:(pl k,VF x.1.sel)∈L):
 ∃v W2 v2 n,(Instr.lookup 56 (.map (some sb)) (.string (VF x.1.sel)) false).run prog (W.setCell (VJ (pl k) 0) Mm.only.val).drew=.ok v (W.setCell (VJ (pl k) 0) Mm.only.val).drew/\
  (∀t2 ty,(Builtin.delete_ #[138,t2] ty #[v,TM (pl k)]).run prog (W.setCell (VJ (pl k) 0) Mm.only.val).drew=.ok (.tuple #[]) W2)/\
  (Instr.lookup 56 (.map (some sb)) (.string (VF x.1.sel)) false).run prog W2.drew=.ok v2 W2.drew/\
  (∀ty,(Builtin.len_ #[138] ty #[v2]).run prog W2.drew=.ok (VI ((n:Nat):Int)) W2.drew)/\
  (∃l ps pm,pK bd w0 W2 sb l0 Sw Pb L Sd ws pl (k+1) l ps pm)/\(∀j,UL W j->j≠pl k->W2.heap[j]?=W.heap[j]?)/\
  (n=0->∃W3,(∀t2 ty,(Builtin.delete_ #[56,t2] ty #[.map (some sb),.string (VF x.1.sel)]).run prog W2.drew.drew=.ok (.tuple #[]) W3)/\∃l ps pm,pK bd w0 W3 sb l0 Sw Pb L Sd ws pl (k+1) l ps pm):=by
 have hc1:Vt W (W.setCell (VJ (pl k) 0) Mm.only.val) (λj=>j=pl k):=(Vt.refl W _).setCell _ _ (λ_=>rfl);have kq:=h.Ru.Vb hL;have hne:=h.snd.ne kq;have hs1:=(h.snd.Ut hc1 (λe=>hne tN) (λs ib hi e=>hne (.inr ⟨s,by rw[<- e];exact hi⟩)) (λs ib p hi hp e=>by subst e;exact kq.setCell _ _)).drew;have hp1:=(Sm.store (W3:=W) h.Ru hL (m:=.only) (Vt.refl _ _) trivial oV (λr hr=>by cases hr) (λq hq=>by cases hq) (λq hq=>by cases hq)).drew;generalize hW1:(W.setCell (VJ (pl k) 0) Mm.only.val).drew=W1 at hs1 hp1 ⊢;have ro:∀j,j≠pl k->W1.heap[j]?=W.heap[j]?:=λj hj=>by rw[<- hW1];exact ZW W (VJ (pl k) 0) _ j hj
 have zR:∀j,UL W j->UL W1 j:=λj hj=>by rw[<- hW1];exact(hj.setCell _ _).same rfl
 have fg:Vt w0 W1 (λk=>k=sb\/(∃s,l0.lookup s=some (.map (some k)))\/∃s,(k,s)∈L):=by rw[<- hW1];exact(h.Ut.trans (hc1.mono (λj _ e=>by subst e;exact .inr (.inr ⟨_,hL⟩)))).drew
 clear hW1 hc1;have hq1:=zR _ kq
 have key:∀(W2:World) (l2:List (ByteArray×Value)) (ps2:Nat->List Nat),Ux W2 sb l2 ps2->(∀s ib,l2.lookup s=some (.map (some ib))->l.lookup s=some (.map (some ib)))->(∀t r,Reg l2 ps2 t r↔Reg l ps t r/\¬(t=VF x.1.sel/\r=pl k))->Vt W1 W2 (λj=>j=sb\/∃s,l.lookup s=some (.map (some j)))->
  pK bd w0 W2 sb l0 Sw Pb L Sd ws pl (k+1) l2 ps2 (λj=>if j=pl k then .only else pm j):=by
  intro W2 l2 ps2 hs2 hsub q_ hc1;refine⟨hs2,λs ib e=>h.sub s ib (hsub s ib e),λs q=>?_,hp1.beside (λj hj=>hc1.block j hj.lt (hs1.ne hj)),λs q I2=>?_,λq hq=>?_,fg.trans (hc1.mono (λj _ e=>?_))⟩
  . rw[q_ s q,h.reg s q,MB hx hs];constructor
    . rintro⟨⟨h1,h2⟩,h3⟩;exact⟨h1,λe=>e.elim h2 h3⟩
    . rintro⟨h1,h2⟩;exact⟨⟨h1,λe=>h2 (.inl e)⟩,λe=>h2 (.inr e)⟩
  . by_cases e:q=pl k
    . simp[e]
    . simp only[e,Zg];rcases (MB hx hs s q).1 I2 with h1|⟨_,h1⟩
      . exact h.only s q h1
      . exact absurd h1 e
  . have e:q≠pl k:=λe=>hq (VF x.1.sel) ((MB hx hs _ _).2 (.inr ⟨rfl,e⟩));simp only[e,Zg];exact h.keep q (λs I2=>hq s ((MB hx hs s q).2 (.inl I2)))
  . rcases e with e|⟨s,e⟩
    . exact .inl e
    . exact .inr (.inl ⟨s,h.sub s _ e⟩)
 cases hl:l.lookup (VF x.1.sel) with
 | none=>
  have hno:∀r,¬Reg l ps (VF x.1.sel) r:=λr ⟨ib,e,_⟩=>by rw[hl]at e;cases e
  have hk2:=key W1 l ps hs1 (λ_ _ e=>e) (λt r=>⟨λe=>⟨e,λe2=>hno r (by rw[<- e2.1];exact e)⟩,λe=>e.1⟩) (Vt.refl _ _);refine⟨.map none,W1,.map none,0,by rw[RN W1 sb l hs1.map,hl];rfl,λt2 ty=>ae3 _ _ _ _,by rw[RN W1.drew sb l hs1.drew.map,hl];rfl,λty=>nD _ _,⟨_,_,_,hk2⟩,λj _ hj=>ro j hj,λ_=>?_⟩;obtain⟨W3,hrun,hs3,GF,hg3⟩:=CW hs1.drew.drew (VF x.1.sel) hno 0 0;refine⟨W3,λt2 ty=>?_,_,_,_,key W3 _ ps hs3 (λs ib e=>?_) (λt r=>by rw[GF t r];exact⟨λe=>⟨e,λe2=>hno r (by rw[<- e2.1];exact e)⟩,λe=>e.1⟩) ((Vt.refl W1 _).drew.drew.trans ((Vt.QY hg3).mono (λj _ e=>.inl e)))⟩
  . obtain⟨W4,B6,_⟩:=CW hs1.drew.drew (VF x.1.sel) hno t2 ty;exact hrun
  . exact anb
 | some v=>
  obtain⟨ib,rfl,B_,bw⟩:=hs1.inn _ v hl;obtain⟨W2,ps2,hrun,hs2,Nt,hg2⟩:=afK hs1 hl hq1 0 0;obtain⟨cP,e,vq,_⟩:=hs2.inn _ _ hl;injection e with e;injection e with e;subst e;have hc1:Vt W1 W2 (λj=>j=sb\/∃s,l.lookup s=some (.map (some j))):=(Vt.QY hg2).mono (λj _ e=>.inr ⟨VF x.1.sel,by subst e;exact hl⟩);refine⟨.map (some ib),W2,.map (some ib),(ps2 ib).length,by rw[RN W1 sb l hs1.map,hl];rfl,λt2 ty=>hrun,by rw[RN W2.drew sb l hs2.drew.map,hl];rfl,λty=>aek (P:=prog) (w:=W2.drew) (b:=ib) (ps:=ps2 ib) (t:=138) (vq.same rfl) aag ty,⟨_,_,_,key W2 l ps2 hs2 (λ_ _ e=>e) Nt hc1⟩,λj hj hjp=>(hc1.block j (zR j hj).lt (hs1.ne (zR j hj))).trans (ro j hjp),λhn=>?_⟩
  have hno:∀r,¬Reg l ps2 (VF x.1.sel) r:=λr ⟨jb,e,hm⟩=>by
   rw[hl]at e;have:=PL e;subst this;rw[Yq hn]at hm;cases hm
  obtain⟨W3,B6,hs3,GF,hg3⟩:=CW hs2.drew.drew (VF x.1.sel) hno 0 0;refine⟨W3,λt2 ty=>B6,_,_,_,key W3 _ ps2 hs3 (λs ib e=>?_) (λt r=>by rw[GF t r];exact Nt t r) (hc1.drew.drew.trans ((Vt.QY hg3).mono (λj _ e=>.inl e)))⟩;exact anb
end
theorem Ap (b m sb g cap:Nat)(p:Option Addr)(ws:List (Kn.W×Nat))(pl:Nat->Nat)(l0:List (ByteArray×Value))(Sw:Nat->List Nat)(L:List (Nat×ByteArray))(Pb:Nat->Mm)(Sd:ByteArray->U1->Prop)(h:Int)(w:World)(hn:ws.length<=40)(hh:Go.RowKit.wrap64 (h-1)<=0)
 (hb:w.cell? (VJ b 5)=some (.map (some sb))) (hbc:UL w b) (hm:w.heap[m]?=some (.cells #[.slice p ws.length cap,VI h] 165)) (hbm:b≠m) (ke:1<=ws.length->g≠m)
 (hw:xB w p g ws pl ws.length) (hpl:∀i x,ws[i]?=some x->UO x.1=true->(pl i,VF x.1.sel)∈L) (hs:Ux w sb l0 Sw) (hP:Sm bd w L Pb Sd):
 Calls prog 83 #[VG b,VG m] w λe w'=>e=.returned (.tuple #[])/\(∃l ps pm,pK bd (w.setCell (VJ m 1) (VI (Go.RowKit.wrap64 (h-1)))) w' sb l0 Sw Pb L Sd ws pl ws.length l ps pm)/\
  w'.heap[m]?=some (.cells #[.slice p ws.length cap,VI (Go.RowKit.wrap64 (h-1))] 165):=by
 refine ajE ?_;intro hmc m0 m1 mf
 have hbL:∀s,(b,s) ∉ L:=λs hx=>by
  have:=hP.at_ b s hx;rw[World.cell?,this]at hb;simp at hb
 have du:∀s,(m,s) ∉ L:=λs hx=>by
  have:=hP.at_ m s hx;rw[World.cell?,this]at m1;simp at m1
 have cL:1<=ws.length->∀s,(g,s) ∉ L:=λh1 s hx=>by
  have:=hP.at_ g s hx
  obtain⟨x,hx0⟩:∃x,ws[0]?=some x:=⟨_,Z8 VH⟩
  have h2:=hw.c1 0 x hx0;rw[World.cell?,this]at h2;simp at h2
 have hblk:∀wr,Vt (w.setCell (VJ m 1) (VI (Go.RowKit.wrap64 (h-1)))) wr (λk=>k=sb\/(∃s,l0.lookup s=some (.map (some k)))\/∃s,(k,s)∈L)->∀j,UL w j->(∀s,(j,s) ∉ L)->wr.heap[j]?=(w.setCell (VJ m 1) (VI (Go.RowKit.wrap64 (h-1)))).heap[j]?:=λwr hch j hj hjL=>
  hch.block j aoU (λe=>by
   rcases e with e|e|⟨s,e⟩
   . exact hs.ne hj (.inl e)
   . exact hs.ne hj (.inr e)
   . exact hjL s e)
 have HI:Hid (xB w p g ws pl ws.length/\(∀i x,ws[i]?=some x->UO x.1=true->(pl i,VF x.1.sel)∈L)/\Ux w sb l0 Sw/\UL w b/\w.heap[m]?=some (.cells #[.slice p ws.length cap,VI h] 165)/\Sm bd w L Pb Sd):=⟨hw,hpl,hs,hbc,hm,hP⟩
 have HL:Hid ((∀s,(b,s) ∉ L)/\(∀s,(m,s) ∉ L)/\(1<=ws.length->∀s,(g,s) ∉ L)):=⟨hbL,du,cL⟩
 have HB:Hid _:=hblk;have hml:=hmc.lt;clear hw hpl hs hbc hm hmc hP hbL du cL hblk;go_enter func83,ntmps83;go_wp2
 go_loopw [23] (λi wr=>∃(k:Nat) (l:List (ByteArray×Value)) (ps:Nat->List Nat) (pm:Nat->Mm),i=VI k/\k<=ws.length/\pK bd (w.setCell (VJ m 1) (VI (Go.RowKit.wrap64 (h-1)))) wr sb l0 Sw Pb L Sd ws pl k l ps pm) (λi _=>ws.length-(intOf i).toNat)
 case atStart=>
  obtain⟨hw,hpl,hs0,hbc,hm,hP⟩:=HI.o;have hmc:UL w m:=wK;have hne:=hs0.ne hmc;refine⟨0,l0,Sw,Pb,rfl,VH,⟨hs0.Ut ((Vt.refl w (λk=>k=m)).setCell _ _ (λ_=>rfl)) (λe=>hne tN) (λs ib hs e=>hne aj3) (λs ib q hs hq e=>by subst e;exact hmc.setCell _ _),λ_ _ e=>e,λs q=>⟨λh=>⟨h,λ⟨i,x,hi,_⟩=>VH⟩,λh=>h.1⟩,?_,λs q ⟨i,x,hi,_⟩=>VH,λ_ _=>rfl,Vt.refl _ _⟩⟩;refine hP.same (λk hk=>ZW _ _ _ _ (λe=>?_));subst e;exact TK hP hm Vz Vz hk
 case round=>
  obtain⟨k,l,ps,pm,rfl,hk,Fx⟩:=hrel;obtain⟨hw,hpl,hs0,hbc,hm,hP⟩:=HI.o;have hblk:=HB.o wr Fx.Ut;have hbr:=(Z9 (a:=(VJ b 5)) ((hblk b hbc HL.o.1).trans (ZW w _ _ b hbm))).trans hb;have HR:Hid _:=Fx;clear Fx;by_cases hkn:k<ws.length
  . refine BH ?_;intro x hx;obtain rfl:p=some (VJ g 0):=hw.head VH;have hwr:=hw.same ((hblk g (hw.Vb VH) (HL.o.2.2 VH)).trans (ZW w _ _ g (ke VH)));refine aa9 ?_;intro c0 c1 c2 c3 c4 c5;have HX:Hid _:=hx;cases w_:UO x.1
    . have HS:=UQ w_;rw[w_,ZX Vy]at c5;clear hwr hw hpl hs0 hbc hm hblk hx w_ hb m0 m1 mf hP;go_wp2
      go_roundw
      case rel=>exact⟨k+1,l,ps,pm,Uu,VH,(HR.o.alloc _).pass HX.o HS.o⟩
      case measure=>simp[intOf]<;>omega
    . have HS:=UQ w_;rw[w_,ZU ⟨hkn,rfl⟩]at c5;have fI:=hpl k x hx w_;have hq:=HR.o.Ru.at_ _ _ fI;have q0:wr.cell? (VJ (pl k) 0)=some (pm (pl k)).val:=by simp only[World.cell?,hq];rfl
      have A7:UL wr (pl k):=⟨_,_,hq⟩
      have bX:=λo=>A7.free o;have FF:=A7.lt;have LN:pl k≠b:=λe=>HL.o.1 _ (by rw[<- e];exact fI);clear hwr hw hpl hs0 hbc hm hblk hx w_ hb m0 m1 mf hP A7 hq;have HT:=HR.o.alloc (.cells #[VI (kindOf x.1.k:Nat),VI x.1.n,.string (VF x.1.a),.string (VF x.1.sel),.string (VF x.1.b),VG (pl k)] 146);obtain⟨v,W2,v2,n,Pa,w7,Tl,ln2,TE,Ge,hzero⟩:=HT.go HX.o HS.o fI;have hz:=(Z4 wr (.cells #[VI (kindOf x.1.k:Nat),VI x.1.n,.string (VF x.1.a),.string (VF x.1.sel),.string (VF x.1.b),VG (pl k)] 146)).1;have hz0:∀j,wr.heap.size≠j->∀v,((wr.alloc (.cells #[VI (kindOf x.1.k:Nat),VI x.1.n,.string (VF x.1.a),.string (VF x.1.sel),.string (VF x.1.b),VG (pl k)] 146)).setCell (VJ j 0) v).heap[wr.heap.size]?=_:=λj hj v=>(ZW _ (VJ j 0) v _ hj).trans hz;have Cy:=(Ge wr.heap.size ⟨_,_,hz⟩ VH).trans hz;have mR:(wr.alloc (.cells #[VI (kindOf x.1.k:Nat),VI x.1.n,.string (VF x.1.a),.string (VF x.1.sel),.string (VF x.1.b),VG (pl k)] 146)).cell? (VJ b 5)=some (.map (some sb)):=UG;have hb1:((wr.alloc (.cells #[VI (kindOf x.1.k:Nat),VI x.1.n,.string (VF x.1.a),.string (VF x.1.sel),.string (VF x.1.b),VG (pl k)] 146)).setCell (VJ (pl k) 0) Mm.only.val).cell? (VJ b 5)=some (.map (some sb)):=(Z9 (a:=(VJ b 5)) (ZW _ (VJ (pl k) 0) _ b LN.symm)).trans mR;have tW:=eu HI.o.2.2.2.1 (HB.o wr HR.o.Ut b HI.o.2.2.2.1 HL.o.1) hbm;have hb2:=(Z9 (a:=(VJ b 5)) (Ge b (tW.alloc _) LN.symm)).trans mR;have hz1:=hz0 (pl k) VH Mm.only.val;unfold TM at w7;have HZ:Hid _:=hzero;have bO:Hid _:=TE;clear hzero TE hz0 Ge hz HT mR tW;have hov:Mm.only.val=.iface 206 (.agg #[]):=rfl;have vB:=World.setCell_alloc_past (w:=wr) (.cells #[VI (kindOf x.1.k:Nat),VI x.1.n,.string (VF x.1.a),.string (VF x.1.sel),.string (VF x.1.b),VG (pl k)] 146) (pl k) 0 (.iface 206 (.agg #[])) FF;rw[hov]at Pa w7 hb1 hz1;rw[vB]at Pa w7 hb1 hz1;clear vB;go_wp2_with fail;revert Pa w7 hb1 hz1;generalize (wr.setCell (VJ (pl k) 0) (.iface 206 (.agg #[]))).alloc (.cells #[VI (kindOf x.1.k:Nat),VI x.1.n,.string (VF x.1.a),.string (VF x.1.sel),.string (VF x.1.b),VG (pl k)] 146)=W1;clear c0 c1 c2 c3 c4 c5 hbr q0 bX FF LN;revert Cy;generalize wr.heap.size=z;intro Cy Pa w7 hb1 hz1;have z3:W1.cell? (VJ z 3)=some (.string (VF x.1.sel)):=by simp only[World.cell?,hz1];rfl
      have z5:W1.cell? (VJ z 5)=some ((VG (pl k))):=by simp only[World.cell?,hz1];rfl
      have qe:W2.cell? (VJ z 3)=some (.string (VF x.1.sel)):=by simp only[World.cell?,Cy];rfl
      clear hz1 Cy
      go_region
      clear Pa w7 z3 z5 hb1;go_wp2_with fail
      go_region
      clear Tl ln2;by_cases hn0:n=0
      . obtain⟨W3,hrun,TE⟩:=HZ.o hn0;have ld:Hid _:=TE;subst hn0;clear TE;go_wp2_with fail
        go_region
        go_wp2
        go_roundw
        case rel=>
         obtain⟨l',ps',T_,h3⟩:=ld.o;exact⟨k+1,l',ps',T_,Uu,VH,h3⟩
        case measure=>simp[intOf]<;>omega
      . have Z1:((n:Int)==0)=false:=ZF.2 VH;go_wp2
        go_roundw
        case rel=>
         obtain⟨l',ps',T_,h3⟩:=bO.o;exact⟨k+1,l',ps',T_,Uu,VH,h3.drew⟩
        case measure=>simp[intOf]<;>omega
  . obtain rfl:k=ws.length:=by omega
    clear hblk hw hpl hs0 hbc hbr hb m0 m1 mf hP hm;go_wp2
    go_end0
    refine⟨rfl,⟨l,ps,pm,HR.o⟩,?_⟩;obtain⟨hw,hpl,hs0,hbc,hm,hP⟩:=HI.o;refine(HB.o _ HR.o.Ut m wK HL.o.2.1).trans ?_;simp only[World.setCell,Zz,ZU,hm];rfl
structure Md where
 ws:List (Kn.W×Nat)
 p:Option Addr
 g:Nat
 cap:Nat
 pl:Nat->Nat
structure Kc where
 np:Nat
 sb:Nat
 n:Nat
 l:List (ByteArray×Value)
 ps:Nat->List Nat
 L:List (Nat×ByteArray)
 pm:Nat->Mm
 R:Nat->U1
 Mk:Nat->Prop
 md:Nat->Md
structure ML (w:World)(L:List (Nat×ByteArray))(k:Nat)(d:Md):Prop where
 blk:∃h:Int,w.heap[k]?=some (.cells #[.slice d.p d.ws.length d.cap,VI h] 165)
 LV:xB w d.p d.g d.ws d.pl d.ws.length
 len:d.ws.length<=40
 Ru:∀i x,d.ws[i]?=some x->UO x.1=true->(d.pl i,VF x.1.sel)∈L
theorem ML.Vb {L:List (Nat×ByteArray)}{k:Nat}{d:Md}(h:ML w L k d):UL w k:=by obtain⟨h,e⟩:=h.blk;exact⟨_,_,e⟩
theorem ML.gk {L:List (Nat×ByteArray)}{k j:Nat}{d d':Md}(h:ML w L k d)(h':ML w L j d')(h1:1<=d'.ws.length):d'.g≠k:=by
 intro e;obtain⟨n,hb⟩:=h.blk
 obtain⟨x,hx⟩:∃x,d'.ws[0]?=some x:=⟨_,Z8 VH⟩
 have h0:=h'.LV.c0 0 x hx;rw[e]at h0;simp only[World.cell?,Yu,hb]at h0;cases h0
theorem Sm.weaken {bd:Nat}{L:List (Nat×ByteArray)}{pm:Nat->Mm}{Sd Cf:ByteArray->U1->Prop}(h:Sm bd w L pm Sd)(hS:∀p s r,(p,s)∈L->r∈(pm p).rows->Sd s r->Cf s r):Sm bd w L pm Cf:=
 ⟨h.b6,h.nd,h.at_,h.ok,λp s r hp hr=>hS p s r hp hr (h.rows p s r hp hr),h.arr⟩
theorem ML.same {L:List (Nat×ByteArray)}{k:Nat}{d:Md}(h:ML w L k d)(hk:w'.heap[k]?=w.heap[k]?)(hg:1<=d.ws.length->w'.heap[d.g]?=w.heap[d.g]?):ML w' L k d:=by
 obtain⟨n,hb⟩:=h.blk;refine⟨⟨n,hk.trans hb⟩,?_,h.len,h.Ru⟩;by_cases h1:1<=d.ws.length
 . exact h.LV.same (hg h1)
 . exact alZ
structure Qr (w:World)(b:Nat)(K:Kc)(X:Nat->Prop)(Sd:ByteArray->U1->Prop)(Sr:U1->Prop):Prop where
 img:∃cur,w.heap[b]?=some (.cells cur 70)
 b5:w.cell? (VJ b 5)=some (.map (some K.sb))
 snd:Ux w K.sb K.l K.ps
 Ru:Sm K.np w K.L K.pm Sd
 reg:∀s p,Reg K.l K.ps s p->(p,s)∈K.L
 told:∀p s,(p,s)∈K.L->Reg K.l K.ps s p\/K.pm p=.only\/X p
 tab:TabAt w b K.n K.R
 rows:∀i,i<K.n->Sr (K.R i)
 mt:∀k,K.Mk k->ML w K.L k (K.md k)
 gq:∀k,K.Mk k->1<=(K.md k).ws.length->¬Vm K.L K.pm (K.md k).g
def Td (K:Kc)(k:Nat):Prop:=k=K.sb\/(∃s,K.l.lookup s=some (.map (some k)))\/Vm K.L K.pm k\/K.Mk k
theorem Qr.lt {b:Nat}{K:Kc}{X:Nat->Prop}{Sd:ByteArray->U1->Prop}{Sr:U1->Prop}(h:Qr w b K X Sd Sr){k:Nat}(hk:Td K k):k<w.heap.size:=by
 rcases hk with rfl|⟨s,e⟩|e|e
 . exact h.snd.map.lt
 . obtain⟨ib,e1,e2,_⟩:=h.snd.inn s _ e;injection e1 with e1;injection e1 with e1;subst e1;exact e2.lt
 . exact h.Ru.lt k e
 . exact(h.mt k e).Vb.lt
theorem Qr.weaken {b:Nat}{K:Kc}{X:Nat->Prop}{Sd Cf:ByteArray->U1->Prop}{Sr rh:U1->Prop}(h:Qr w b K X Sd Sr)(h1:∀s r,Sd s r->Cf s r)(h2:∀r,Sr r->rh r):Qr w b K X Cf rh:=
 ⟨h.img,h.b5,h.snd,h.Ru.weaken (λ_ s r _ _=>h1 s r),h.reg,h.told,h.tab,λi hi=>h2 _ (h.rows i hi),h.mt,h.gq⟩
theorem Qr.other {b:Nat}{K:Kc}{X:Nat->Prop}{Sd:ByteArray->U1->Prop}{Sr:U1->Prop}(h:Qr w b K X Sd Sr){k:Nat}{cs:Array Value}{t:TypeId}{fz:Nat×Nat}(hk:w.heap[k]?=some (.cells cs t fz))(h1:t≠198)(h2:t≠64)(h3:t≠165):¬Td K k:=by
 rintro(e|⟨s,e⟩|e|e)
 . obtain⟨_,_,hm,_⟩:=h.snd.map;rw[<- e,hk]at hm;cases hm
 . obtain⟨ib,e1,e2,_⟩:=h.snd.inn s _ e;injection e1 with e1;injection e1 with e1;subst e1;obtain⟨_,_,hm,_⟩:=e2;rw[hk]at hm;cases hm
 . exact TK h.Ru hk h1 h2 e
 . obtain⟨n,hb⟩:=(h.mt k e).blk;rw[hk]at hb;injection hb with hb;injection hb with _ hb _;exact h3 hb
theorem Qr.bn {b:Nat}{K:Kc}{X:Nat->Prop}{Sd:ByteArray->U1->Prop}{Sr:U1->Prop}(h:Qr w b K X Sd Sr):¬Td K b:=by
 obtain⟨cur,hc⟩:=h.img;exact h.other hc Vz Vz Vz
theorem Qr.gn {b:Nat}{K:Kc}{X:Nat->Prop}{Sd:ByteArray->U1->Prop}{Sr:U1->Prop}(h:Qr w b K X Sd Sr){k:Nat}(hk:K.Mk k)(h1:1<=(K.md k).ws.length):¬Td K (K.md k).g/\(K.md k).g≠b:=by
 have hm:=h.mt k hk;have hc:=hm.LV.Vb h1;refine⟨?_,λe=>?_⟩
 . rintro(e|e|e|e)
   . exact h.snd.ne hc (.inl e)
   . exact h.snd.ne hc (.inr e)
   . exact h.gq k hk h1 e
   . exact(h.mt _ e).gk hm h1 rfl
 . obtain⟨x,hx⟩:∃x,(K.md k).ws[0]?=some x:=⟨_,Z8 VH⟩
   have h0:=hm.LV.c5 0 x hx;rw[e]at h0;simp only[Yu,YU]at h0;rw[h.b5]at h0;cases h0
theorem Qr.dO {b:Nat}{K:Kc}{X:Nat->Prop}{Sd:ByteArray->U1->Prop}{Sr:U1->Prop}(h:Qr w b K X Sd Sr){k:Nat}{es:Array MapEntry}{ck:Nat}(hk:w.heap[k]?=some (.map es ck))(h1:k≠K.sb)(h2:∀s,K.l.lookup s≠some (.map (some k))):¬Td K k/\k≠b:=by
 refine⟨?_,λe=>?_⟩
 . rintro(e|⟨s,e⟩|e|e)
   . exact h1 e
   . exact h2 s e
   . exact TT h.Ru hk e
   . obtain⟨n,hb⟩:=(h.mt k e).blk;rw[hk]at hb;cases hb
 . obtain⟨cur,hc⟩:=h.img;rw[<- e,hk]at hc;cases hc
theorem Qr.same {b:Nat}{K:Kc}{X:Nat->Prop}{Sd:ByteArray->U1->Prop}{Sr:U1->Prop}(h:Qr w b K X Sd Sr)(hb:w'.heap[b]?=w.heap[b]?)(hk:∀k,Td K k->w'.heap[k]?=w.heap[k]?)(hg:∀k,K.Mk k->1<=(K.md k).ws.length->w'.heap[(K.md k).g]?=w.heap[(K.md k).g]?):Qr w' b K X Sd Sr:=by
 obtain⟨cur,hc⟩:=h.img;refine⟨⟨cur,hb.trans hc⟩,(Z9 hb).trans h.b5,⟨h.snd.map.same (hk _ NP),λs v hv=>?_,h.snd.inj,λs ib p hs hp=>?_⟩,h.Ru.same (λk e=>hk k EP),h.reg,h.told,h.tab.same hb,h.rows,λk e=>(h.mt k e).same (hk k aeg) (hg k e),h.gq⟩
 . obtain⟨ib,rfl,h4,h5⟩:=h.snd.inn s v hv;exact⟨ib,rfl,h4.same (hk _ (.inr (.inl ⟨s,hv⟩))),h5⟩
 . exact(h.snd.Vb s ib p hs hp).same (hk p (.inr (.inr (.inl ⟨p,s,h.reg s p ⟨ib,hs,hp⟩,.inl rfl⟩))))
theorem Qr.Ut {b:Nat}{K:Kc}{X:Nat->Prop}{Sd:ByteArray->U1->Prop}{Sr:U1->Prop}{S:Nat->Prop}(h:Qr w b K X Sd Sr)(hc:Vt w w' S)(hb:¬S b)(hk:∀k,Td K k->¬S k)(hg:∀k,K.Mk k->1<=(K.md k).ws.length->¬S (K.md k).g):Qr w' b K X Sd Sr:=
 h.same (hc.block b h.tab.Vb.lt hb) (λk e=>hc.block k (h.lt e) (hk k e)) (λk e h1=>hc.block _ ((h.mt k e).LV.Vb h1).lt (hg k e h1))
theorem Qr.below {b:Nat}{K:Kc}{X:Nat->Prop}{Sd:ByteArray->U1->Prop}{Sr:U1->Prop}(h:Qr w b K X Sd Sr)(hb:Below w.heap.size w w'):Qr w' b K X Sd Sr:=
 h.Ut (Vt.of_below hb (λ_=>False)) (λe=>e) (λ_ _ e=>e) (λ_ _ _ e=>e)
theorem wrap_one:Go.RowKit.wrap64 (0+1)<=1:=by unfold Go.RowKit.wrap64;omega
theorem uz {b:Nat}{K:Kc}{X:Nat->Prop}{Sd:ByteArray->U1->Prop}{Sr:U1->Prop}(h:Qr w b K X Sd Sr){k:Nat}(hk:K.Mk k)
 (hX:(∀p,¬X p)\/(w.cell? (VJ k 1)=some (VI 0)/\∀p,X p->∃i x,(K.md k).ws[i]?=some x/\UO x.1=true/\p=(K.md k).pl i)):
 Calls prog 82 #[VG b,VG k] w λe w'=>e=.returned (.tuple #[])/\∃l ps,Qr w' b {K with l:=l,ps:=ps} (λ_=>False) Sd Sr/\
  (∀s ib,l.lookup s=some (.map (some ib))->K.l.lookup s=some (.map (some ib))\/w.heap.size<=ib)/\Vt w w' (Td K):=by
 have hm:=h.mt k hk;obtain⟨n,hb⟩:=hm.blk;have hbk:b≠k:=λe=>h.bn (by rw[e];exact .inr x9);have hg1:1<=(K.md k).ws.length->(K.md k).g≠k:=λh1 e=>(h.gn hk h1).1 (by rw[e];exact .inr x9);by_cases hh:Go.RowKit.wrap64 (n+1)<=1
 . refine(AL b k K.sb (K.md k).g (K.md k).cap (K.md k).p (K.md k).ws (K.md k).pl K.l K.ps n w hm.len hh h.b5 h.tab.Vb hb hbk hg1 hm.LV (λi x hx hs=>h.Ru.Vb (hm.Ru i x hx hs)) h.snd).mono ?_;rintro e w' ⟨rfl,l,ps,hs',hnew,q_,hm',hch⟩
   have hch':Vt w w' (Td K):=hch.mono (λj _ e=>by
    rcases e with e|e|e
    . subst e;exact .inr x9
    . exact .inl e
    . exact .inr (.inl e))
   have hblk:∀j,UL w j->j≠k->w'.heap[j]?=w.heap[j]?:=λj hj hjk=>hch.block j hj.lt (λe=>by
    rcases e with e|e|e
    . exact hjk e
    . exact h.snd.ne hj (.inl e)
    . exact h.snd.ne hj (.inr e))
   have hbb:=hblk b h.tab.Vb hbk;have Z2:=TK h.Ru hb Vz Vz;obtain⟨cur,V_⟩:=h.img;refine⟨rfl,l,ps,⟨⟨cur,hbb.trans V_⟩,(Z9 hbb).trans h.b5,hs',h.Ru.same (λj hj=>hblk j ?_ akH),λs p hr=>?_,λp s hps=>?_,h.tab.same hbb,h.rows,λj hj=>?_,h.gq⟩,hnew,hch'⟩
   . rcases hj with⟨p,s,hps,e|e⟩
     . subst e;exact h.Ru.Vb hps
     . obtain⟨cr,hcr⟩:=h.Ru.Qz hps e;exact⟨_,_,hcr⟩
   . rcases (q_ s p).1 hr with e|⟨i,x,hx,xh,e1,e2⟩
     . exact h.reg s p e
     . subst e1 e2;exact hm.Ru i x hx xh
   . rcases h.told p s hps with e|e|e
     . exact .inl ((q_ s p).2 (.inl e))
     . exact .inr (.inl e)
     . rcases hX with hX|⟨_,hX⟩
       . exact absurd e (hX p)
       . obtain⟨i,x,hx,xh,rfl⟩:=hX p e;exact .inl ((q_ s _).2 (.inr ⟨i,x,hx,xh,h.Ru.one (hm.Ru i x hx xh) hps,rfl⟩))
   . by_cases e:j=k
     . subst e;have hgb:1<=(K.md j).ws.length->w'.heap[(K.md j).g]?=w.heap[(K.md j).g]?:=λh1=>hblk _ (hm.LV.Vb h1) (hg1 h1);have:=hm.same (w':=w') (k:=j) (d:=K.md j);refine⟨⟨_,hm'⟩,?_,hm.len,hm.Ru⟩;by_cases h1:1<=(K.md j).ws.length
       . exact hm.LV.same (hgb h1)
       . have hno:∀(i:Nat) (x:Kn.W×Nat),(K.md j).ws[i]?≠some x:=λi x hx=>by have:=(Z7.1 hx).1;omega
         exact aj7
     . exact(h.mt j hj).same (hblk j (h.mt j hj).Vb e) (λh1=>hblk _ ((h.mt j hj).LV.Vb h1) (λe'=>(h.gn hj h1).1 (by rw[e'];exact .inr x9)))
 . have ag:∀p,¬X p:=by
    rcases hX with hX|⟨h0,_⟩
    . exact hX
    . have:w.cell? (VJ k 1)=some (VI n):=by simp only[World.cell?,hb];rfl
      rw[this]at h0;injection h0 with h0;injection h0 with _ h0;subst h0;exact absurd wrap_one hh
   refine(au b k _ n w VH hb).mono ?_;rintro e w' ⟨rfl,rfl⟩;have hsk:∀j,j≠k->(w.setCell (VJ k 1) (VI (Go.RowKit.wrap64 (n+1)))).heap[j]?=w.heap[j]?:=λj hj=>ZW _ _ _ _ hj
   have hmk:ML (w.setCell (VJ k 1) (VI (Go.RowKit.wrap64 (n+1)))) K.L k (K.md k):=by
    refine⟨⟨Go.RowKit.wrap64 (n+1),by simp only[World.setCell,Zz,ZU,hb];rfl⟩,?_,hm.len,hm.Ru⟩;by_cases h1:1<=(K.md k).ws.length
    . exact hm.LV.same (hsk _ (hg1 h1))
    . have hno:∀(i:Nat) (x:Kn.W×Nat),(K.md k).ws[i]?≠some x:=λi x hx=>by have:=(Z7.1 hx).1;omega
      exact aj7
   obtain⟨cur,V_⟩:=h.img;have Z2:=TK h.Ru hb Vz Vz
   have hkc:UL w k:=⟨_,_,hb⟩
   refine⟨rfl,K.l,K.ps,⟨⟨cur,(hsk b hbk).trans V_⟩,(Z9 (hsk b hbk)).trans h.b5,h.snd.Ut ((Vt.refl w (λj=>j=k)).setCell _ _ (λ_=>rfl)) (λe=>h.snd.ne hkc tN) (λs ib hs e=>h.snd.ne hkc aj3) (λs ib q hs hq e=>by subst e;exact hkc.setCell _ _),h.Ru.same (λj hj=>hsk j akH),h.reg,λp s hps=>?_,h.tab.same (hsk b hbk),h.rows,λj hj=>?_,h.gq⟩,λs ib e=>.inl e,(Vt.refl w _).setCell _ _ (λ_=>.inr x9)⟩
   . rcases h.told p s hps with e|e|e
     . exact .inl e
     . exact .inr (.inl e)
     . exact absurd e (ag p)
   . by_cases e:j=k
     . subst e;exact hmk
     . exact(h.mt j hj).same (hsk j e) (λh1=>hsk _ (λe'=>(h.gn hj h1).1 (by rw[e'];exact .inr x9)))
theorem ML.homes {L:List (Nat×ByteArray)}{k:Nat}{d:Md}(hm:ML w L k d){n:Int}(hb:w'.heap[k]?=some (.cells #[.slice d.p d.ws.length d.cap,VI n] 165))(hg:1<=d.ws.length->w'.heap[d.g]?=w.heap[d.g]?):ML w' L k d:=by
 refine⟨⟨n,hb⟩,?_,hm.len,hm.Ru⟩;by_cases h1:1<=d.ws.length
 . exact hm.LV.same (hg h1)
 . exact alZ
theorem IX {b:Nat}{K:Kc}{Sd:ByteArray->U1->Prop}{Sr:U1->Prop}(h:Qr w b K (λ_=>False) Sd Sr){k:Nat}(hk:K.Mk k):
 Calls prog 83 #[VG b,VG k] w λe w'=>e=.returned (.tuple #[])/\∃l ps pm,Qr w' b {K with l:=l,ps:=ps,pm:=pm} (λ_=>False) Sd Sr/\
  (∀s ib,l.lookup s=some (.map (some ib))->K.l.lookup s=some (.map (some ib)))/\(∀p q,(pm p).arr=some q->(K.pm p).arr=some q)/\Vt w w' (Td K):=by
 have hm:=h.mt k hk;obtain⟨n,hb⟩:=hm.blk;have tD:Td K k:=.inr x9;have hbk:b≠k:=λe=>h.bn (by rw[e];exact tD);have hg1:1<=(K.md k).ws.length->(K.md k).g≠k:=λh1 e=>(h.gn hk h1).1 (by rw[e];exact tD);have Z2:=TK h.Ru hb Vz Vz
 have hkc:UL w k:=⟨_,_,hb⟩
 have hsk:∀v j,j≠k->(w.setCell (VJ k 1) v).heap[j]?=w.heap[j]?:=λv j hj=>ZW _ _ _ _ hj;obtain⟨cur,V_⟩:=h.img;by_cases hh:Go.RowKit.wrap64 (n-1)<=0
 . refine(Ap b k K.sb (K.md k).g (K.md k).cap (K.md k).p (K.md k).ws (K.md k).pl K.l K.ps K.L K.pm Sd n w hm.len hh h.b5 h.tab.Vb hb hbk hg1 hm.LV hm.Ru h.snd h.Ru).mono ?_;rintro e w' ⟨rfl,⟨l,ps,pm,ht⟩,hm'⟩;have hch:=((Vt.refl w (λj=>j=k\/j=K.sb\/(∃s,K.l.lookup s=some (.map (some j)))\/∃s,(j,s)∈K.L)).setCell _ _ Dx).then ht.Ut (λj _ e=>.inr e)
   have hch':=hch.mono (λj _ e=>by
    rcases e with e|e|e|⟨s,e⟩
    . subst e;exact tD
    . exact .inl e
    . exact .inr (.inl e)
    . exact .inr (.inr (.inl ⟨j,s,e,.inl rfl⟩)))
   have hbb:=hch'.block b h.tab.Vb.lt h.bn
   have vL:∀p,pm p=.only\/pm p=K.pm p:=λp=>by
    by_cases e:∃s,Sends (K.md k).ws (K.md k).pl (K.md k).ws.length s p
    . obtain⟨s,e⟩:=e;exact .inl (ht.only s p e)
    . exact .inr (ht.keep p (λs e'=>e ⟨s,e'⟩))
   have harr:∀p q,(pm p).arr=some q->(K.pm p).arr=some q:=λp q e=>by
    rcases vL p with e'|e'
    . rw[e']at e;cases e
    . rw[e']at e;exact e
   have hpb:∀j,Vm K.L pm j->Vm K.L K.pm j:=by
    rintro j ⟨p,s,hps,e|e⟩
    . exact lT
    . exact⟨p,s,hps,.inr (harr p j e)⟩
   refine⟨rfl,l,ps,pm,⟨⟨cur,hbb.trans V_⟩,(Z9 hbb).trans h.b5,ht.snd,ht.Ru,λs p hr=>h.reg s p ((ht.reg s p).1 hr).1,λp s hps=>?_,h.tab.same hbb,h.rows,λj hj=>?_,λj hj h1 e=>h.gq j hj h1 (hpb _ e)⟩,ht.sub,harr,hch'⟩
   . by_cases e:∃t,Sends (K.md k).ws (K.md k).pl (K.md k).ws.length t p
     . obtain⟨t,e⟩:=e;exact .inr (.inl (ht.only t p e))
     . rcases h.told p s hps with e1|e1|e1
       . exact .inl ((ht.reg s p).2 ⟨e1,λe'=>e ⟨s,e'⟩⟩)
       . rcases vL p with e'|e'
         . exact .inr (.inl e')
         . exact .inr (.inl (e'.trans e1))
       . exact e1.elim
   . have hgb:1<=(K.md j).ws.length->w'.heap[(K.md j).g]?=w.heap[(K.md j).g]?:=λh1=>hch'.block _ ((h.mt j hj).LV.Vb h1).lt (h.gn hj h1).1;by_cases e:j=k
     . subst e;exact hm.homes hm' hgb
     . refine(h.mt j hj).same (hch.block j (h.mt j hj).Vb.lt (λe'=>?_)) hgb;obtain⟨n',hb'⟩:=(h.mt j hj).blk;rcases e' with e'|e'|e'|⟨s,e'⟩
       . exact e e'
       . exact h.snd.ne (h.mt j hj).Vb (.inl e')
       . exact h.snd.ne (h.mt j hj).Vb (.inr e')
       . exact TK h.Ru hb' Vz Vz ⟨j,s,e',.inl rfl⟩
 . refine(kV b k 0 _ n w VH hb).mono ?_;rintro e w' ⟨rfl,rfl⟩;have hmk:=hm.homes (n:=Go.RowKit.wrap64 (n-1)) (by simp only[World.setCell,Zz,ZU,hb];rfl) (λh1=>hsk _ _ (hg1 h1));refine⟨rfl,K.l,K.ps,K.pm,⟨⟨cur,(hsk _ b hbk).trans V_⟩,(Z9 (hsk _ b hbk)).trans h.b5,h.snd.Ut ((Vt.refl w (λj=>j=k)).setCell _ _ (λ_=>rfl)) (λe=>h.snd.ne hkc tN) (λs ib hs e=>h.snd.ne hkc aj3) (λs ib q hs hq e=>by subst e;exact hkc.setCell _ _),h.Ru.same (λj hj=>hsk _ j akH),h.reg,h.told,h.tab.same (hsk _ b hbk),h.rows,λj hj=>?_,h.gq⟩,λs ib e=>e,λp q e=>e,(Vt.refl w _).setCell _ _ (λ_=>tD)⟩;by_cases e:j=k
   . subst e;exact hmk
   . exact(h.mt j hj).same (hsk _ j e) (λh1=>hsk _ _ (λe'=>(h.gn hj h1).1 (by rw[e'];exact tD)))
theorem Qr.forgot {b:Nat}{K:Kc}{Sd Cf:ByteArray->U1->Prop}{Sr rh:U1->Prop}(h:Qr w b K (λ_=>False) Sd Sr){T_:Nat->Mm}{R':Nat->U1}(hP:Sm K.np w' K.L T_ Cf)(hT:TabAt w' b K.n R')(hr:∀i,i<K.n->rh (R' i))
 (ho:∀p s,(p,s)∈K.L->K.pm p=.only->Reg K.l K.ps s p\/T_ p=.only) (ha:∀p q,(T_ p).arr=some q->(K.pm p).arr=some q) (hc:Vt w w' (λk=>k=b\/Vm K.L K.pm k)) (hd:UK w w' b):Qr w' b {K with pm:=T_,R:=R'} (λ_=>False) Cf rh:=by
 have hpb:∀j,Vm K.L T_ j->Vm K.L K.pm j:=by
  rintro j ⟨p,s,hps,e|e⟩
  . exact lT
  . exact⟨p,s,hps,.inr (ha p j e)⟩
 have hmap:∀(k:Nat) (es:Array MapEntry) (ck:Nat),w.heap[k]?=some (.map es ck)->w'.heap[k]?=w.heap[k]?:=λk es ck hk=>hc.block k (Z5.1 hk).1 (λe=>by
  rcases e with e|e
  . obtain⟨cur,V_⟩:=h.img;rw[<- e,hk]at V_;cases V_
  . exact TT h.Ru hk e)
 refine⟨hd.typ _ h.img,(hd.cell 5 VH).trans h.b5,⟨?_,λs v hv=>?_,h.snd.inj,λs ib p hs hp=>hP.Vb (h.reg s p ⟨ib,hs,hp⟩)⟩,hP,h.reg,λp s hps=>?_,hT,hr,λk hk=>?_,λk hk h1 e=>h.gq k hk h1 (hpb _ e)⟩
 . obtain⟨es,ck,hm,_⟩:=h.snd.map;exact h.snd.map.same (hmap _ _ _ hm)
 . obtain⟨ib,rfl,h4,h5⟩:=h.snd.inn s v hv;obtain⟨es,ck,hm,hx⟩:=id h4;exact⟨ib,rfl,h4.same (hmap _ _ _ hm),h5⟩
 . rcases h.told p s hps with e|e|e
   . exact .inl e
   . rcases ho p s hps e with e|e
     . exact .inl e
     . exact .inr (.inl e)
   . exact e.elim
 . have hm:=h.mt k hk;obtain⟨n,hb⟩:=hm.blk;refine hm.same (hc.block k hm.Vb.lt (λe=>?_)) (λh1=>hc.block _ (hm.LV.Vb h1).lt (λe=>?_))
   . rcases e with e|e
     . exact h.bn ak8
     . exact TK h.Ru hb Vz Vz e
   . rcases e with e|e
     . exact(h.gn hk h1).2 e
     . exact h.gq k hk h1 e
theorem tK {b:Nat}{K:Kc}{Sd:ByteArray->U1->Prop}{Sr:U1->Prop}(h:Qr w b K (λ_=>False) Sd Sr)(m:Im)(cb cm:Nat->Nat)(c0:Nat)(sel:ByteArray)(hm:U3 m)(hc0:c0<m.kl.length)(hcl:Cls w m cb cm)
 (hQ:∀s r,Sd s r->Nw m cb r/\r.sel=s) (hR:∀r,Sr r->Nw m cb r):
 Calls prog 84 #[VG b,VG (cb c0),.string sel] w λe w'=>e=.returned (.tuple #[])/\∃pm R,Qr w' b {K with pm:=pm,R:=R} (λ_=>False) (λs r=>Sd s r/\SI m cb c0 sel r=false) (λr=>(Sr r/\SI m cb c0 sel r=false)\/r=noRow)/\
  (∀p q,(pm p).arr=some q->(K.pm p).arr=some q)/\Vt w w' (λk=>k=b\/Vm K.L K.pm k)/\UK w w' b:=by
 obtain⟨cur,V_⟩:=h.img;refine(pV m cb cm b c0 K.sb K.n cur K.l K.ps K.R K.L K.pm Sd sel w hm hc0 V_ h.b5 h.snd h.tab hcl h.Ru h.reg (λs r hr=>(hQ s r hr).1) (λi hi=>hR _ (h.rows i hi))).mono ?_;rintro e w' ⟨rfl,T_,hP,hf1,hf2,hT,hch,hd⟩
 have ha:∀p q,(T_ p).arr=some q->(K.pm p).arr=some q:=λp q e=>by
  by_cases hr:Reg K.l K.ps sel p
  . rw[hf1 p hr]at e;rcases Mm.QH (SI m cb c0 sel) (K.pm p) with h1|h1
    . rw[h1]at e;cases e
    . rw[h1]at e;exact e
  . rw[hf2 p hr]at e;exact e
 refine⟨rfl,T_,_,h.forgot (hP.weaken (λp s r hps hr w_=>⟨w_,?_⟩)) hT (λi hi=>?_) (λp s hps e=>.inr ?_) ha hch hd,ha,hch,hd⟩
 . by_cases hg:Reg K.l K.ps sel p
   . rw[hf1 p hg]at hr;exact(Mm.KR hr).2
   . rw[hf2 p hg]at hr;rcases h.told p s hps with e|e|e
     . have hss:=(hQ s r w_).2;unfold SI;have:¬r.sel=sel:=λe'=>hg (by rw[<- e',hss];exact e);simp[this]
     . rw[e]at hr;cases hr
     . exact e.elim
 . by_cases e:i<K.n/\SI m cb c0 sel (K.R i)=true
   . rw[ZU e];exact .inr rfl
   . rw[ZX e];refine .inl ⟨h.rows i hi,?_⟩
     cases hl:SI m cb c0 sel (K.R i) with
     | false=>rfl
     | true=>exact absurd ⟨hi,hl⟩ e
 . by_cases hg:Reg K.l K.ps sel p
   . rw[hf1 p hg];exact Mm.Oq.2 e
   . rw[hf2 p hg];exact e
theorem agm (b c cm k:Nat)(had:Option Nat)(sel:ByteArray)(w w1:World)(P2 P3 R:World->Prop)(hc:w.cell? (VJ c 4)=some (.map (some cm)))
 (lk:(Instr.lookup 99 (.map (some cm)) (.string sel) false).run prog w=.ok (.pointer (Vq had)) w)
 (hrun:(Instr.mapUpdate 99 (.map (some cm)) (.string sel) (VG k)).run prog w=.ok () w1)
 (hadd:Calls prog 82 #[VG b,VG k] w1 λe w2=>e=.returned (.tuple #[])/\P2 w2)
 (h0:had=none->∀w2,P2 w2->P3 w2)
 (h1:∀k0,had=some k0->∀w2,P2 w2->Calls prog 83 #[VG b,VG k0] w2 λe w3=>e=.returned (.tuple #[])/\P3 w3)
 (hch:∀w3,P3 w3->Calls prog 84 #[VG b,VG c,.string sel] w3 λe w'=>e=.returned (.tuple #[])/\R w'):
 Calls prog 44 #[VG b,VG c,.string sel,VG k] w λe w'=>e=.returned (.tuple #[])/\R w':=by
 go_enter func44,ntmps44;go_wp2_with fail;refine hadd.mono ?_;rintro e w2 ⟨rfl,Fu⟩
 cases had with
 | none=>
  simp only[Vq,Zm];have hcall:=hch w2 (h0 rfl w2 Fu);go_wp2_with fail;refine hcall.mono ?_;rintro e w3 ⟨rfl,hR⟩;go_wp2
  go_end0
  exact⟨rfl,hR⟩
 | some k0=>
  simp only[Vq,ZG];have hcall:=h1 k0 rfl w2 Fu;go_wp2_with fail;refine hcall.mono ?_;rintro e w3 ⟨rfl,Fu⟩;have O_:=hch w3 Fu;go_wp2_with fail;refine O_.mono ?_;rintro e w4 ⟨rfl,hR⟩;go_wp2
  go_end0
  exact⟨rfl,hR⟩
theorem rE (b c cm k:Nat)(sel:ByteArray)(w w1:World)(P3 R:World->Prop)(hc:w.cell? (VJ c 4)=some (.map (some cm)))
 (lk:(Instr.lookup 99 (.map (some cm)) (.string sel) false).run prog w=.ok (VG k) w)
 (hrun:∀t2 ty,(Builtin.delete_ #[99,t2] ty #[.map (some cm),.string sel]).run prog w=.ok (.tuple #[]) w1)
 (h1:Calls prog 83 #[VG b,VG k] w1 λe w3=>e=.returned (.tuple #[])/\P3 w3)
 (hch:∀w3,P3 w3->Calls prog 84 #[VG b,VG c,.string sel] w3 λe w'=>e=.returned (.tuple #[])/\R w'):
 Calls prog 49 #[VG b,VG c,.string sel] w λe w'=>e=.returned (.tuple #[])/\R w':=by
 go_enter func49,ntmps49;go_wp2_with fail;refine h1.mono ?_;rintro e w2 ⟨rfl,Fu⟩;have hcall:=hch w2 Fu;go_wp2_with fail;refine hcall.mono ?_;rintro e w3 ⟨rfl,hR⟩;go_wp2
 go_end0
 exact⟨rfl,hR⟩
theorem Td.old {K:Kc}{l:List (ByteArray×Value)}{ps:Nat->List Nat}{pm:Nat->Mm}{R:Nat->U1}{N j:Nat}(h:Td {K with l:=l,ps:=ps,pm:=pm,R:=R} j) (hl:∀s ib,l.lookup s=some (.map (some ib))->K.l.lookup s=some (.map (some ib))\/N<=ib) (ha:∀p q,(pm p).arr=some q->(K.pm p).arr=some q\/N<=q):Td K j\/N<=j:=by
 rcases h with e|⟨s,e⟩|⟨p,s,hps,e|e⟩|e
 . exact .inl (.inl e)
 . rcases hl s j e with e|e
   . exact .inl (.inr (.inl ⟨s,e⟩))
   . exact .inr e
 . exact .inl (.inr (.inr (.inl lT)))
 . rcases ha p j e with e|e
   . exact .inl (.inr (.inr (.inl ⟨p,s,hps,.inr e⟩)))
   . exact .inr e
 . exact .inl aeg
theorem Qr.vI {b:Nat}{K:Kc}{X:Nat->Prop}{Sd:ByteArray->U1->Prop}{Sr:U1->Prop}(h:Qr w b K X Sd Sr){cb cm:Nat->Nat}(hcl:Cls w m cb cm){c:Nat}(hc:c<m.kl.length):¬Td K (cb c)/\cb c≠b:=by
 have h1:=hcl.at_ c _ (Z8 hc);refine⟨h.other h1 Vz Vz Vz,λe=>?_⟩;obtain⟨cur,V_⟩:=h.img;rw[e,V_]at h1;exact acw
theorem Cls.meth {cb cm:Nat->Nat}(h:Cls w m cb cm){c:Nat}(hc:c<m.kl.length):w.cell? (VJ (cb c) 4)=some (.map (some (cm c))):=by
 have:=h.at_ c _ (Z8 hc);refine FK ?_;rfl
theorem Cls.Ut {cb cm:Nat->Nat}{S:Nat->Prop}(h:Cls w m cb cm)(hc:Vt w w' S)(hS:∀c,c<m.kl.length->¬S (cb c)):Cls w' m cb cm:=h.same (λc hcl=>hc.block _ (h.Vb hcl).lt (hS c hcl))
structure Kept (N:Nat)(K:Kc)(l:List (ByteArray×Value))(pm:Nat->Mm):Prop where
 l:∀s ib,l.lookup s=some (.map (some ib))->K.l.lookup s=some (.map (some ib))\/N<=ib
 arr:∀p q,(pm p).arr=some q->(K.pm p).arr=some q\/N<=q
theorem ru {b:Nat}{K:Kc}{X:Nat->Prop}{Sd:ByteArray->U1->Prop}{Sr:U1->Prop}(h:Qr w b K X Sd Sr)(m:Im)(cb cm:Nat->Nat)(c0 k:Nat)(sel:ByteArray)(lm:List (ByteArray×Value))(had:Option Nat)(hm:U3 m)(hc0:c0<m.kl.length)(hcl:Cls w m cb cm)
 (hlm:SMap w (cm c0) lm) (hcs:cm c0≠K.sb) (Ch:∀s,K.l.lookup s≠some (.map (some (cm c0)))) (hk:K.Mk k)
 (hX:(∀p,¬X p)\/(w.cell? (VJ k 1)=some (VI 0)/\∀p,X p->∃i x,(K.md k).ws[i]?=some x/\UO x.1=true/\p=(K.md k).pl i))
 (AG:lm.lookup sel=had.map (λk=>(VG k))) (cC:∀k0,had=some k0->K.Mk k0) (hQ:∀s r,Sd s r->Nw m cb r/\r.sel=s) (hR:∀r,Sr r->Nw m cb r):
 Calls prog 44 #[VG b,VG (cb c0),.string sel,VG k] w λe w'=>e=.returned (.tuple #[])/\∃l ps pm R,Qr w' b {K with l:=l,ps:=ps,pm:=pm,R:=R} (λ_=>False) (λs r=>Sd s r/\SI m cb c0 sel r=false) (λr=>(Sr r/\SI m cb c0 sel r=false)\/r=noRow)/\
  SMap w' (cm c0) (put lm sel (VG k))/\Kept w.heap.size K l pm/\Vt w w' (λj=>j=b\/j=cm c0\/Td K j)/\UK w w' b:=by
 have lk:=Je w (cm c0) lm hlm sel;have hlk:((lm.lookup sel).getD (.pointer none))=.pointer (Vq had):=by rw[AG];cases had<;>rfl
 rw[hlk]at lk;obtain⟨w1,hrun,hm1,hg1,hsz1⟩:=yj (P:=prog) hlm underlying99 underlying9 sel (VG k);refine ai5 ?_;intro es ck hmb _ Z1 W7 hc1 Sp;have hkm:k≠cm c0:=λe=>Z1 ak8;have hcn:∀c,c<m.kl.length->cb c≠cm c0:=λc hc=>UA (hcl.Vb hc) hlm;have Hn:=hcl.Ut hc1 hcn
 have hX1:(∀p,¬X p)\/(w1.cell? (VJ k 1)=some (VI 0)/\∀p,X p->∃i x,(K.md k).ws[i]?=some x/\UO x.1=true/\p=(K.md k).pl i):=by
  rcases hX with hX|⟨h1,h2⟩
  . exact .inl hX
  . exact .inr ⟨(Z9 (a:=(VJ k 1)) (hc1.block k (h.lt (.inr x9)) hkm)).trans h1,h2⟩
 have hmid:∀W l ps pm,Qr W b {K with l:=l,ps:=ps,pm:=pm} (λ_=>False) Sd Sr->Kept w.heap.size K l pm->Vt w1 W (λj=>Td K j)->Cls W m cb cm/\SMap W (cm c0) (put lm sel (VG k)):=by
  intro W l ps pm hW Z2 OP;exact⟨Hn.Ut OP (λc hc=>(Sp.vI Hn hc).1),hm1.same (OP.block _ hm1.lt Z1)⟩
 refine agm b (cb c0) (cm c0) k had sel w w1
  (λW=>∃l ps,Qr W b {K with l:=l,ps:=ps} (λ_=>False) Sd Sr/\Kept w.heap.size K l K.pm/\Vt w1 W (λj=>Td K j))
  (λW=>∃l ps pm,Qr W b {K with l:=l,ps:=ps,pm:=pm} (λ_=>False) Sd Sr/\Kept w.heap.size K l pm/\Vt w1 W (λj=>Td K j)) _ (hcl.meth hc0) lk hrun ?_ ?_ ?_ ?_
 . refine(uz Sp hk hX1).mono ?_;rintro e W ⟨rfl,l,ps,hW,hl,OP⟩;exact⟨rfl,l,ps,hW,⟨λs ib e=>by rw[<- hsz1];exact hl s ib e,λp q e=>.inl e⟩,OP⟩
 . rintro rfl W ⟨l,ps,hW,Z2,OP⟩;exact⟨l,ps,K.pm,hW,Z2,OP⟩
 . rintro k0 rfl W ⟨l,ps,hW,Z2,OP⟩;refine(IX hW (k:=k0) (cC k0 rfl)).mono ?_;rintro e W3 ⟨rfl,l3,nE,tA,hW3,hl3,Kp,hc3⟩;refine⟨rfl,l3,nE,tA,hW3,⟨λs ib e=>Z2.l s ib (hl3 s ib e),λp q e=>.inl (Kp p q e)⟩,OP.then hc3 (λj hj e=>?_)⟩;have hx:=Td.old (K:=K) (N:=w.heap.size) (l:=l) (ps:=ps) (pm:=K.pm) (R:=K.R) e Z2.l Z2.arr;rcases hx with hx|hx
   . exact hx
   . omega
 . rintro W ⟨l,ps,pm,hW,Z2,OP⟩;obtain⟨ut,pE⟩:=hmid W l ps pm hW Z2 OP;exact an8
theorem xE {b:Nat}{K:Kc}{Sd:ByteArray->U1->Prop}{Sr:U1->Prop}(h:Qr w b K (λ_=>False) Sd Sr)(m:Im)(cb cm:Nat->Nat)(c0 k:Nat)(sel:ByteArray)(lm:List (ByteArray×Value))(hm:U3 m)(hc0:c0<m.kl.length)(hcl:Cls w m cb cm)
 (hlm:SMap w (cm c0) lm) (hcs:cm c0≠K.sb) (Ch:∀s,K.l.lookup s≠some (.map (some (cm c0)))) (hk:K.Mk k)
 (AG:lm.lookup sel=some (VG k)) (hQ:∀s r,Sd s r->Nw m cb r/\r.sel=s) (hR:∀r,Sr r->Nw m cb r):
 Calls prog 49 #[VG b,VG (cb c0),.string sel] w λe w'=>e=.returned (.tuple #[])/\∃l ps pm R,Qr w' b {K with l:=l,ps:=ps,pm:=pm,R:=R} (λ_=>False) (λs r=>Sd s r/\SI m cb c0 sel r=false) (λr=>(Sr r/\SI m cb c0 sel r=false)\/r=noRow)/\
  SMap w' (cm c0) (del lm sel)/\Kept w.heap.size K l pm/\Vt w w' (λj=>j=b\/j=cm c0\/Td K j)/\UK w w' b:=by
 have lk:=Je w (cm c0) lm hlm sel;rw[AG]at lk;obtain⟨w1,hrun,hm1,hg1,hsz1⟩:=je (P:=prog) hlm underlying99 underlying9 sel 0 0;refine ai5 ?_;intro es ck hmb _ Z1 W7 hc1 Sp;have hcn:∀c,c<m.kl.length->cb c≠cm c0:=λc hc=>UA (hcl.Vb hc) hlm;have Hn:=hcl.Ut hc1 hcn
 refine rE b (cb c0) (cm c0) k sel w w1
  (λW=>∃l ps pm,Qr W b {K with l:=l,ps:=ps,pm:=pm} (λ_=>False) Sd Sr/\Kept w.heap.size K l pm/\Vt w1 W (λj=>Td K j)) _ (hcl.meth hc0) lk (λ_ _=>hrun) ?_ ?_
 . refine(IX Sp hk).mono ?_;rintro e W3 ⟨rfl,l3,nE,tA,hW3,hl3,Kp,hc3⟩;exact⟨rfl,l3,nE,tA,hW3,⟨λs ib e=>.inl (hl3 s ib e),λp q e=>.inl (Kp p q e)⟩,hc3⟩
 . rintro W ⟨l,ps,pm,hW,Z2,OP⟩;have ut:=Hn.Ut OP (λc hc=>(Sp.vI Hn hc).1);have pE:=hm1.same (OP.block _ hm1.lt Z1);exact an8
theorem agC {w:World}{p q:Nat}(hp:UL w p)(hq:UL w q):(binOp .neq 57 (VG p) (VG q)).run prog w=.ok (.bool (!decide (p=q))) w:=by
 have hs:=BF
 cases hi:prog.info? 101 with
 | none=>rw[hi]at hs;cases hs
 | some i=>
  exact amy
theorem agv (q:Nat)(w:World):(binOp .neq 57 (.pointer none) (VG q)).run prog w=.ok (.bool true) w:=VE
noncomputable def Tj (m:Im) (cb:Nat->Nat) (c0:Nat) (r:U1):Bool:=Hg m cb c0 r&&!decide (r.hm=some (VJ (cb c0) 0))
theorem abn (m:Im)(cb cm:Nat->Nat)(c0:Nat)(x:Nat)(hm:U3 m)(hc0:c0<m.kl.length):
 Ih 103 #[VG x] (Tj m cb c0) (λW=>W.cell? (VJ x 0)=some ((VG (cb c0)))/\Cls W m cb cm) (Nw m cb):=by
 refine⟨λargs W=>lK,λW r hW hr=>?_⟩;obtain⟨hx,hw⟩:=hW;have hxl:=ZE W (VJ x 0) hx;show Calls _ _ #[_,_] _ _;obtain⟨v,hv⟩:∃v,Tj m cb c0 r=v:=Vx;rw[hv];refine ajs ?_;intro hcall
 cases DP:Hg m cb c0 r with
 | false=>
  have vi:v=false:=by rw[<- hv];simp[Tj,DP]
  subst vi;rw[DP]at hcall;unfold U1.val at hcall ⊢;clear hv hw hr DP;go_enter func103,ntmps103;go_wp2_with fail;refine hcall.mono ?_;rintro e w1 ⟨rfl,hb1⟩;have HB:=UQ alz;clear hb1 hcall;go_wp2
  go_ret
  exact agl
 | true=>
  obtain⟨d,hd,Ga⟩:∃d:Option Nat,(∀x,d=some x->x<m.kl.length)/\r.hm=Vq (d.map cb):=by
   rcases hr with h|rfl
   . exact h.hm
   . exact⟨none,λx hx=>(by cases hx),rfl⟩
  rw[DP]at hcall;have hvv:v=!decide (r.hm=some (VJ (cb c0) 0)):=by rw[<- hv];simp[Tj,DP]
  have hcc:=hw.Vb hc0;have sY:∀y,d=some y->UL W (cb y):=λy hy=>hw.Vb (hd y hy);unfold U1.val at hcall ⊢;rw[Ga]at hcall hvv ⊢;have hcx:=(Z4 W (.cells #[.pointer r.fr,.string r.sel,.pointer (Vq (d.map cb)),.pointer r.mt] 64)).1;clear hv hw hr DP Ga;go_enter func103,ntmps103;go_wp2_with fail;refine hcall.mono ?_;rintro e w1 ⟨rfl,hb1⟩;have HB:=UQ alz
  have z2:w1.cell? (VJ W.heap.size 2)=some (.pointer (Vq (d.map cb))):=by
   refine(hb1.cell (p:=(VJ W.heap.size 2)) Vy).trans ?_;simp only[World.cell?,hcx];rfl
  have x1:=(HB.o.cell (p:=(VJ x 0)) hxl).trans hx;have hc1:=hcc.same (HB.o.block _ hcc.lt)
  cases d with
  | none=>
   have hvt:v=true:=by rw[hvv];rfl
   subst hvt;have F2:Vq ((none:Option Nat).map cb)=none:=rfl;rw[F2]at z2 ⊢;clear hb1 hcall hvv hx hcx;have hnn:=agv (cb c0) w1;go_wp2
   go_ret
   exact agl
  | some y=>
   have hy1:=(sY y rfl).same (HB.o.block _ (sY y rfl).lt);have F2:Vq ((some y:Option Nat).map cb)=some (VJ (cb y) 0):=rfl;have n6:=agC hy1 hc1;rw[F2]at z2 hvv ⊢;have cX:v=!decide (cb y=cb c0):=by rw[hvv];simp
   rw[<- cX]at n6;clear hb1 hcall hvv hx hcx cX hc1 hy1 sY;go_wp2
   go_ret
   exact agl
theorem yU (ib:Nat)(ps:List Nat)(L:List (Nat×ByteArray))(pm:Nat->Mm)(Sd:ByteArray->U1->Prop)(w:World)(h:LX w ib ps)(hL:∀p∈ps,∃s,(p,s)∈L)(hP:Sm bd w L pm Sd):
 Calls prog 69 #[.map (some ib)] w λe w'=>e=.returned (.tuple #[])/\∃T_,Sm bd w' L T_ Sd/\(∀p∈ps,T_ p=.no)/\(∀p,p ∉ ps->T_ p=pm p)/\Vt w w' (Vm L pm):=by
 obtain⟨es,clock,hb,GG,Ww,hnd⟩:=h;have hrg:=Wq (P:=prog) w 138 _ _ ib es clock underlying138 hb;have hnb:=TT hP hb;have hbl:=(Z5.1 hb).1;have eV:Hid _:=hP;have nh:=UQ hP.lt;clear hP;go_enter func69,ntmps69;go_wp2
 go_loopw [5] (λ_ wr=>∃seen T_,wr.heap[w.heap.size]?=some (.mapIter (some ib) clock seen clock)/\Sm bd wr L T_ Sd/\(∀e∈es.toList,∀p,e.key=TM p->seen.contains e.born=true->T_ p=.no)/\(∀p,T_ p=pm p\/(p∈ps/\T_ p=.no))/\Vt w wr (Vm L pm)) (λ_ wr=>(leftOf es (wr.iterSeen w.heap.size)).size)
 case atStart=>
  exact ao8
 case round=>
  obtain⟨seen,T_,hit,hpl,hdone,WK,hch⟩:=hrel;have hbr:=(hch.block ib hbl hnb).trans hb;rcases VO (P:=prog) wr 0 w.heap.size ib clock clock seen es clock hit hbr (λx hx=>Ww.1 x hx) UM with⟨hl0,hnx⟩|⟨en,hen,w1,hw1,hnx⟩
  . have HC:Hid (∃T_,Sm bd wr L T_ Sd/\(∀p∈ps,T_ p=.no)/\(∀p,p ∉ ps->T_ p=pm p)/\Vt w wr (Vm L pm)):=by
     have hx1:∃T_,Sm bd wr L T_ Sd/\(∀p∈ps,T_ p=.no)/\(∀p,p ∉ ps->T_ p=pm p)/\Vt w wr (Vm L pm):=by
      exact aoa
     exact hx1
    clear hpl hdone WK hch hrg;go_wp2
    go_end0
    exact⟨rfl,HC.o⟩
  . refine agV ?_;intro UB q hq Fy s UX i1 i2 i3 i4;obtain⟨W2,hW2⟩:∃W2,W2=ChangeMaps.setBlock w1 w.heap.size (.mapIter (some ib) clock (seen.push en.born) clock):=Vx;rw[<- hW2]at i1 i2 i3 i4 hnx;clear hW2;have hib:ib≠w.heap.size:=VH;have hent:=VX (P:=prog) W2 w.heap.size ib clock seen es clock en i1 ((i2 ib hib).trans hbr) UB Ww.2;rw[Fy,TM]at hnx hent
    have Qt:∀k,Vm L T_ k->Vm L pm k:=by
     rintro k ⟨p,s',hps,e|e⟩
     . exact⟨p,s',hps,.inl e⟩
     . refine⟨p,s',hps,.inr ?_⟩;rcases WK p with h|⟨_,h⟩
       . rw[h]at e;exact e
       . rw[h]at e;cases e
    refine ahC ?_;intro hne HL HS m_ Wz;have FL:=hne q ⟨q,s,UX,.inl rfl⟩;have hat:=m_.at_ q s UX;have c0:W2.cell? (VJ q 0)=some (T_ q).val:=by simp only[World.cell?,hat];rfl
    have cf:=λo=>(m_.Vb UX).free o
    have HF:Hid (∃seen Tb,(W2.setCell (VJ q 0) Mm.no.val).heap[w.heap.size]?=some (.mapIter (some ib) clock seen clock)/\Sm bd (W2.setCell (VJ q 0) Mm.no.val) L Tb Sd/\(∀e∈es.toList,∀p,e.key=TM p->seen.contains e.born=true->Tb p=.no)/\(∀p,Tb p=pm p\/(p∈ps/\Tb p=.no))/\Vt w (W2.setCell (VJ q 0) Mm.no.val) (Vm L pm)):=by
     have hx1:∃seen Tb,(W2.setCell (VJ q 0) Mm.no.val).heap[w.heap.size]?=some (.mapIter (some ib) clock seen clock)/\Sm bd (W2.setCell (VJ q 0) Mm.no.val) L Tb Sd/\(∀e∈es.toList,∀p,e.key=TM p->seen.contains e.born=true->Tb p=.no)/\(∀p,Tb p=pm p\/(p∈ps/\Tb p=.no))/\Vt w (W2.setCell (VJ q 0) Mm.no.val) (Vm L pm):=by
      refine⟨seen.push en.born,λk=>if k=q then .no else T_ k,(ZW _ _ _ _ (λe=>FL e.symm)).trans i1,Sm.store (W3:=W2) m_ UX (m:=.no) (Vt.refl _ _) trivial oV (λr hr=>by cases hr) (λa ha=>by cases ha) (λa ha=>by cases ha),λe he p I1 hc=>?_,λp=>?_,Wz.setCell _ _ (λ_=>⟨q,s,UX,.inl rfl⟩)⟩
      . rw[contains_push]at hc;by_cases e1:p=q
        . simp only[e1,Y6]
        . simp only[e1,Zg];refine hdone e he p I1 ?_
          cases hcs:seen.contains e.born with
          | true=>rfl
          | false=>
           exact amW
      . by_cases e1:p=q
        . simp only[e1,Y6];exact .inr ⟨hq,by trivial⟩
        . simp only[e1,Zg];exact WK p
     exact hx1
    have pT:Hid ((W2.setCell (VJ q 0) Mm.no.val).iterSeen w.heap.size=seen.push en.born):=by
     have hx1:(W2.setCell (VJ q 0) Mm.no.val).iterSeen w.heap.size=seen.push en.born:=by
      unfold World.iterSeen;rw[(ZW _ _ _ _ (λe=>FL e.symm)).trans i1]
     exact hx1
    unfold Mm.val at HF pT;clear hpl hdone WK hch hrg i2 i4 hbr hit hen UB hw1 m_ Wz Qt hne hat Fy;go_wp2
    go_roundw
    case rel=>exact HF.o
    case measure=>
     rw[pT.o,HS.o];exact HL.o
theorem bU (w:World):Calls prog 69 #[.map none] w λe w'=>e=.returned (.tuple #[])/\Below w.heap.size w w':=by
 have hrg:=run_range_nilMap (P:=prog) w 138 _ _ underlying138;have hnx:=run_next_nilMap (P:=prog) w 0 0 0 #[];go_enter func69,ntmps69;go_wp2;refine wp_loop_rounds 1 ?_;rw[rounds_succ];go_wp2
 go_end0
 exact zt6
structure Done (u:Mm->Mm)(es:Array MapEntry)(l:List (ByteArray×Value))(ps:Nat->List Nat)(pm:Nat->Mm)(seen:Array Nat)(T_:Nat->Mm):Prop where
 all:∀e∈es.toList,∀ib,e.val=.map (some ib)->seen.contains e.born=true->∀p∈ps ib,T_ p=u (pm p)
 each:∀p,T_ p=pm p\/(T_ p=u (pm p)/\∃s,Reg l ps s p)
theorem Done.start (u:Mm->Mm)(es:Array MapEntry)(l:List (ByteArray×Value))(ps:Nat->List Nat)(pm:Nat->Mm):Done u es l ps pm #[] pm:=⟨λe _ ib _ hc=>by simp at hc,λp=>.inl rfl⟩
theorem Done.blk {u:Mm->Mm}{es:Array MapEntry}{l:List (ByteArray×Value)}{ps:Nat->List Nat}{pm T_:Nat->Mm}{seen:Array Nat}(h:Done u es l ps pm seen T_)(hu:∀x q,(u x).arr=some q->x.arr=some q){L:List (Nat×ByteArray)}{k:Nat}(hk:Vm L T_ k):Vm L pm k:=by
 obtain⟨p,s,hps,e|e⟩:=hk
 . exact lT
 . refine⟨p,s,hps,.inr ?_⟩;rcases h.each p with h1|⟨h1,_⟩
   . rw[h1]at e;exact e
   . rw[h1]at e;exact hu _ _ e
theorem Done.step {u:Mm->Mm}{es:Array MapEntry}{clock:Nat}{l:List (ByteArray×Value)}{ps:Nat->List Nat}{pm T_ By:Nat->Mm}{seen:Array Nat}(h:Done u es l ps pm seen T_)(hu:∀x,u (u x)=u x)(Ww:Born es clock){en:MapEntry}(UB:en∈es.toList){s:ByteArray}{ib:Nat}(hv:en.val=.map (some ib))(hl:l.lookup s=some (.map (some ib)))
 (h1:∀p∈ps ib,By p=u (T_ p)) (h2:∀p,p ∉ ps ib->By p=T_ p):Done u es l ps pm (seen.push en.born) By:=by
 have UI:∀p∈ps ib,By p=u (pm p):=λp hp=>by
  rw[h1 p hp];rcases h.each p with e|⟨e,_⟩
  . rw[e]
  . rw[e,hu]
 refine⟨λe he jb yb hc p hp=>?_,λp=>?_⟩
 . by_cases hpi:p∈ps ib
   . exact UI p hpi
   . rw[h2 p hpi];refine h.all e he jb yb ?_ p hp;rw[contains_push]at hc
     cases hcs:seen.contains e.born with
     | true=>rfl
     | false=>
      rw[hcs,WY]at hc;refine ahc ?_;intro Ss tQ;rw[tQ,hv]at yb;injection yb with yb;injection yb with yb;subst yb;exact absurd hp hpi
 . by_cases hpi:p∈ps ib
   . exact .inr ⟨UI p hpi,s,ib,hl,hpi⟩
   . rw[h2 p hpi];exact h.each p
theorem Done.finish {u:Mm->Mm}{es:Array MapEntry}{l:List (ByteArray×Value)}{ps:Nat->List Nat}{pm T_:Nat->Mm}{seen:Array Nat}(h:Done u es l ps pm seen T_)(hl:Holds es l)(h0:(leftOf es seen).size=0):(∀s p,Reg l ps s p->T_ p=u (pm p))/\(∀p,(∀s,¬Reg l ps s p)->T_ p=pm p):=by
 refine⟨λs p ⟨ib,hs,hp⟩=>?_,λp hp=>?_⟩
 . have hm:=jX hs;have:(Value.string s,Value.map (some ib))∈es.toList.map (λe=>(e.key,e.val)):=by rw[hl];exact Zy.2 ⟨_,hm,rfl⟩
   obtain⟨e,he,hev⟩:=Zy.1 this;injection hev with _ hev;exact h.all e he ib hev (zy h0 he) p hp
 . rcases h.each p with e|⟨_,s,e⟩
   . exact e
   . exact absurd e (hp s)
theorem yX {w:World}{sb:Nat}{l:List (ByteArray×Value)}{ps:Nat->List Nat}(h:Ux w sb l ps){es:Array MapEntry}(hl:Holds es l)(hu:Uniq l){en:MapEntry}(UB:en∈es.toList):∃s ib,en.key=.string s/\en.val=.map (some ib)/\l.lookup s=some (.map (some ib))/\LX w ib (ps ib):=by
 have:(en.key,en.val)∈l.map (λp=>(Value.string p.1,p.2)):=by rw[<- hl];exact Zy.2 ⟨en,UB,rfl⟩
 obtain⟨⟨s,v⟩,hm,e⟩:=Zy.1 this;injection e with e1 e2;have hlk:=oH hu hm;obtain⟨ib,rfl,h4,_⟩:=h.inn s v hlk;exact⟨s,ib,e1.symm,e2.symm,hlk,h4⟩
theorem dD (m:Im)(cb cm:Nat->Nat)(b c0 sb n:Nat)(cur:Array Value)(l:List (ByteArray×Value))(ps:Nat->List Nat)(R:Nat->U1)(L:List (Nat×ByteArray))(pm:Nat->Mm)(Sd:ByteArray->U1->Prop)(w:World)(hm:U3 m)(hc0:c0<m.kl.length)
 (S3:w.heap[b]?=some (.cells cur 70)) (hb:w.cell? (VJ b 5)=some (.map (some sb))) (hs:Ux w sb l ps) (ht:TabAt w b n R) (hcl:Cls w m cb cm) (hP:Sm bd w L pm Sd) (q_:∀s p,Reg l ps s p->(p,s)∈L)
 (hQ:∀s r,Sd s r->Nw m cb r) (hr:∀i,i<n->Nw m cb (R i)):
 Calls prog 66 #[VG b,VG (cb c0)] w λe w'=>e=.returned (.tuple #[])/\∃T_,Sm bd w' L T_ Sd/\(∀s p,Reg l ps s p->T_ p=(pm p).forget (Tj m cb c0))/\(∀p,(∀s,¬Reg l ps s p)->T_ p=pm p)/\
  TabAt w' b n (λi=>if i<n/\Tj m cb c0 (R i)=true then noRow else R i)/\Vt w w' (λk=>k=b\/Vm L pm k)/\UK w w' b:=by
 have hbl:=ht.Vb.lt;have Ww:=TK hP S3 Vz Vz
 have DE:∀c,c<m.kl.length->¬Vm L pm (cb c)/\cb c≠b:=λc hc=>by
  exact anY
 have Rr:=hP.lt;obtain⟨es,clock,hmb,uR,Q0,hun⟩:=id hs.map;have hsl:=hs.map.lt;have RE:=TT hP hmb;refine aiF ?_;intro HS HN;clear hs ht hcl hP q_ Ww DE Rr S3;go_enter func66,ntmps66;have hz0:(w.alloc (.cells #[VG (cb c0)] 57)).heap[w.heap.size]?=some (.cells #[VG (cb c0)] 57):=(Z4 w _).1;have hb0:(w.alloc (.cells #[VG (cb c0)] 57)).cell? (VJ b 5)=some (.map (some sb)):=UG;have hsz0:(w.alloc (.cells #[VG (cb c0)] 57)).heap.size=w.heap.size+1:=Vy;have rx:(w.alloc (.cells #[VG (cb c0)] 57)).heap[sb]?=some (.map es clock):=(ZV _ _ _ hsl).trans hmb;have hrg:=Wq (P:=prog) (w.alloc (.cells #[VG (cb c0)] 57)) 56 _ _ sb es clock underlying56 rx;rw[hsz0]at hrg;have sy:Hid (Vt w ((w.alloc (.cells #[VG (cb c0)] 57)).alloc (.mapIter (some sb) clock #[] clock)) (Vm L pm)):=((Vt.refl w _).alloc _).alloc _
 have aM:Hid (((w.alloc (.cells #[VG (cb c0)] 57)).alloc (.mapIter (some sb) clock #[] clock)).heap[w.heap.size+1]?=some (.mapIter (some sb) clock #[] clock)):=by
  have hx1:=(Z4 (w.alloc (.cells #[VG (cb c0)] 57)) (.mapIter (some sb) clock #[] clock)).1;rw[hsz0]at hx1;exact hx1
 have FO:Hid (((w.alloc (.cells #[VG (cb c0)] 57)).alloc (.mapIter (some sb) clock #[] clock)).cell? (VJ w.heap.size 0)=some ((VG (cb c0)))):=by
  have hx1:((w.alloc (.cells #[VG (cb c0)] 57)).alloc (.mapIter (some sb) clock #[] clock)).cell? (VJ w.heap.size 0)=some ((VG (cb c0))):=by
   refine(Z9 (a:=(VJ w.heap.size 0)) aj8).trans ?_;simp only[World.cell?,hz0];rfl
  exact hx1
 clear hz0 hsz0 rx;go_wp2;have huu:∀x,Mm.forget (Tj m cb c0) (Mm.forget (Tj m cb c0) x)=Mm.forget (Tj m cb c0) x:=Mm.Ig _
 have Bt:∀x q,(Mm.forget (Tj m cb c0) x).arr=some q->x.arr=some q:=λx q e=>by
  rcases Mm.QH (Tj m cb c0) x with h1|h1
  . rw[h1]at e;cases e
  . rw[h1]at e;exact e
 clear hrg hb0
 go_loopw [13] (λ_ wr=>∃seen T_,wr.heap[w.heap.size+1]?=some (.mapIter (some sb) clock seen clock)/\Sm bd wr L T_ Sd/\Done (Mm.forget (Tj m cb c0)) es l ps pm seen T_/\Vt w wr (Vm L pm)/\wr.cell? (VJ w.heap.size 0)=some ((VG (cb c0)))) (λ_ wr=>(leftOf es (wr.iterSeen (w.heap.size+1))).size)
 case atStart=>
  exact⟨#[],pm,aM.o,HS.o.2.2.2.1.same (λk hk=>(ZV _ _ _ (by simp;have:=HN.o.2.2 k hk;omega)).trans (ZV _ _ _ (HN.o.2.2 k hk))),Done.start _ _ _ _ _,sy.o,FO.o⟩
 case round=>
  obtain⟨seen,T_,hit,hpl,ZS,hch,hx0⟩:=hrel;have hbr:=(hch.block sb hsl RE).trans hmb
  have H_:∀W,Vt wr W (λk=>k=b\/Vm L pm k\/k=w.heap.size+1)->W.cell? (VJ w.heap.size 0)=some ((VG (cb c0)))/\Cls W m cb cm:=by
   intro W hW;have hxl:=ZE wr (VJ w.heap.size 0) hx0;refine⟨(Z9 (a:=(VJ w.heap.size 0)) (hW.block _ hxl (λe=>?_))).trans hx0,?_⟩
   . rcases e with e|e|e
     . simp only at e;omega
     . have:=HN.o.2.2 _ e;simp only at this;omega
     . simp only at e;omega
   . refine HS.o.2.2.1.same (λc hc=>?_);have hlt:=(HS.o.2.2.1.Vb hc).lt;refine(hW.block _ (ZY hlt hch.size) (λe=>?_)).trans (hch.block _ hlt (HN.o.2.1 c hc).1);rcases e with e|e|e
     . exact(HN.o.2.1 c hc).2 e
     . exact(HN.o.2.1 c hc).1 e
     . omega
  rcases VO (P:=prog) wr 0 (w.heap.size+1) sb clock clock seen es clock hit hbr (λx hx=>Q0.1 x hx) UM with⟨hl0,hnx⟩|⟨en,hen,w1,hw1,hnx⟩
  . have htr:=HS.o.2.1.same (hch.block b hbl HN.o.1);have htab:=GX b n _ _ _ _ (Nw m cb) R wr (abn m cb cm c0 w.heap.size hm hc0) hr (λW hW=>H_ W (hW.mono jJ)) htr
    have HC:Hid (Sm bd wr L T_ Sd/\Done (Mm.forget (Tj m cb c0)) es l ps pm seen T_/\Vt w wr (Vm L pm)/\(leftOf es seen).size=0):=⟨hpl,ZS,hch,hl0⟩
    clear hpl ZS hch H_ htr hit hbr hx0;go_wp2_with fail;refine htab.mono ?_;rintro e w3 ⟨rfl,Ks,hc3,hd3⟩
    have HE:Hid (TabAt w3 b n (λi=>if i<n/\Tj m cb c0 (R i)=true then noRow else R i)/\Vt wr w3 (λk=>k=b)/\UK wr w3 b):=⟨Ks,hc3,hd3⟩
    clear Ks hc3 hd3 htab;go_wp2
    go_end0
    obtain⟨hpl,ZS,hch,hl0⟩:=HC.o;obtain⟨Ks,hc3,hd3⟩:=HE.o;obtain⟨hf1,hf2⟩:=ZS.finish uR hl0;refine⟨rfl,T_,hpl.same (λk hk=>hc3.block k (ZY (HN.o.2.2 k (ZS.blk Bt hk)) hch.size) (λe=>?_)),hf1,hf2,Ks,(hch.mono lF).then hc3 jJ,(UK.of_block (hch.block b hbl HN.o.1)).trans hd3⟩;subst e;exact HN.o.1 (ZS.blk Bt hk)
  . have UB:=(mem_left hen).1;obtain⟨s,ib,zP,hev,hls,Wb⟩:=yX HS.o.1 uR hun UB;obtain⟨i1,i2,i3,i4⟩:=Gw (o':=.mapIter (some sb) clock (seen.push en.born) clock) hw1 hit;obtain⟨W2,hW2⟩:∃W2,W2=ChangeMaps.setBlock w1 (w.heap.size+1) (.mapIter (some sb) clock (seen.push en.born) clock):=Vx;rw[<- hW2]at i1 i2 i3 i4 hnx;clear hW2;have hent:=VX (P:=prog) W2 (w.heap.size+1) sb clock seen es clock en i1 ((i2 sb VH).trans hbr) UB Q0.2;rw[zP,hev]at hnx hent;have m_:=hpl.same (λk hk=>i2 k (λe=>by have:=HN.o.2.2 k (ZS.blk Bt hk);omega))
    have B_:LX W2 ib (ps ib):=by
     obtain⟨es',db,hx,_⟩:=id Wb;refine Wb.same ((i2 ib (λe=>by have:=Wb.lt;omega)).trans (hch.block ib Wb.lt (TT HS.o.2.2.2.1 hx)))
    have hcall:=Fb ib 103 #[VG w.heap.size] (ps ib) (Tj m cb c0) _ (Nw m cb) L T_ Sd W2 B_ (λp hp=>⟨s,HS.o.2.2.2.2 s p ⟨ib,hls,hp⟩⟩) m_ (abn m cb cm c0 w.heap.size hm hc0) hQ (λW hW=>H_ W ((i4.mono (λk _ e=>.inr (.inr e))).then hW (λk _ e=>.inr (.inl (ZS.blk Bt e)))));have HL:=UQ akj
    have Fo:Hid (wr.iterSeen (w.heap.size+1)=seen):=by
     have hx1:wr.iterSeen (w.heap.size+1)=seen:=alW;exact hx1
    have HC:Hid (Done (Mm.forget (Tj m cb c0)) es l ps pm seen T_/\Vt w W2 (Vm L pm)/\W2.heap[w.heap.size+1]?=some (.mapIter (some sb) clock (seen.push en.born) clock)/\en∈es.toList/\en.val=.map (some ib)/\l.lookup s=some (.map (some ib))/\(∀W,Vt wr W (λk=>k=b\/Vm L pm k\/k=w.heap.size+1)->W.cell? (VJ w.heap.size 0)=some ((VG (cb c0)))/\Cls W m cb cm)/\Vt wr W2 (λk=>k=w.heap.size+1)):=⟨ZS,hch.then i4 aK,i1,UB,hev,hls,H_,i4⟩
    clear hpl ZS hch H_ hit hbr hx0 i1 i2 i3 i4 m_ B_ hen UB hw1 hev hls zP Wb;go_wp2_with fail;refine hcall.mono ?_;rintro e w3 ⟨rfl,By,hp2,hf1,hf2,hc3⟩
    have HE:Hid (∃seen T_,w3.heap[w.heap.size+1]?=some (.mapIter (some sb) clock seen clock)/\Sm bd w3 L T_ Sd/\Done (Mm.forget (Tj m cb c0)) es l ps pm seen T_/\Vt w w3 (Vm L pm)/\w3.cell? (VJ w.heap.size 0)=some ((VG (cb c0)))):=by
     obtain⟨ZS,Wz,i1,UB,hev,hls,H_,i4⟩:=HC.o
     have hx1:∃seen T_,w3.heap[w.heap.size+1]?=some (.mapIter (some sb) clock seen clock)/\Sm bd w3 L T_ Sd/\Done (Mm.forget (Tj m cb c0)) es l ps pm seen T_/\Vt w w3 (Vm L pm)/\w3.cell? (VJ w.heap.size 0)=some ((VG (cb c0))):=⟨seen.push en.born,By,(hc3.block _ (Z5.1 i1).1 (λe=>by have:=HN.o.2.2 _ (ZS.blk Bt e);omega)).trans i1,hp2,ZS.step huu Q0 UB hev hls hf1 hf2,Wz.then hc3 (λk _ e=>ZS.blk Bt e),(H_ w3 ((i4.mono (λk _ e=>.inr (.inr e))).then hc3 (λk _ e=>.inr (.inl (ZS.blk Bt e))))).1⟩
     exact hx1
    have od:Hid (w3.iterSeen (w.heap.size+1)=seen.push en.born):=by
     have hx1:w3.iterSeen (w.heap.size+1)=seen.push en.born:=by
      obtain⟨ZS,Wz,i1,_⟩:=HC.o;unfold World.iterSeen;rw[(hc3.block _ (Z5.1 i1).1 (λe=>by have:=HN.o.2.2 _ (ZS.blk Bt e);omega)).trans i1]
     exact hx1
    clear hp2 hf1 hf2 hc3 hcall hnx hent;go_wp2
    go_roundw
    case rel=>exact HE.o
    case measure=>
     rw[od.o,Fo.o];exact HL.o
theorem dw (w:World)(b n:Nat)(R:Nat->U1)(cur:Array Value)(ty:TypeId)(h:TabAt w b n R)(h1:w.heap[b]?=some (.cells cur 70)):
 ∃w',(Builtin.clear_ #[139] ty #[.slice (some (VJ b 6)) n 64]).run prog w=.ok (.tuple #[]) w'/\TabAt w' b n (λi=>if i<n then noRow else R i)/\Vt w w' (λk=>k=b)/\UK w w' b:=by
 have Z1:=h.n1;have gv:=h.n64
 have hsz:262<cur.size:=by
  have:=h.sz;simp only[World.cell?,h1]at this;simp at this;exact(Z5.1 this).1
 obtain⟨m,hm⟩:∃m,n=m+1:=⟨n-1,VH⟩
 have hzl:(Builtin.zeroCells #[Value.pointer none,.string ⟨#[]⟩,.pointer none,.pointer none] n).toList.length=n*4:=by simp[Builtin.zeroCells]
 have cK:∀k,k<n*4->(Builtin.zeroCells #[Value.pointer none,.string ⟨#[]⟩,.pointer none,.pointer none] n).toList[k]?=some (#[Value.pointer none,.string ⟨#[]⟩,.pointer none,.pointer none][k % 4]!):=λk hk=>by
  simp[Builtin.zeroCells,hk]
 have hst:=Wv (P:=prog) b 6 70 (Builtin.zeroCells #[Value.pointer none,.string ⟨#[]⟩,.pointer none,.pointer none] n).toList 0 cur w h1 (by rw[hzl];omega) (by
  intro v hv;simp only[Builtin.zeroCells,Array.toList_map,Zy]at hv;obtain⟨k,_,rfl⟩:=hv;refine aiH ?_;intro hk
  rcases hk with e|e|e|e<;>rw[e]<;>rfl)
 obtain⟨zs,hzs⟩:∃zs,(Builtin.zeroCells #[Value.pointer none,.string ⟨#[]⟩,.pointer none,.pointer none] n).toList=zs:=Vx;rw[hzs]at hst hzl cK;rw[Yt,hzl]at hst;have hheap:=VP w b cur (cur.toList.take 6++zs++cur.toList.drop (6+n*4)).toArray 70 (0,0) h1
 have hlo:∀o,o<6\/6+n*4<=o->(cur.toList.take 6++zs++cur.toList.drop (6+n*4)).toArray[o]?=cur[o]?:=λo ho=>by
  simp only[YF];by_cases h6:o<6
  . rw[Y1,ZH Vo,Zl h6,Zf]
  . rw[ZP (by simp[hzl];omega),Zn];simp only[Zw,Za,hzl,Xt];rw[show 6+n*4+(o-(min 6 cur.size+n*4))=o from VH,Zf]
 have Vn:∀k,k<n*4->(cur.toList.take 6++zs++cur.toList.drop (6+n*4)).toArray[6+k]?=some (#[Value.pointer none,.string ⟨#[]⟩,.pointer none,.pointer none][k % 4]!):=λk hk=>by
  simp only[YF];rw[Y1,ZP Vo,ZH (by simp[hzl];omega)];simp only[Za,Xt];rw[show 6+k-min 6 cur.size=k from VH];exact cK k hk
 have Km:∀o,o<6\/6+n*4<=o->(w.setRow b (cur.toList.take 6++zs++cur.toList.drop (6+n*4)).toArray).cell? (VJ b o)=w.cell? (VJ b o):=λo ho=>by
  simp only[World.cell?,hheap,h1];simpa using hlo o ho
 have Ev:∀k,k<n*4->(w.setRow b (cur.toList.take 6++zs++cur.toList.drop (6+n*4)).toArray).cell? (VJ b (6+k))=some (#[Value.pointer none,.string ⟨#[]⟩,.pointer none,.pointer none][k % 4]!):=λk hk=>by
  simp only[World.cell?,hheap];simpa using Vn k hk
 refine⟨w.setRow b (cur.toList.take 6++zs++cur.toList.drop (6+n*4)).toArray,?_,⟨⟨_,_,hheap⟩,Z1,gv,?_,λj hj=>?_,λj hj=>?_,λj hj=>?_,λj hj=>?_⟩,⟨rfl,rfl,rfl,agL,λk _ hk=>setRow_other _ _ _ _ hk⟩,⟨λo ho=>Km o (.inl ho),λt ⟨cs,hcs⟩=>?_⟩⟩
 . exact amF
 . rw[Km _ VH];exact h.sz
 . by_cases e:j<n
   . rw[show 6+j*4=6+(j*4) from rfl,Ev _ VH,show j*4 % 4=0 from VH];simp[e,noRow]
   . rw[Km _ VH,h.c0 j hj];simp[e]
 . by_cases e:j<n
   . rw[show 6+j*4+1=6+(j*4+1) from rfl,Ev _ VH,show (j*4+1) % 4=1 from VH];simp[e,noRow]
   . rw[Km _ VH,h.c1 j hj];simp[e]
 . by_cases e:j<n
   . rw[show 6+j*4+2=6+(j*4+2) from rfl,Ev _ VH,show (j*4+2) % 4=2 from VH];simp[e,noRow]
   . rw[Km _ VH,h.c2 j hj];simp[e]
 . by_cases e:j<n
   . rw[show 6+j*4+3=6+(j*4+3) from rfl,Ev _ VH,show (j*4+3) % 4=3 from VH];simp[e,noRow]
   . rw[Km _ VH,h.c3 j hj];simp[e]
 . rw[h1]at hcs;injection hcs with hcs;injection hcs with _ hcs _;subst hcs;exact⟨_,hheap⟩
theorem aay:∀(x:Mm) (q:Nat),((λ_=>Mm.no) x).arr=some q->x.arr=some q:=λx q e=>EO
theorem Aw (b sb n:Nat)(cur:Array Value)(l:List (ByteArray×Value))(ps:Nat->List Nat)(R:Nat->U1)(L:List (Nat×ByteArray))(pm:Nat->Mm)(Sd:ByteArray->U1->Prop)(w:World)
 (S3:w.heap[b]?=some (.cells cur 70)) (hb:w.cell? (VJ b 5)=some (.map (some sb))) (hs:Ux w sb l ps) (ht:TabAt w b n R) (hP:Sm bd w L pm Sd) (q_:∀s p,Reg l ps s p->(p,s)∈L):
 Calls prog 35 #[VG b] w λe w'=>e=.returned (.tuple #[])/\∃T_,Sm bd w' L T_ Sd/\(∀s p,Reg l ps s p->T_ p=.no)/\(∀p,(∀s,¬Reg l ps s p)->T_ p=pm p)/\
  TabAt w' b n (λi=>if i<n then noRow else R i)/\Vt w w' (λk=>k=b\/Vm L pm k)/\UK w w' b:=by
 have hbl:=ht.Vb.lt;have Ww:=TK hP S3 Vz Vz;have Rr:=hP.lt;obtain⟨es,clock,hmb,uR,Q0,hun⟩:=id hs.map;have hsl:=hs.map.lt;have RE:=TT hP hmb
 have HS:Hid (Ux w sb l ps/\TabAt w b n R/\Sm bd w L pm Sd/\(∀s p,Reg l ps s p->(p,s)∈L)/\w.heap[b]?=some (.cells cur 70)):=⟨hs,ht,hP,q_,S3⟩
 have HN:Hid (¬Vm L pm b/\(∀k,Vm L pm k->k<w.heap.size)):=⟨Ww,Rr⟩
 clear hs ht hP q_ Ww Rr S3;have hrg:=Wq (P:=prog) w 56 _ _ sb es clock underlying56 hmb;go_enter func35,ntmps35;go_wp2;clear hrg
 go_loopw [9] (λ_ wr=>∃seen T_,wr.heap[w.heap.size]?=some (.mapIter (some sb) clock seen clock)/\Sm bd wr L T_ Sd/\Done (λ_=>.no) es l ps pm seen T_/\Vt w wr (Vm L pm)) (λ_ wr=>(leftOf es (wr.iterSeen w.heap.size)).size)
 case atStart=>
  exact⟨#[],pm,(Z4 w _).1,HS.o.2.2.1.same (λk hk=>ZV _ _ _ (HN.o.2 k hk)),Done.start _ _ _ _ _,(Vt.refl w _).alloc _⟩
 case round=>
  obtain⟨seen,T_,hit,hpl,ZS,hch⟩:=hrel;have hbr:=(hch.block sb hsl RE).trans hmb;rcases VO (P:=prog) wr 0 w.heap.size sb clock clock seen es clock hit hbr (λx hx=>Q0.1 x hx) UM with⟨hl0,hnx⟩|⟨en,hen,w1,hw1,hnx⟩
  . have hbb:=hch.block b hbl HN.o.1;have htr:=HS.o.2.1.same hbb;obtain⟨w3,Cn,Ks,hc3,hd3⟩:=dw wr.drew b n R cur 0 (htr.same rfl) (hbb.trans HS.o.2.2.2.2);have ix:∀ty,(Builtin.clear_ #[139] ty #[.slice (some (VJ b 6)) n 64]).run prog wr.drew=.ok (.tuple #[]) w3:=λty=>Cn;have hcall:=LK b n R wr htr
    have HC:Hid (Sm bd wr L T_ Sd/\Done (λ_=>.no) es l ps pm seen T_/\Vt w wr (Vm L pm)/\(leftOf es seen).size=0):=⟨hpl,ZS,hch,hl0⟩
    have HE:Hid (TabAt w3 b n (λi=>if i<n then noRow else R i)/\Vt wr w3 (λk=>k=b)/\UK wr w3 b):=⟨Ks,(Vt.refl wr _).drew.trans hc3,(UK.of_block (w:=wr) (w':=wr.drew) rfl).trans hd3⟩
    clear hpl ZS hch htr hit hbr Ks hc3 hd3 Cn;go_wp2_with fail;refine hcall.mono ?_;rintro e w2 ⟨rfl,rfl⟩;go_wp2
    go_end0
    obtain⟨hpl,ZS,hch,hl0⟩:=HC.o;obtain⟨Ks,hc3,hd3⟩:=HE.o;obtain⟨hf1,hf2⟩:=ZS.finish uR hl0;refine⟨rfl,T_,hpl.same (λk hk=>hc3.block k (ZY (HN.o.2 k (ZS.blk aay hk)) hch.size) (λe=>?_)),hf1,hf2,Ks,(hch.mono lF).then hc3 jJ,(UK.of_block (hch.block b hbl HN.o.1)).trans hd3⟩;subst e;exact HN.o.1 (ZS.blk aay hk)
  . have UB:=(mem_left hen).1;obtain⟨s,ib,zP,hev,hls,Wb⟩:=yX HS.o.1 uR hun UB;obtain⟨i1,i2,i3,i4⟩:=Gw (o':=.mapIter (some sb) clock (seen.push en.born) clock) hw1 hit;obtain⟨W2,hW2⟩:∃W2,W2=ChangeMaps.setBlock w1 w.heap.size (.mapIter (some sb) clock (seen.push en.born) clock):=Vx;rw[<- hW2]at i1 i2 i3 i4 hnx;clear hW2;have hent:=VX (P:=prog) W2 w.heap.size sb clock seen es clock en i1 ((i2 sb VH).trans hbr) UB Q0.2;rw[zP,hev]at hnx hent;have m_:=hpl.same (λk hk=>i2 k (λe=>by have:=HN.o.2 k (ZS.blk aay hk);omega))
    have B_:LX W2 ib (ps ib):=by
     obtain⟨es',db,hx,_⟩:=id Wb;refine Wb.same ((i2 ib (λe=>by have:=Wb.lt;omega)).trans (hch.block ib Wb.lt (TT HS.o.2.2.1 hx)))
    have hcall:=yU ib (ps ib) L T_ Sd W2 B_ (λp hp=>⟨s,HS.o.2.2.2.1 s p ⟨ib,hls,hp⟩⟩) m_;have HL:=UQ akj
    have Fo:Hid (wr.iterSeen w.heap.size=seen):=by
     exact ag9
    have HC:Hid (Done (λ_=>.no) es l ps pm seen T_/\Vt w W2 (Vm L pm)/\W2.heap[w.heap.size]?=some (.mapIter (some sb) clock (seen.push en.born) clock)/\en∈es.toList/\en.val=.map (some ib)/\l.lookup s=some (.map (some ib))/\Vt wr W2 (λk=>k=w.heap.size)):=⟨ZS,hch.then i4 aK,i1,UB,hev,hls,i4⟩
    clear hpl ZS hch hit hbr i1 i2 i3 i4 m_ B_ hen UB hw1 hev hls zP Wb;go_wp2_with fail;refine hcall.mono ?_;rintro e w3 ⟨rfl,By,hp2,hf1,hf2,hc3⟩
    have HE:Hid (∃seen T_,w3.heap[w.heap.size]?=some (.mapIter (some sb) clock seen clock)/\Sm bd w3 L T_ Sd/\Done (λ_=>.no) es l ps pm seen T_/\Vt w w3 (Vm L pm)):=by
     obtain⟨ZS,Wz,i1,UB,hev,hls,i4⟩:=HC.o
     have hx1:∃seen T_,w3.heap[w.heap.size]?=some (.mapIter (some sb) clock seen clock)/\Sm bd w3 L T_ Sd/\Done (λ_=>.no) es l ps pm seen T_/\Vt w w3 (Vm L pm):=⟨seen.push en.born,By,(hc3.block _ (Z5.1 i1).1 (λe=>by have:=HN.o.2 _ (ZS.blk aay e);omega)).trans i1,hp2,ZS.step (λ_=>rfl) Q0 UB hev hls hf1 hf2,Wz.then hc3 (λk _ e=>ZS.blk aay e)⟩
     exact hx1
    have od:Hid (w3.iterSeen w.heap.size=seen.push en.born):=by
     have hx1:w3.iterSeen w.heap.size=seen.push en.born:=by
      obtain⟨ZS,Wz,i1,_⟩:=HC.o;unfold World.iterSeen;rw[(hc3.block _ (Z5.1 i1).1 (λe=>by have:=HN.o.2 _ (ZS.blk aay e);omega)).trans i1]
     exact hx1
    clear hp2 hf1 hf2 hc3 hcall hnx hent;go_wp2
    go_roundw
    case rel=>exact HE.o
    case measure=>
     rw[od.o,Fo.o];exact HL.o
def FX (sel:ByteArray)(r:U1):Bool:=decide (r.sel=sel)
theorem akM (sel:ByteArray)(x:Nat):Ih 72 #[VG x] (FX sel) (λW=>W.cell? (VJ x 0)=some (.string sel)) (λ_=>True):=by
 refine⟨λargs W=>lK,λW r hx _=>?_⟩;have hxl:=ZE W (VJ x 0) hx;show Calls _ _ #[_,_] _ _;by_cases he:r.sel=sel
 . have htl:r.sel.toList=sel.toList:=by rw[he]
   rw[show FX sel r=true from by simp[FX,he]];unfold U1.val;clear he;go_enter func72,ntmps72;go_wp2
   go_ret
   exact⟨bF,(ZR _ _).alloc UM _⟩
 . have hne:=IJ he;rw[show FX sel r=false from by simp[FX,he]];unfold U1.val;clear he;go_enter func72,ntmps72;go_wp2
   go_ret
   exact zt6
theorem AQ (b sb n:Nat)(cur:Array Value)(l:List (ByteArray×Value))(ps:Nat->List Nat)(R:Nat->U1)(L:List (Nat×ByteArray))(pm:Nat->Mm)(Sd:ByteArray->U1->Prop)(sel:ByteArray)(w:World)
 (S3:w.heap[b]?=some (.cells cur 70)) (hb:w.cell? (VJ b 5)=some (.map (some sb))) (hs:Ux w sb l ps) (ht:TabAt w b n R) (hP:Sm bd w L pm Sd) (q_:∀s p,Reg l ps s p->(p,s)∈L):
 Calls prog 36 #[VG b,.string sel] w λe w'=>e=.returned (.tuple #[])/\∃T_,Sm bd w' L T_ Sd/\(∀p,Reg l ps sel p->T_ p=.no)/\(∀p,¬Reg l ps sel p->T_ p=pm p)/\
  TabAt w' b n (λi=>if i<n/\FX sel (R i)=true then noRow else R i)/\Vt w w' (λk=>k=b\/Vm L pm k)/\UK w w' b:=by
 have hbl:=ht.Vb.lt;have Ww:=TK hP S3 Vz Vz;have Rr:=hP.lt
 have HS:Hid (Ux w sb l ps/\TabAt w b n R/\Sm bd w L pm Sd/\(∀s p,Reg l ps s p->(p,s)∈L)):=⟨hs,ht,hP,q_⟩
 have HN:Hid (¬Vm L pm b/\(∀k,Vm L pm k->k<w.heap.size)):=⟨Ww,Rr⟩
 clear hs ht hP q_ Ww Rr S3;go_enter func36,ntmps36;go_wp2_with fail;have hz0:(w.alloc (.cells #[.string sel] 9)).heap[w.heap.size]?=some (.cells #[.string sel] 9):=(Z4 w _).1;have hb0:(w.alloc (.cells #[.string sel] 9)).cell? (VJ b 5)=some (.map (some sb)):=UG;have US:Vt w (w.alloc (.cells #[.string sel] 9)) (λ_=>False):=(Vt.refl w _).alloc _;revert hz0 hb0 US;generalize w.alloc (.cells #[.string sel] 9)=W0;intro hz0 hb0 US;have zl:=(Z5.1 hz0).1;have zc:W0.cell? (VJ w.heap.size 0)=some (.string sel):=by simp only[World.cell?,hz0];rfl
 have hs0:=HS.o.1.Ut US EZ Nh aap;have pA:=HS.o.2.2.1.same (λk hk=>US.block k (HN.o.2 k hk) EZ);refine ahO ?_;intro L0 Sb;have HZC:Hid _:=zc
 have NN:∀(w2:World) (T_:Nat->Mm),Sm bd w2 L T_ Sd->(∀p,Reg l ps sel p->T_ p=.no)->(∀p,¬Reg l ps sel p->T_ p=pm p)->Vt W0 w2 (Vm L pm)->
  Calls prog 71 #[.pointer (some (VJ b 6)),.func (.func 72) #[] #[VG w.heap.size]] w2 λe w'=>e=.returned (.tuple #[])/\∃T_,Sm bd w' L T_ Sd/\(∀p,Reg l ps sel p->T_ p=.no)/\(∀p,¬Reg l ps sel p->T_ p=pm p)/\
   TabAt w' b n (λi=>if i<n/\FX sel (R i)=true then noRow else R i)/\Vt w w' (λk=>k=b\/Vm L pm k)/\UK w w' b:=by
  intro w2 T_ Fu hf1 hf2 hc2;obtain⟨_,_,Mi,Sh⟩:=L0.o;have Sh:=Sh.same (hc2.block b Sb HN.o.1);refine(GX b n _ _ _ _ _ R w2 (akM sel w.heap.size) (λ_ _=>trivial) (λW hW=>?_) Sh).mono ?_
  . refine(Z9 (a:=(VJ w.heap.size 0)) ((hW.block _ (ZY zl hc2.size) (λe=>?_)).trans (hc2.block _ zl (λe=>?_)))).trans HZC.o
    . omega
    . have:=HN.o.2 _ e;omega
  . rintro e w3 ⟨rfl,Sh,hc3,hd3⟩
    have hblk:∀k,Vm L T_ k->Vm L pm k:=by
     rintro k ⟨p,s,hps,e|e⟩
     . exact lT
     . refine⟨p,s,hps,.inr ?_⟩;by_cases q_:Reg l ps sel p
       . rw[hf1 p q_]at e;cases e
       . rw[hf2 p q_]at e;exact e
    refine⟨rfl,T_,Fu.same (λk hk=>hc3.block k ?_ (λe=>?_)),hf1,hf2,Sh,?_,(UK.of_block ((hc2.block b Sb HN.o.1).trans (Mi.block b hbl EZ))).trans hd3⟩
    . exact ZY (HN.o.2 k (hblk k hk)) (ZC Mi.size hc2.size)
    . subst e;exact HN.o.1 (hblk _ hk)
    . exact((Mi.mono (λ_ _ h=>h.elim)).then hc2 lF).then hc3 jJ
 have p8:Hid _:=NN;clear hz0 hs0 pA US NN hb
 cases hl:l.lookup sel with
 | none=>
  refine ajA ?_;intro lk rz;clear hl;refine Uy ?_;refine ahS ?_;intro hHeld;refine ado ?_;intro hHeld;refine Ul 6 λY_ Z_=>?_;go_simp;refine(bU _).mono ?_;rintro e w2 ⟨rfl,hb2⟩;have hb3:=(hb2.cell (p:=(VJ b 5)) Sb).trans hb0;have fd:=(hb2.cell (p:=(VJ w.heap.size 0)) zl).trans zc
  try go_wp2_with fail
  refine Z_.go λhHeld=>?_;clear Z_ Y_;refine Um ?_;have MD:Hid (Vt W0 w2 (Vm L pm)):=(Vt.refl W0 _).drew.trans (Vt.of_below hb2 _);have htab:=p8.o w2 pm (L0.o.2.1.same (λk hk=>hb2.block k (ZY (HN.o.2 k hk) L0.o.2.2.1.size))) (λp h=>absurd h (rz.o p)) (λp _=>rfl) MD.o;clear hb2 hb0 zc lk;clear hHeld;clear hHeld;clear hHeld;go_wp2_with fail;refine htab.mono ?_;rintro e w3 ⟨rfl,hres⟩;go_wp2
  go_end0
  exact⟨rfl,hres⟩
 | some v=>
  obtain⟨ib,rfl,B_,_⟩:=L0.o.1.inn sel v hl;have lk:(Instr.lookup 56 (.map (some sb)) (.string sel) false).run prog W0.drew=.ok (.map (some ib)) W0.drew:=akt;have hcall:=yU ib (ps ib) L pm Sd W0.drew (B_.same rfl) (λp hp=>⟨sel,HS.o.2.2.2 sel p ⟨ib,hl,hp⟩⟩) (L0.o.2.1.same Ji)
  have ii:Hid (∀p,Reg l ps sel p↔p∈ps ib):=by
   exact aoS
  have mH:¬Vm L pm w.heap.size:=λe=>by have:=HN.o.2 _ e;omega
  have Ww:=HN.o.1;clear B_ hl;refine Uy ?_;refine ahS ?_;intro hHeld;refine ado ?_;intro hHeld;refine Ul 6 λY_ Z_=>?_;go_simp;refine hcall.mono ?_;rintro e w2 ⟨rfl,T_,hp2,hf1,hf2,hb2⟩;have hb3:=(Z9 (a:=(VJ b 5)) (hb2.block b Sb Ww)).trans hb0;have fd:=(Z9 (a:=(VJ w.heap.size 0)) (hb2.block _ zl mH)).trans zc
  try go_wp2_with fail
  refine Z_.go λhHeld=>?_;clear Z_ Y_;refine Um ?_;refine ahv ?_;intro MD htab;clear hb2 hb0 zc lk hp2 hf1 hf2 hcall;clear hHeld;clear hHeld;clear hHeld;go_wp2_with fail;refine htab.mono ?_;rintro e w3 ⟨rfl,hres⟩;go_wp2
  go_end0
  exact⟨rfl,hres⟩
theorem ak {w:World}{b:Nat}{K:Kc}{Sd:ByteArray->U1->Prop}{Sr:U1->Prop}(h:Qr w b K (λ_=>False) Sd Sr)(m:Im)(cb cm:Nat->Nat)(c0:Nat)(hm:U3 m)(hc0:c0<m.kl.length)(hcl:Cls w m cb cm)
 (hQ:∀s r,Sd s r->Nw m cb r) (hR:∀r,Sr r->Nw m cb r):
 Calls prog 66 #[VG b,VG (cb c0)] w λe w'=>e=.returned (.tuple #[])/\∃pm R,Qr w' b {K with pm:=pm,R:=R} (λ_=>False) (λs r=>Sd s r/\Tj m cb c0 r=false) (λr=>(Sr r/\Tj m cb c0 r=false)\/r=noRow)/\
  (∀p q,(pm p).arr=some q->(K.pm p).arr=some q)/\Vt w w' (λk=>k=b\/Vm K.L K.pm k)/\UK w w' b:=by
 obtain⟨cur,V_⟩:=h.img;refine(dD m cb cm b c0 K.sb K.n cur K.l K.ps K.R K.L K.pm Sd w hm hc0 V_ h.b5 h.snd h.tab hcl h.Ru h.reg hQ (λi hi=>hR _ (h.rows i hi))).mono ?_;rintro e w' ⟨rfl,T_,hP,hf1,hf2,hT,hch,hd⟩
 have ZD:∀p,(∃s,Reg K.l K.ps s p/\T_ p=(K.pm p).forget (Tj m cb c0))\/((∀s,¬Reg K.l K.ps s p)/\T_ p=K.pm p):=λp=>by
  by_cases e:∃s,Reg K.l K.ps s p
  . obtain⟨s,e⟩:=e;exact .inl ⟨s,e,hf1 s p e⟩
  . exact .inr ⟨λs e'=>e ⟨s,e'⟩,hf2 p (λs e'=>e ⟨s,e'⟩)⟩
 have ha:∀p q,(T_ p).arr=some q->(K.pm p).arr=some q:=λp q e=>by
  rcases ZD p with⟨s,_,h1⟩|⟨_,h1⟩
  . rw[h1]at e;rcases Mm.QH (Tj m cb c0) (K.pm p) with h1|h1
    . rw[h1]at e;cases e
    . rw[h1]at e;exact e
  . rw[h1]at e;exact e
 refine⟨rfl,T_,_,h.forgot (hP.weaken (λp s r hps hr w_=>⟨w_,?_⟩)) hT (λi hi=>?_) (λp s hps e=>.inr ?_) ha hch hd,ha,hch,hd⟩
 . rcases ZD p with⟨s,_,h1⟩|⟨h0,h1⟩
   . rw[h1]at hr;exact(Mm.KR hr).2
   . rw[h1]at hr;rcases h.told p s hps with e|e|e
     . exact absurd e (h0 s)
     . rw[e]at hr;cases hr
     . exact e.elim
 . by_cases e:i<K.n/\Tj m cb c0 (K.R i)=true
   . rw[ZU e];exact .inr rfl
   . rw[ZX e];refine .inl ⟨h.rows i hi,?_⟩
     cases hl:Tj m cb c0 (K.R i) with
     | false=>rfl
     | true=>exact absurd ⟨hi,hl⟩ e
 . rcases ZD p with⟨s,_,h1⟩|⟨_,h1⟩
   . rw[h1];exact Mm.Oq.2 e
   . rw[h1];exact e
theorem AB {w:World}{b:Nat}{K:Kc}{Sd:ByteArray->U1->Prop}{Sr:U1->Prop}(h:Qr w b K (λ_=>False) Sd Sr)(hR:Sr noRow):
 Calls prog 35 #[VG b] w λe w'=>e=.returned (.tuple #[])/\∃pm R,Qr w' b {K with pm:=pm,R:=R} (λ_=>False) Sd Sr/\
  (∀p q,(pm p).arr=some q->(K.pm p).arr=some q)/\Vt w w' (λk=>k=b\/Vm K.L K.pm k)/\UK w w' b:=by
 obtain⟨cur,V_⟩:=h.img;refine(Aw b K.sb K.n cur K.l K.ps K.R K.L K.pm Sd w V_ h.b5 h.snd h.tab h.Ru h.reg).mono ?_;rintro e w' ⟨rfl,T_,hP,hf1,hf2,hT,hch,hd⟩
 have ZD:∀p,(∃s,Reg K.l K.ps s p/\T_ p=.no)\/T_ p=K.pm p:=λp=>by
  by_cases e:∃s,Reg K.l K.ps s p
  . obtain⟨s,e⟩:=e;exact .inl ⟨s,e,hf1 s p e⟩
  . exact .inr (hf2 p (λs e'=>e ⟨s,e'⟩))
 have ha:∀p q,(T_ p).arr=some q->(K.pm p).arr=some q:=λp q e=>by
  rcases ZD p with⟨s,_,h1⟩|h1
  . rw[h1]at e;cases e
  . rw[h1]at e;exact e
 refine⟨rfl,T_,_,h.forgot hP hT (λi hi=>by rw[ZU hi];exact hR) (λp s hps e=>?_) ha hch hd,ha,hch,hd⟩;by_cases hr:Reg K.l K.ps s p
 . exact .inl hr
 . rcases ZD p with⟨t,ht,h1⟩|h1
   . have:=h.Ru.one hps (h.reg t p ht);subst this;exact absurd ht hr
   . exact .inr (h1.trans e)
theorem AA {w:World}{b:Nat}{K:Kc}{Sd:ByteArray->U1->Prop}{Sr:U1->Prop}(h:Qr w b K (λ_=>False) Sd Sr)(hR:Sr noRow)(sel:ByteArray):
 Calls prog 36 #[VG b,.string sel] w λe w'=>e=.returned (.tuple #[])/\∃pm R,Qr w' b {K with pm:=pm,R:=R} (λ_=>False) Sd Sr/\
  (∀p q,(pm p).arr=some q->(K.pm p).arr=some q)/\Vt w w' (λk=>k=b\/Vm K.L K.pm k)/\UK w w' b:=by
 obtain⟨cur,V_⟩:=h.img;refine(AQ b K.sb K.n cur K.l K.ps K.R K.L K.pm Sd sel w V_ h.b5 h.snd h.tab h.Ru h.reg).mono ?_;rintro e w' ⟨rfl,T_,hP,hf1,hf2,hT,hch,hd⟩
 have ha:∀p q,(T_ p).arr=some q->(K.pm p).arr=some q:=λp q e=>by
  by_cases hr:Reg K.l K.ps sel p
  . rw[hf1 p hr]at e;cases e
  . rw[hf2 p hr]at e;exact e
 refine⟨rfl,T_,_,h.forgot hP hT (λi hi=>?_) (λp s hps e=>?_) ha hch hd,ha,hch,hd⟩
 . by_cases e:i<K.n/\FX sel (K.R i)=true
   . rw[ZU e];exact hR
   . rw[ZX e];exact h.rows i hi
 . by_cases hr:Reg K.l K.ps sel p
   . have:=h.Ru.one hps (h.reg sel p hr);subst this;exact .inl hr
   . exact .inr ((hf2 p hr).trans e)
end Go.Proofs.Rz
namespace Go.Proofs.Rz
open ChangeShapes WideShapes ChangeAt RowKit Kn Tryz
theorem aQ:(prog.info? 5).map (λi=>(i.zero,i.size,i.bytes))=some (some (.int .u8 0),1,1):=VE
theorem nX:prog.cellsOf 5=1:=VE
theorem byte_size:(prog.info? 5).map (·.size)=some 1:=VE
theorem adR (n:Nat)(hn:n<=140737488355328)(w:World):(Instr.makeSlice 200 (VI (n:Int)) (VI (n:Int))).run prog w=.ok (.slice (some (VJ w.heap.size 0)) n n) (w.alloc (.cells (Array.replicate n (.int .u8 0)) 5)):=by
 obtain⟨i0,hi,h0,h1,h2⟩:=YQ aQ;have h:=VN (P:=prog) w 200 5 i0 _ underlying200 hi h0 .i64 .i64 (n:Int) (n:Int) VH VH (by rw[h2];omega) VH;rw[h,Zp,h1];show Result.ok _ (w.alloc (.cells (madeCells #[.int .u8 0] (n*1)) _))=_;rw[Dy,Nat.mul_one]
def P5 (w:World)(s:ByteArray):World:=(w.alloc (.cells (Array.replicate s.size (.int .u8 0)) 5)).setRow w.heap.size (Lib.byteCells s.data.toList).toArray
theorem Ll (w:World)(s:ByteArray):(P5 w s).heap[w.heap.size]?=some (.cells (Lib.byteCells s.data.toList).toArray 5 (0,0)):=VP _ _ _ _ _ (0,0) (Z4 w _).1
theorem EL (w:World)(s:ByteArray):Below w.heap.size w (P5 w s):=
 ((ZR _ w).alloc UM _).trans ⟨rfl,rfl,rfl,by simp[P5,World.setRow],λk hk=>setRow_other _ _ _ _ VH⟩
theorem kX (w:World)(s:ByteArray)(t1 t2:TypeId):(Builtin.copy_ #[200,t1] t2 #[.slice (some (VJ w.heap.size 0)) s.size s.size,.string s]).run prog (w.alloc (.cells (Array.replicate s.size (.int .u8 0)) 5))=.ok (goInt s.size) (P5 w s):=by
 have h:=Lib.run_copy_row_string (P:=prog) (w.alloc (.cells (Array.replicate s.size (.int .u8 0)) 5)) 200 t1 t2 5 w.heap.size 0 s.size s.size s (Array.replicate s.size (.int .u8 0)) 5 underlying200 byte_size (Z4 w _).1 UM Vy
 have e:((Array.replicate s.size (Value.int .u8 0)).toList.take 0++Lib.byteCells s.data.toList++(Array.replicate s.size (Value.int .u8 0)).toList.drop (0+s.size)).toArray=(Lib.byteCells s.data.toList).toArray:=by
  rw[List.take_zero,Yg,List.drop_of_length_le Vy,XR]
 rw[h,e];rfl
theorem text_of (w:World)(s:ByteArray)(t1 t2:TypeId)(h0:s.size≠0)(hs:s.size<=140737488355328):(Builtin.unsafeString_ #[201,t1] t2 #[VG w.heap.size,VI s.size]).run prog (P5 w s)=.ok (.string s) ((P5 w s).freeze (VJ w.heap.size 0) s.size):=by
 have hl:=(Lib.size_eq s).symm
 have h:=Lib.run_unsafeString_row (P:=prog) (P5 w s) 201 t1 t2 5 underlying201 nX w.heap.size (Lib.byteCells s.data.toList).toArray.size (by unfold World.shape?;rw[Ll]) s.data.toList
  (λe=>h0 (by rw[<- hl,e];rfl)) (by simp[Lib.byteCells_length]) VH
  (λj x hx=>Lib.cells_of_row (Ll w s) (Lib.byteCells s.data.toList).toArray.size j _ (by rw[XU (by simp[Lib.byteCells])];simp[Lib.byteCells,hx]))
 rw[hl]at h;exact h
theorem ade (s:ByteArray)(w:World)(hs:s.size<=140737488355328):
 Calls prog 74 #[.string s] w λe w'=>e=.returned (.string s)/\Below w.heap.size w w':=by
 by_cases h0:s.size=0
 . have hs:s=⟨#[]⟩:=by
    cases s with|mk a=>
    congr 1;exact WZ h0
   subst hs;go_enter func74,ntmps74;go_wp2
   go_ret
   exact⟨rfl,ZR _ _⟩
 . have t0:((s.size:Int)==0)=false:=ZF.2 VH;have hp:(0:Int)<(s.size:Int):=VH;have hmk:=adR s.size hs;have F2:=kX w s;have dy:=λt1 t2=>text_of w s t1 t2 h0 hs;go_enter func74,ntmps74;go_wp2
   go_ret
   exact⟨rfl,Lib.below_freeze (EL w s) (p:=(VJ w.heap.size 0)) UM _⟩
theorem clone_any (s:ByteArray)(w:World)(hs:s.size<=140737488355328):
 Calls prog 38 #[.string s] w λe w'=>e=.returned (.string s)/\Below w.heap.size w w':=by
 go_enter func38,ntmps38;go_wp2_with fail;refine(ade s w hs).mono ?_;rintro e w' ⟨rfl,hb⟩;go_wp2
 go_ret
 exact⟨rfl,hb⟩
open Iz
theorem P8 (w:World)(mb:Nat)(l:List (ByteArray×Value))(h:SMap w mb l)(s:ByteArray):(Instr.lookup 55 (.map (some mb)) (.string s) false).run prog w=.ok ((l.lookup s).getD (.pointer none)) w:=
 MF h.str underlying55 underlying9 (zeroValue57 w) s
theorem dR (s t:ByteArray)(n:Int)(b:Nat)(w:World)(hs:s.size<=140737488355328)(h:className (bl s)=false\/n<0):
 Calls prog 15 #[VG b,.string s,.string t,VI n] w λe w'=>e=.returned (VI 1)/\Below w.heap.size w w':=by
 cases hc:className (bl s) with
 | false=>
  have HC:Hid _:=hc;clear hc h;go_enter func15,ntmps15;go_wp2_with fail;refine iM ?_;intro w1 hb1;go_wp2
  go_ret
  exact⟨rfl,hb1⟩
 | true=>
  have hn:n<0:=by rcases h with h|h;rw[hc]at h;cases h;exact h
  have HC:Hid _:=hc;clear hc h;go_enter func15,ntmps15;go_wp2_with fail;refine iM ?_;intro w1 hb1;go_wp2
  go_ret
  exact⟨rfl,hb1⟩
theorem bY (s t:ByteArray)(n:Int)(b mb:Nat)(l:List (ByteArray×Value))(w:World)(hs:s.size<=140737488355328)(hc:className (bl s)=true)(hn:0<=n)(h0:w.cell? (VJ b 0)=some (.map (some mb)))(hm:SMap w mb l)(r:Int)
 (hr:((∃p,l.lookup s=some (.pointer (some p)))/\r=3)\/(l.lookup s=none/\l.lookup t=none/\r=2)\/
  (∃a tot,l.lookup s=none/\l.lookup t=some (VG a)/\w.cell? (VJ a 3)=some (VI tot)/\0<=tot/\tot<=10/\((10-tot<n/\r=9)\/(n<=10-tot/\l.length=12/\r=10)))):
 Calls prog 15 #[VG b,.string s,.string t,VI n] w λe w'=>e=.returned (VI r)/\Below w.heap.size w w':=by
 have HC:Hid _:=hc;have HM:=UQ hm;have hbl:=ZE w (VJ b 0) h0;clear hc hm;rcases hr with⟨⟨p,hl⟩,rfl⟩|⟨hl,ht,rfl⟩|⟨a,tot,hl,ht,ha,ht0,ht0,ZD⟩
 . go_enter func15,ntmps15;go_wp2_with fail;refine iM ?_;intro w1 hb1;have c0:=(hb1.cell (p:=(VJ b 0)) hbl).trans h0;have hm1:=HM.o.same ala;have Pa:=P8 w1 mb l hm1 s;rw[hl]at Pa;simp only[YX]at Pa;clear hm1 h0 hl;go_wp2
   go_ret
   exact⟨rfl,hb1⟩
 . go_enter func15,ntmps15;go_wp2_with fail;refine iM ?_;intro w1 hb1;have c0:=(hb1.cell (p:=(VJ b 0)) hbl).trans h0;have hm1:=HM.o.same ala;have Pa:=P8 w1 mb l hm1 s;have Tl:=P8 w1 mb l hm1 t;rw[hl]at Pa;rw[ht]at Tl;simp only[V7]at Pa Tl;clear hm1 h0 hl ht;go_wp2
   go_ret
   exact⟨rfl,hb1⟩
 . have hal:=ZE w (VJ a 3) ha;rcases ZD with⟨hbig,rfl⟩|⟨hfit,hlen,rfl⟩
   . go_enter func15,ntmps15;go_wp2_with fail;refine akz ?_;intro w1 hb1 c0 ca hm1 Pa Tl;have hwr:IntKind.i64.wrap (10-tot)=10-tot:=Ar;clear hm1 h0 hl ht ha;go_wp2
     go_ret
     exact⟨rfl,hb1⟩
   . go_enter func15,ntmps15;go_wp2_with fail;refine akz ?_;intro w1 hb1 c0 ca hm1 Pa Tl;have L2:=GZ hm1.str;rw[hlen]at L2;have hwr:IntKind.i64.wrap (10-tot)=10-tot:=Ar;clear hm1 h0 hl ht ha;go_wp2
     go_ret
     exact⟨rfl,hb1⟩
theorem H9 (s t:ByteArray)(n tot:Int)(b mb a:Nat)(l:List (ByteArray×Value))(w:World)(hs:s.size<=140737488355328)(hc:className (bl s)=true)(hn:0<=n)(h0:w.cell? (VJ b 0)=some (.map (some mb)))(hm:SMap w mb l)
 (hl:l.lookup s=none) (ht:l.lookup t=some (VG a)) (ha:w.cell? (VJ a 3)=some (VI tot)) (ht0:0<=tot) (ht1:tot<=10) (hfit:n<=10-tot) (hlen:l.length<12):
 Calls prog 15 #[VG b,.string s,.string t,VI n] w λe w'=>e=.returned (VI 0)/\∃cm,w.heap.size<=cm/\SMap w' mb (put l s ((VG (cm+1))))/\
  w'.heap[cm]?=some (.map #[] 0)/\w'.heap[cm+1]?=some (.cells #[.string s,VI l.length,VG a,VI (tot+n),.map (some cm)] 101)/\Vt w w' (λk=>k=mb):=by
 have HC:Hid _:=hc;have HM:=UQ hm;have hbl:=ZE w (VJ b 0) h0;have hal:=ZE w (VJ a 3) ha;clear hc hm;go_enter func15,ntmps15;go_wp2_with fail;refine akz ?_;intro w1 hb1 c0 ca hm1 Pa Tl;have L2:=GZ hm1.str;have hl12:((l.length:Int)==12)=false:=Vo;have hwr:IntKind.i64.wrap (10-tot)=10-tot:=Ar;have Dr:IntKind.i64.wrap (tot+n)=tot+n:=Ar;have Q6:=UQ hm1;have bA:=ZY hbl hb1.size;have al1:=ZY hal hb1.size;have SM:Hid _:=hb1;clear hm1 h0 hl ht ha hb1;go_wp2_with fail;refine Uy ?_;refine ZT (S:=(λw'=>w'.cell? (VJ b 0)=some (.map (some mb))/\w'.cell? (VJ a 3)=some (VI tot))) VE UG (λhHeld=>?_);refine Ep ?_;refine afr ?_;refine Ur 9 ?_
 try simp only[Dr]
 refine Ul 2 λY_ Z_=>?_;go_simp;refine(clone_any s _ hs).mono ?_;rintro e w2 ⟨rfl,hb2⟩;have Q6:=UQ ((Q6.o.same (w':=w1.drew) rfl).same (hb2.block _ Q6.o.lt));have Uv:=UQ (RH hb2);have p7:=(hb2.cell (p:=(VJ b 0)) bA).trans c0;have ot:=(hb2.cell (p:=(VJ a 3)) al1).trans ca;clear hb2 c0 ca
 try go_wp2_with fail
 refine Z_.go λhHeld=>?_;clear Z_ Y_
 try refine UE ?_
 refine Ul 10 λY_ Z_=>?_;go_simp;refine(MI b mb l s (some (VJ a 0)) (tot+n) w2 p7 Q6.o).mono ?_;rintro e w1 ⟨rfl,hm1,hmp,hcl,hg3⟩;have c0:=(Z9 (a:=(VJ b 0)) (hg3.block b (ZE w2 (VJ b 0) p7) (λe=>by injection e with e;obtain⟨es,ck,h1,_⟩:=Q6.o;rw[<- e]at h1;simp[World.cell?,h1]at p7))).trans p7;have ca3:=(Z9 (a:=(VJ a 3)) (hg3.block a (ZE w2 (VJ a 3) ot) (λe=>by injection e with e;obtain⟨es,ck,h1,_⟩:=Q6.o;rw[<- e]at h1;simp[World.cell?,h1]at ot))).trans ot
 try go_wp2_with fail
 refine Z_.go λhHeld=>?_;clear Z_ Y_;refine Um ?_;go_wp2
 go_ret
 have hb1:=SM.o;have hb2:=Uv.o;exact⟨rfl,w2.heap.size,ZC hb1.size hb2.size,hm1,hmp,hcl,((Vt.of_below hb1 _).trans (Vt.of_below hb2 _)).trans (Vt.QY hg3)⟩
variable {w : World}
theorem dn {B:Nat}{e:TypeId}{v:Value}{ws:List (W×Nat)}(h:w.ownsRow B e 1 v ws.length (Qo ws)):∃p g cap,v=.slice p ws.length cap/\∀j x,ws[j]?=some x->p=some (VJ g 0)/\w.cell? (VJ g j)=some (VI (x.2:Nat)):=by
 have hc:=λg hg=>h.cells (g:=g) hg;rcases h.2 with⟨rfl,h0⟩|⟨g,cap,cur,rfl,hb,hg,hn,_⟩
 . refine⟨none,0,0,by rw[h0],λj x hx=>?_⟩;have:=(Z7.1 hx).1;omega
 . refine⟨some (VJ g 0),g,cap,rfl,λj x hx=>⟨rfl,?_⟩⟩;have:=hc g rfl j (VI (x.2:Nat)) (by simp[Qo,hx]);exact ac5
theorem kH {ws:List (W×Nat)}{args slots:Nat}{e i:Int}(h:ai2 ws args slots e i):(∃j,j<ws.length/\i=(j:Int)/\(e=1\/e=7)/\MN ws args slots e i)\/((∀j,j<ws.length->¬SC ws args slots j)/\e=0/\i=0):=by
 rcases h with⟨j,hj,rfl,hb,hn,h1,h7⟩|h
 . left;refine⟨j,hj,rfl,?_,.inl ⟨j,hj,rfl,hb,hn,h1,h7⟩⟩;by_cases ha:TJ ws args j
   . exact .inl (h1 ha)
   . exact .inr (h7 ha)
 . exact .inr h
structure aeQ (w w':World)(m g cap:Nat)(p:Option Addr)(ws:List (W×Nat))(pl:Nat->Nat):Prop where
 below:Below w.heap.size w w'
 mm:w'.heap[m]?=some (.cells #[.slice p ws.length cap,VI 0] 165)
 lo:w.heap.size<=m
 J7:1<=ws.length->w.heap.size<=g
 gm:1<=ws.length->g≠m
 at_:xB w' p g ws pl ws.length
 np:NC w w' ws pl ws.length
theorem aae (cn sel src:ByteArray)(b mb:Nat)(w:World)(c0:w.cell? (VJ b 0)=some (.map (some mb)))(lk:(Instr.lookup 55 (.map (some mb)) (.string cn) false).run prog w=.ok (.pointer none) w):
 Calls prog 17 #[VG b,.string cn,.string sel,.string src] w λe w'=>e=.returned (.tuple #[VI 2,VI 0])/\w'=w:=by
 go_enter func17,ntmps17;go_wp2
 go_ret2
 exact KP
theorem aeo (n:Nat)(cn sel src:ByteArray)(w:World)(b mb c:Nat)(R:World->Prop)(hn:n<=10)(hs1:sel.size<=140737488355328)(hs2:src.size<=140737488355328)
 (c0:w.cell? (VJ b 0)=some (.map (some mb))) (lk:(Instr.lookup 55 (.map (some mb)) (.string cn) false).run prog w=.ok (VG c) w) (hcs:w.cell? (VJ c 3)=some (VI (n:Nat)))
 (hg0:0<w.heap.size) (hg1:2<w.heap.size) (hg2:1<w.heap.size) (hE:Qc w) (g_:U7 w) (U':UR w)
 (give:∀(w':World) (m g cap:Nat) (p:Option Addr) (ws:List (W×Nat)) (pl:Nat->Nat),(Vh (bl src)).1=ws->Ti (bl sel) (bl src) n 0 0->aeQ w w' m g cap p ws pl->
  Calls prog 44 #[VG b,VG c,.string sel,VG m] w' λe w''=>e=.returned (.tuple #[])/\R w''):
 Calls prog 17 #[VG b,.string cn,.string sel,.string src] w λe w'=>∃r a:Int,e=.returned (.tuple #[VI r,VI a])/\Ti (bl sel) (bl src) n r a/\((r≠0/\Below w.heap.size w w')\/(r=0/\R w')):=by
 have HG:Hid (Qc w/\U7 w/\UR w):=⟨hE,g_,U'⟩
 have hcl:=ZE w (VJ c 3) hcs;clear hE g_ U';go_enter func17,ntmps17;go_wp2_with fail;refine(Qn sel w hs1).mono ?_;rintro e w1 ⟨rfl,hb1⟩;clear c0 lk;cases U_:selector (bl sel)
 . go_wp2
   go_ret2
   exact⟨1,0,rfl,.inl ⟨U_,rfl,rfl⟩,.inl ⟨VH,hb1⟩⟩
 . by_cases Rc:120<src.size
   . go_wp2
     go_ret2
     exact⟨5,0,rfl,.inr (.inl ⟨U_,by rw[VB];exact Rc,rfl,rfl⟩),.inl ⟨VH,hb1⟩⟩
   . go_wp2_with fail;refine(clone_any src _ hs2).mono ?_;rintro e w1 ⟨rfl,hb2⟩;have hbW:=hb1.trans (hb2.mono hb1.size);go_wp2_with fail;refine(AP src w1 VH (ZY hg1 hbW.size) (ZY hg2 hbW.size) ?_ ?_).mono ?_
     . exact HG.o.2.1.below hg1 hbW
     . exact HG.o.2.2.below hg2 hbW
     rintro e w1 ⟨vw,vs,rfl,hown,hb1⟩;have ME:=hbW.trans (hb1.mono hbW.size);have Nx:=ZY hg0 ME.size;have rm:=UQ (HG.o.1.below hg0 ME);have hz2:=hbW.size;clear hb2 hb1 hbW;rcases zK (bl src) with hw|⟨j,hj,hw⟩
     . rw[hw];have hown':=hown hw;have hwl:=Ic (bl src);have zg:=UQ (Jb (bl src));have fS:=UQ ((by omega:src.size<=120));have nr:Hid _:=hw;obtain⟨ws,hws⟩:∃ws,(Vh (bl src)).1=ws:=Vx;have Al:Hid _:=hws;rw[hws]at hown' hwl zg;clear hws hw hown Rc;obtain⟨p,g,cap,rfl,hat,xd⟩:=afF hown'.1;have hst:=hown'.2;have HST:Hid (w1.ownsRow _ 3 1 vs ws.length (Qo ws)):=hst;have HK:Hid _:=hat
       have fq:Hid (1<=ws.length->UL w1 g/\w.heap.size<=g):=by
        have hx1:1<=ws.length->UL w1 g/\w.heap.size<=g:=λh=>⟨(xd h).1,ZC hz2 (xd h).2⟩
        exact hx1
       clear xd;obtain⟨ps,gs,cs,rfl,ST⟩:=dn hst;have cH:Hid _:=ST;clear ST;clear hst hat hown';obtain⟨q3,q3,q3,qa⟩:=Nu U_;obtain⟨ar,har⟩:∃ar,U6 (bl sel)=ar:=Vx;have jz:Hid _:=har;rw[har]at qa;have VM:Hid _:=ME;have k2:=(ME.cell (p:=(VJ c 3)) hcl).trans hcs;have M0:=ZY hcl ME.size;have qs:Hid _:=k2;clear hcs ME;go_wp2_with fail;refine Uy ?_;refine ZT (S:=(λw'=>w'.cell? (VJ c 3)=some (VI (n:Nat)))) VE UG (λhHeld=>?_);refine Ep ?_;refine aa7 ?_;refine tC ?_;refine Ul 2 λY_ Z_=>?_;go_simp;refine(PE sel _ U_).mono ?_;rintro e w1 ⟨rfl,hb⟩;rw[har];have hb1:=RH hb;clear k2 hb;have k2:=(hb1.cell (p:=(VJ c 3)) M0).trans qs.o
       try go_wp2_with fail
       refine Z_.go λhHeld=>?_;clear Z_ Y_
       try refine UE ?_
       refine Ul 7 λY_ Z_=>?_;go_simp;refine(GU ws p g cap ar n w1 hwl qa hn (HK.o.below UM hb1) zg.o (ZY Nx hb1.size) (rm.o.below Nx hb1)).mono ?_;rintro e w1 ⟨er,i,rfl,yW,hb⟩;have hb2:=hb1.trans (hb.mono hb1.size);clear k2 hb;have k2:=(hb2.cell (p:=(VJ c 3)) M0).trans qs.o
       try go_wp2_with fail
       refine Z_.go λhHeld=>?_;clear Z_ Y_
       try refine UE ?_
       refine Uh 8 ?_;refine dX ?_;refine uZ ?_;refine Nr ?_;clear hHeld;clear hHeld;clear hHeld;have jt:=UQ (VM.o.trans (hb2.mono VM.o.size))
       have HM:Hid (∀e' i' zz a',MN ws ar n zz i'->((∃j x,i'=((j:Nat):Int)/\ws[j]?=some x/\e'=zz/\a'=((x.2:Nat):Int))\/(i'=-1/\e'=0/\a'=0))->Ti (bl sel) (bl src) n e' a'):=by
        have hx1:∀e' i' zz a',MN ws ar n zz i'->((∃j x,i'=((j:Nat):Int)/\ws[j]?=some x/\e'=zz/\a'=((x.2:Nat):Int))\/(i'=-1/\e'=0/\a'=0))->Ti (bl sel) (bl src) n e' a':=λe' i' zz a' hf hh=>
         .inr (.inr (.inr ⟨U_,by rw[VB];exact fS.o,nr.o,zz,i',by rw[Al.o,jz.o];exact hf,by rw[Al.o];exact hh⟩))
        exact hx1
       rcases kH yW with⟨j,hj,rfl,aqk,hfit⟩|⟨hno,rfl,rfl⟩
       . obtain⟨x,hx⟩:∃x,ws[j]?=some x:=⟨_,Z8 hj⟩
         obtain⟨rfl,hcs⟩:=cH.o j x hx;have Kh:=(HST.o.lt gs rfl).2;have k5:=(hb2.cell (p:=(VJ gs j)) Kh).trans hcs;have tn:(er != 0)=true:=Vo;have FE:(j:Int)<(ws.length:Int):=VH;have Jx:=UQ hfit;have HX:Hid _:=hx;clear yW hfit hx hcs;go_wp2_with fail
         go_quiet (fail)
         go_wp2
         go_ret2
         exact⟨er,x.2,rfl,HM.o er j er x.2 Jx.o alD,.inl ⟨VH,jt.o.drewN' _⟩⟩
       . have G':=UQ hno;clear yW hno;go_wp2_with fail;refine(Bj ws p g cap w1 hwl (HK.o.below UM hb2) (fJ zg.o G'.o) (ZY Nx hb2.size) (rm.o.below Nx hb2)).mono ?_;rintro e w1 ⟨r,rfl,If,hb⟩;have Pw:=hb2.trans (hb.mono hb2.size);have jt:=UQ (VM.o.trans (Pw.mono VM.o.size));have Jx:Hid (MN ws ar n 6 r):=.inr ⟨G'.o,rfl,If⟩;clear hb If k2;rcases sG Jx.o with rfl|⟨j,hj,rfl⟩
         . go_wp2_with fail;refine(clone_any sel _ hs1).mono ?_;rintro e w1 ⟨rfl,eS⟩;have Lg:=Pw.trans (eS.mono Pw.size);have VM:=UQ (VM.o.trans (Lg.mono VM.o.size));have qs:=UQ (HK.o.below UM Lg)
           have rq:Hid (1<=ws.length->UL w1 g/\w.heap.size<=g):=by
            have hx1:1<=ws.length->UL w1 g/\w.heap.size<=g:=λh=>⟨(fq.o h).1.same (Lg.block g (fq.o h).1.lt),(fq.o h).2⟩
            exact hx1
           have rm:=UQ (rm.o.below Nx Lg);have Nx:=ZY Nx Lg.size;clear eS Lg Pw hb2 hb1;go_wp2_with fail;refine(Ad ws p g cap w1 hwl qs.o (λh=>(rq.o h).1) zg.o Nx (λh e=>by have:=(rq.o h).2;omega) rm.o).mono ?_;rintro e w1 ⟨m,pl,rfl,cN,r7,tI,Ek,r8⟩;have hz2:=VM.o.size
           have HN:Hid (aeQ w w1 m g cap p ws pl):=by
            have hx1:aeQ w w1 m g cap p ws pl:=⟨VM.o.trans (r8.below hz2 (λk _ h=>by rw[h.1];exact(rq.o h.2).2)),cN,ZC hz2 r7,λh=>(rq.o h).2,λh e=>by have:=(rq.o h).1.lt;omega,tI,⟨λi x hi hx hs=>⟨(Ek.mem i x hi hx hs).1,ZC hz2 (Ek.mem i x hi hx hs).2⟩,Ek.inj⟩⟩
            exact hx1
           have HZ:=UQ (HM.o 0 (-1) 6 0 Jx.o (.inr vg));clear cN r7 tI Ek r8;go_wp2_with fail;refine(give w1 m g cap p ws pl Al.o HZ.o HN.o).mono ?_;rintro e w1 ⟨rfl,hR⟩;go_wp2
           go_ret2
           exact⟨0,0,rfl,HZ.o,.inr ⟨rfl,hR⟩⟩
         . obtain⟨x,hx⟩:∃x,ws[j]?=some x:=⟨_,Z8 hj⟩
           obtain⟨rfl,hcs⟩:=cH.o j x hx;have Kh:=(HST.o.lt gs rfl).2;have k2:=(Pw.cell (p:=(VJ gs j)) Kh).trans hcs;have FE:(j:Int)<(ws.length:Int):=VH;have HX:Hid _:=hx;clear hx hcs;go_wp2_with fail
           go_quiet (fail)
           go_wp2
           go_ret2
           exact⟨6,x.2,rfl,HM.o 6 j 6 x.2 Jx.o alD,.inl ⟨VH,jt.o.drewN' _⟩⟩
     . rw[hw];clear hown;go_wp2
       go_ret2
       exact⟨5,j,rfl,.inr (.inr (.inl ⟨U_,G8,by rw[hw];omega,rfl,by rw[hw]⟩)),.inl ⟨VH,ME⟩⟩
end Go.Proofs.Rz
namespace Kn
open Go
theorem Fq {α:Type}{ab yz:Nat->Option Nat}{ow yo:Nat->Option α}{n:Nat}(h1:∀c,c<n->yz c=ab c)(h2:∀c,c<n->yo c=ow c)(h3:∀c a,c<n->ab c=some a->a<n):∀(f:Nat) (c:Nat),c<n->UJ yz yo f (some c)=UJ ab ow f (some c)
 | 0,_,_=>rfl
 | f+1,c,hc=>by
  have hu:∀(a:Nat->Option Nat) (o:Nat->Option α),UJ a o (f+1) (some c)=match o c with
   | some x=>some (c,x)
   | none=>UJ a o f (a c):=λ_ _=>rfl
  rw[hu yz yo,hu ab ow,h2 c hc]
  cases ho:ow c with
  | some y=>rfl
  | none=>
   simp only;rw[h1 c hc]
   cases ha:ab c with
   | none=>cases f<;>rfl
   | some a=>exact Fq h1 h2 h3 f a (h3 c a hc ha)
end Kn
namespace Go.Proofs.Rz
open ChangeShapes WideShapes ChangeAt RowKit Kn Iz Tryz
variable {m : Im}
theorem fH (hm:U3 m){c d:Nat}(h:Up m.ab c d):c<m.kl.length->d<m.kl.length:=by
 induction h with
 | refl c=>exact id
 | step ha _ ih=>exact λ_=>ih (CS hm ha)
def Ans (m:Im)(cb:Nat->Nat)(mid:Nat->ByteArray->Option Nat)(r:U1):Prop:=
 ∃c,c<m.kl.length/\r.fr=some (VJ (cb c) 0)/\r.hm=Vq ((UJ m.ab (λc=>mid c r.sel) (m.kl.length+1) (some c)).map (λx=>cb x.1))/\r.mt=Vq ((UJ m.ab (λc=>mid c r.sel) (m.kl.length+1) (some c)).map (·.2))
theorem Ans.aop {cb:Nat->Nat}{mid:Nat->ByteArray->Option Nat}{r:U1}(hm:U3 m)(h:Ans m cb mid r):akV m cb r:=by
 obtain⟨c,hc,h1,h2,_⟩:=h;refine⟨⟨c,hc,h1⟩,(UJ m.ab (λc=>mid c r.sel) (m.kl.length+1) (some c)).map (·.1),λx hx=>?_,akN⟩;exact ak0
variable {m' : Im}
theorem Ans.ow {cb:Nat->Nat}{mid mid':Nat->ByteArray->Option Nat}{c0:Nat}{sel:ByteArray}{r:U1}(hm:U3 m)(h:Ans m cb mid r)(hl:SI m cb c0 sel r=false)(hab:m'.ab=m.ab)(hlen:m'.kl.length=m.kl.length)(hmid:∀c s,¬(c=c0/\s=sel)->mid' c s=mid c s):Ans m' cb mid' r:=by
 obtain⟨c,hc,h1,h2,h3⟩:=h
 have key:UJ m'.ab (λc=>mid' c r.sel) (m'.kl.length+1) (some c)=UJ m.ab (λc=>mid c r.sel) (m.kl.length+1) (some c):=by
  rw[hab,hlen];by_cases hs:r.sel=sel
  . refine uS (c0:=c0) (λd hd=>hmid d r.sel (λe=>hd e.1)) _ _ (λF _ Qf=>?_)
    have:abL m cb c0 r:=by
     refine⟨c,(UJ m.ab (λc=>mid c r.sel) (m.kl.length+1) (some c)).map (·.1),hc,λx hx=>?_,h1,akN,Qf.1,λx hx=>?_⟩
     . exact ak0
     . obtain⟨⟨d,k⟩,e1,e2⟩:=Yl.1 hx;subst e2;exact Qf.2 d k e1
    unfold SI Hg at hl;rw[show decide (r.sel=sel)=true from by simp[hs],Wp,@V6 _ (Classical.propDecidable _)]at hl;exact hl this
  . exact YV (λo=>UJ m.ab o (m.kl.length+1) (some c)) (funext λd=>hmid d r.sel (λe=>hs e.2))
 exact⟨c,by rw[hlen];exact hc,h1,by rw[key];exact h2,by rw[key];exact h3⟩
theorem Ans.ab {cb:Nat->Nat}{mid:Nat->ByteArray->Option Nat}{c0:Nat}{r:U1}(hm:U3 m)(h:Ans m cb mid r)(hl:Tj m cb c0 r=false)(hab:∀c,c≠c0->m'.ab c=m.ab c)(hlen:m'.kl.length=m.kl.length)(hinj:∀c d,c<m.kl.length->d<m.kl.length->cb c=cb d->c=d)(hc0:c0<m.kl.length):Ans m' cb mid r:=by
 obtain⟨c,hc,h1,h2,h3⟩:=h
 have key:UJ m'.ab (λc=>mid c r.sel) (m'.kl.length+1) (some c)=UJ m.ab (λc=>mid c r.sel) (m.kl.length+1) (some c):=by
  rw[hlen];refine rY hab _ _ (λQf=>?_)
  have hcb:abL m cb c0 r:=by
   refine⟨c,(UJ m.ab (λc=>mid c r.sel) (m.kl.length+1) (some c)).map (·.1),hc,λx hx=>?_,h1,akN,Qf.1.1,λx hx=>?_⟩
   . exact ak0
   . obtain⟨⟨d,k⟩,e1,e2⟩:=Yl.1 hx;subst e2;exact Qf.1.2 d k e1
  have hne:¬r.hm=some (VJ (cb c0) 0):=λe=>by
   rw[h2]at e
   cases hcl:UJ m.ab (λc=>mid c r.sel) (m.kl.length+1) (some c) with
   | none=>rw[hcl]at e;cases e
   | some x=>
    rw[hcl]at e;injection e with e;injection e with e _ _;have hlt:=fH hm (PI _ _ x.1 x.2 hcl).1 hc;have he:=hinj x.1 c0 hlt hc0 e;exact Qf.2 x.2 (by rw[hcl,<- he])
  unfold Tj Hg at hl;have ht:=@Xh _ (Classical.propDecidable _) hcb;rw[ht,Wp,show decide (r.hm=some (VJ (cb c0) 0))=false from XQ hne]at hl;cases hl
 exact⟨c,by rw[hlen];exact hc,h1,by rw[key];exact h2,by rw[key];exact h3⟩
theorem Ans.more {cb cb':Nat->Nat}{mid mid':Nat->ByteArray->Option Nat}{r:U1}(hm:U3 m)(hm':U3 m')(h:Ans m cb mid r)(hab:∀c,c<m.kl.length->m'.ab c=m.ab c)(hlen:m.kl.length<=m'.kl.length)(hcb:∀c,c<m.kl.length->cb' c=cb c)(hmid:∀c s,c<m.kl.length->mid' c s=mid c s):Ans m' cb' mid' r:=by
 obtain⟨c,hc,h1,h2,h3⟩:=h;obtain⟨rk,hr1,hr1⟩:=Io hm'
 have key:UJ m'.ab (λc=>mid' c r.sel) (m'.kl.length+1) (some c)=UJ m.ab (λc=>mid c r.sel) (m.kl.length+1) (some c):=by
  obtain⟨rk0,hr1,mB⟩:=Io hm
  have e1:UJ m'.ab (λc=>mid' c r.sel) (m'.kl.length+1) (some c)=UJ m.ab (λc=>mid c r.sel) (m'.kl.length+1) (some c):=
   Fq (n:=m.kl.length) hab (λd hd=>hmid d r.sel hd) (λd a _ ha=>CS hm ha) _ c hc
  rw[e1];exact DC mB _ _ c (by have:=hr1 c;omega) (by have:=hr1 c;omega)
 have hcl:(UJ m.ab (λc=>mid c r.sel) (m.kl.length+1) (some c)).map (λx=>cb' x.1)=(UJ m.ab (λc=>mid c r.sel) (m.kl.length+1) (some c)).map (λx=>cb x.1):=by
  cases hx:UJ m.ab (λc=>mid c r.sel) (m.kl.length+1) (some c) with
  | none=>rfl
  | some x=>
   have hlt:=fH hm (PI _ _ x.1 x.2 hx).1 hc;simp[hcb x.1 hlt]
 exact⟨c,VH,by rw[hcb c hc];exact h1,by rw[key,hcl];exact h2,by rw[key];exact h3⟩
def Gl (k:Nat):Prop:=k=0\/k=2\/k=1
structure Qv (w:World):Prop where
 l0:0<w.heap.size
 l1:2<w.heap.size
 l2:1<w.heap.size
 e:Qc w
 p:U7 w
 h:UR w
variable {w : World}
theorem Qv.lt (h:Qv w){k:Nat}(hk:Gl k):k<w.heap.size:=by
 rcases hk with e|e|e<;>subst e
 . exact h.l0
 . exact h.l1
 . exact h.l2
variable {w' : World}
theorem Qv.same (h:Qv w)(hs:w.heap.size<=w'.heap.size)(hk:∀k,Gl k->w'.heap[k]?=w.heap[k]?):Qv w':=by
 have he:=hk 0 NP;have hp:=hk 2 oG;have hh:=hk 1 (.inr JQ);refine⟨ZY h.l0 hs,ZY h.l1 hs,ZY h.l2 hs,λa b c d e f hx=>?_,λi v hv=>(Z9 (a:=(VJ _ i)) hp).trans (h.p i v hv),λi v hv=>(Z9 (a:=(VJ _ i)) hh).trans (h.h i v hv)⟩;have h1:=h.e a b c d e f hx;exact⟨(Z9 he).trans h1.c0,(Z9 he).trans h1.c1,(Z9 he).trans h1.c2,(Z9 he).trans h1.c3,(Z9 he).trans h1.c4⟩
theorem Qv.Ut {S:Nat->Prop}(h:Qv w)(hc:Vt w w' S)(hS:∀k,Gl k->¬S k):Qv w':=h.same hc.size (λk hk=>hc.block k (h.lt hk) (hS k hk))
def ER (cb ob:Nat->Nat):Nat->List Ob->List Value
 | _,[]=>[]
 | i,o::r=>(VG (cb o.cls))::.slice (some (VJ (ob i) 0)) o.slots.length o.slots.length::ER cb ob (i+1) r
theorem xR (cb ob:Nat->Nat):∀(l:List Ob) (k i:Nat) (o:Ob),l[i]?=some o->(ER cb ob k l)[i*2]?=some ((VG (cb o.cls)))/\(ER cb ob k l)[i*2+1]?=some (.slice (some (VJ (ob (k+i)) 0)) o.slots.length o.slots.length)
 | [],k,i,o,h=>MO
 | x::r,k,0,o,h=>by
  simp at h;subst h;exact KP
 | x::r,k,i+1,o,h=>by
  have:=xR cb ob r (k+1) i o Nv;rw[show (i+1)*2=i*2+1+1 from VH,show k+(i+1)=k+1+i from VH];simpa[ER]using this
theorem Kv {cb cb' ob ob':Nat->Nat}:∀(l l':List Ob) (k:Nat),l'.length=l.length->(∀i o o',l[i]?=some o->l'[i]?=some o'->cb' o'.cls=cb o.cls/\ob' (k+i)=ob (k+i)/\o'.slots.length=o.slots.length)->ER cb' ob' k l'=ER cb ob k l
 | [],[],_,_,_=>rfl
 | [],_::_,_,h,_=>MO
 | _::_,[],_,h,_=>MO
 | x::r,x'::r',k,h,hx=>by
  obtain⟨h1,h2,h3⟩:=hx 0 x x' rfl rfl
  have:=Kv (cb:=cb) (cb':=cb') (ob:=ob) (ob':=ob') r r' (k+1) Nv (λi o o' ho ho'=>by
   have:=hx (i+1) o o' (by simpa using ho) (by simpa using ho');rw[show k+1+i=k+(i+1) from VH]
   exact this)
  simp only[Yt]at h2;simp[ER,h1,h2,h3,this]
theorem qE (cb ob:Nat->Nat):∀(l:List Ob) (k:Nat) (o:Ob),ER cb ob k (l++[o])=ER cb ob k l++[VG (cb o.cls),.slice (some (VJ (ob (k+l.length)) 0)) o.slots.length o.slots.length]
 | [],k,o=>rfl
 | x::r,k,o=>by
  have:=qE cb ob r (k+1) o;simp only[YR,ER,this,ZI];rw[show k+1+r.length=k+(r.length+1) from VH]
theorem iE (cb ob:Nat->Nat):∀(l:List Ob) (k i:Nat) (o o':Ob),l[i]?=some o->o'.slots.length=o.slots.length->ER cb ob k (l.set i o')=(ER cb ob k l).set (i*2) ((VG (cb o'.cls)))
 | [],_,_,_,_,h,_=>MO
 | x::r,k,0,o,o',h,hs=>by
  simp at h;subst h;simp[ER,hs]
 | x::r,k,i+1,o,o',h,hs=>by
  have:=iE cb ob r (k+1) i o o' Nv hs;rw[show (i+1)*2=i*2+1+1 from VH];simp[ER,this]
structure OQ (w:World)(cb ob:Nat->Nat)(v:Value)(obs:List Ob):Prop where
 own:w.ownsRow 0 105 2 v obs.length (ER cb ob 0 obs)
 at_:∀i o,obs[i]?=some o->w.heap[ob i]?=some (.cells (vcs o.slots).toArray 33)
 inj:∀i j,i<obs.length->j<obs.length->ob i=ob j->i=j
 nil:obs=[]->v=.slice none 0 0
def KF (ob:Nat->Nat)(v:Value)(n:Nat)(k:Nat):Prop:=v.ownBlock=some k\/∃i,i<n/\k=ob i
theorem OQ.lt {cb ob:Nat->Nat}{v:Value}{obs:List Ob}(h:OQ w cb ob v obs){k:Nat}(hk:KF ob v obs.length k):k<w.heap.size:=by
 rcases hk with e|⟨i,hi,rfl⟩
 . exact(h.own.lt k e).2
 . exact(Z5.1 (h.at_ i _ (Z8 hi))).1
theorem OQ.same {cb ob:Nat->Nat}{v:Value}{obs:List Ob}(h:OQ w cb ob v obs)(hk:∀k,KF ob v obs.length k->w'.heap[k]?=w.heap[k]?):OQ w' cb ob v obs:=by
 refine⟨⟨h.own.1,?_⟩,λi o ho=>(hk _ (.inr ⟨i,(Z7.1 ho).1,rfl⟩)).trans (h.at_ i o ho),h.inj,h.nil⟩;rcases h.own.2 with e|⟨g,cap,cur,e,h1,h2,h3⟩
 . exact .inl e
 . exact .inr ⟨g,cap,cur,e,h1,(hk g (.inl Sv)).trans h2,h3⟩
theorem OQ.kind {cb ob:Nat->Nat}{v:Value}{obs:List Ob}(h:OQ w cb ob v obs){k:Nat}(hk:KF ob v obs.length k):∃cs,w.heap[k]?=some (.cells cs 105)\/w.heap[k]?=some (.cells cs 33):=by
 rcases hk with e|⟨i,hi,rfl⟩
 . rcases h.own.2 with⟨e1,_⟩|⟨g,cap,cur,e1,h1,h1,h3⟩
   . rw[e1]at e;cases e
   . rw[e1]at e;simp[Value.ownBlock]at e;subst e;exact⟨cur,.inl h1⟩
 . exact⟨_,.inr (h.at_ i _ (Z8 hi))⟩
structure Kd where
 b:Nat
 mb:Nat
 cb:Nat->Nat
 cm:Nat->Nat
 lc:List (ByteArray×Value)
 lm:Nat->List (ByteArray×Value)
 mid:Nat->ByteArray->Option Nat
 UC:Nat
 k:Kc
 ov:Value
 ob:Nat->Nat
def Kd.np (K:Kd):Nat:=K.k.np
def o8 (m:Im)(K:Kd)(s:ByteArray)(r:U1):Prop:=r.sel=s/\Ans m K.cb K.mid r
def SrI (m:Im)(K:Kd)(r:U1):Prop:=Ans m K.cb K.mid r\/r=noRow
def U2 (m:Im)(K:Kd)(k:Nat):Prop:=k=K.b\/k=K.mb\/(∃c,c<m.kl.length/\(k=K.cb c\/k=K.cm c))\/Td K.k k\/KF K.ob K.ov m.obs.length k\/∃j,K.k.Mk j/\1<=(K.k.md j).ws.length/\k=(K.k.md j).g
structure Apart (m:Im)(K:Kd):Prop where
 Bc:K.mb≠K.k.sb
 Bo:∀s,K.k.l.lookup s≠some (.map (some K.mb))
 zF:∀c,c<m.kl.length->K.cm c≠K.mb
 IQ:∀c,c<m.kl.length->K.cm c≠K.k.sb
 yQ:∀c s,c<m.kl.length->K.k.l.lookup s≠some (.map (some (K.cm c)))
 DU:∀c d,c<m.kl.length->d<m.kl.length->K.cm c=K.cm d->c=d
structure BG (w:World)(m:Im)(K:Kd):Prop where
 c0:w.cell? (VJ K.b 0)=some (.map (some K.mb))
 c1:w.cell? (VJ K.b 1)=some K.ov
 c2:w.cell? (VJ K.b 2)=some (VI (Go.RowKit.wrap64 (m.looks:Nat)))
 c3:w.cell? (VJ K.b 3)=some (VI (Go.RowKit.wrap64 (K.UC:Nat)))
 c4:w.cell? (VJ K.b 4)=some (VI (K.np:Nat))
structure Ud (w:World)(m:Im)(K:Kd):Prop where
 ok:U3 m
 Uc:Qr w K.b K.k (λ_=>False) (o8 m K) (SrI m K)
 hd:BG w m K
 np6:K.np<=6
 cll:K.UC<=m.looks
 lc:SMap w K.mb K.lc
 iW:∀s,K.lc.lookup s=(m.cls s).map (λc=>(VG (K.cb c)))
 lcn:K.lc.length=m.kl.length
 cls:Cls w m K.cb K.cm
 lm:∀c,c<m.kl.length->SMap w (K.cm c) (K.lm c)
 mid:∀c s,c<m.kl.length->(K.lm c).lookup s=(K.mid c s).map (λk=>(VG k))
 own:∀c s,m.own c s=(K.mid c s).map (λk=>(K.k.md k).ws)
 yZ:∀c s k,K.mid c s=some k->K.k.Mk k
 ap:Apart m K
 obs:OQ w K.cb K.ob K.ov m.obs
 J7:Qv w
 gl:∀k,U2 m K k->¬Gl k
variable {K : Kd}
theorem Ud.lt (h:Ud w m K){k:Nat}(hk:U2 m K k):k<w.heap.size:=by
 rcases hk with e|e|⟨c,hc,e|e⟩|e|e|⟨j,hj,h1,e⟩
 . subst e;exact h.Uc.tab.Vb.lt
 . subst e;exact h.lc.lt
 . subst e;exact(h.cls.Vb hc).lt
 . subst e;exact(h.lm c hc).lt
 . exact h.Uc.lt e
 . exact h.obs.lt e
 . subst e;exact((h.Uc.mt j hj).LV.Vb h1).lt
theorem BG.same (h:BG w m K)(e:w'.heap[K.b]?=w.heap[K.b]?):BG w' m K:=
 ⟨(Z9 e).trans h.c0,(Z9 e).trans h.c1,(Z9 e).trans h.c2,(Z9 e).trans h.c3,(Z9 e).trans h.c4⟩
theorem BG.hd (h:BG w m K)(e:UK w w' K.b):BG w' m K:=
 ⟨(e.cell 0 VH).trans h.c0,(e.cell 1 VH).trans h.c1,(e.cell 2 VH).trans h.c2,(e.cell 3 VH).trans h.c3,(e.cell 4 VH).trans h.c4⟩
theorem Ud.same (h:Ud w m K)(hk:∀k,U2 m K k->w'.heap[k]?=w.heap[k]?)(hg:Qv w'):Ud w' m K:=by
 have hb:=hk K.b NP
 exact⟨h.ok,h.Uc.same hb (λk e=>hk k adf) (λk e h1=>hk _ (.inr (.inr (.inr (.inr (.inr ⟨k,e,h1,rfl⟩)))))),h.hd.same hb,h.np6,h.cll,h.lc.same (hk _ oG),h.iW,h.lcn,
  h.cls.same (λc hc=>hk _ (.inr (.inr (.inl ⟨c,hc,.inl rfl⟩)))),λc hc=>(h.lm c hc).same (hk _ (.inr (.inr (.inl ⟨c,hc,.inr rfl⟩)))),h.mid,h.own,h.yZ,h.ap,h.obs.same (λk e=>hk k mM),hg,h.gl⟩
theorem Ud.Ut {S:Nat->Prop}(h:Ud w m K)(hc:Vt w w' S)(hS:∀k,U2 m K k->¬S k)(hg:∀k,Gl k->¬S k):Ud w' m K:=h.same (λk e=>hc.block k (h.lt e) (hS k e)) (h.J7.Ut hc hg)
theorem Ud.below (h:Ud w m K)(hb:Below w.heap.size w w'):Ud w' m K:=h.Ut (Vt.of_below hb (λ_=>False)) (λ_ _ e=>e) (λ_ _ e=>e)
theorem Ud.drew (h:Ud w m K):Ud w.drew m K:=h.same Ji (h.J7.same UM Ji)
structure Step (w w':World)(m:Im)(K:Kd)(m':Im)(K':Kd):Prop where
 Ub:Ud w' m' K'
 b:K'.b=K.b
 np:K'.np=K.np
 Ut:Vt w w' (U2 m K)
 foot:∀k,U2 m' K' k->U2 m K k\/w.heap.size<=k
 len:m.kl.length<=m'.kl.length
 cb:∀c,c<m.kl.length->K'.cb c=K.cb c
 md:∀k,K.k.Mk k->K'.k.Mk k/\K'.k.md k=K.k.md k
variable {w1 w2 : World}
theorem Step.trans {m m1 m2:Im}{K K1 K2:Kd}(h:Step w w1 m K m1 K1)(h':Step w1 w2 m1 K1 m2 K2):Step w w2 m K m2 K2:=
 ⟨h'.Ub,h'.b.trans h.b,h'.np.trans h.np,h.Ut.then h'.Ut (λk hk e=>by rcases h.foot k e with e|e;exact e;omega),λk e=>by
  rcases h'.foot k e with e|e
  . exact h.foot k e
  . have:=h.Ut.size
    exact .inr VH,ZC h.len h'.len,λc hc=>(h'.cb c (ZY hc h.len)).trans (h.cb c hc),λk hk=>⟨(h'.md k (h.md k hk).1).1,(h'.md k (h.md k hk).1).2.trans (h.md k hk).2⟩⟩
theorem Step.below (h:Ud w m K)(hb:Below w.heap.size w w'):Step w w' m K m K:=
 ⟨h.below hb,rfl,rfl,Vt.of_below hb _,λk e=>.inl e,ZN _,λ_ _=>rfl,λ_ hk=>yg⟩
theorem Step.refl (h:Ud w m K):Step w w m K m K:=Step.below h (ZR _ _)
theorem Ud.look (h:Ud w m K)(s:ByteArray):(Instr.lookup 55 (.map (some K.mb)) (.string s) false).run prog w=.ok (.pointer (Vq ((m.cls s).map K.cb))) w:=by
 rw[P8 w K.mb K.lc h.lc,h.iW s];cases m.cls s<;>rfl
theorem OO {s:ByteArray}{c:Nat}(h:m.cls s=some c):c<m.kl.length:=by
 obtain⟨k,hk,_⟩:=RJ h;exact(Z7.1 hk).1
theorem Ud.iK (h:Ud w m K){c:Nat}(hc:c<m.kl.length)(s:ByteArray):(Instr.lookup 99 (.map (some (K.cm c))) (.string s) false).run prog w=.ok (.pointer (Vq (K.mid c s))) w:=by
 rw[Je w (K.cm c) (K.lm c) (h.lm c hc),h.mid c s hc];cases K.mid c s<;>rfl
end Go.Proofs.Rz
namespace Kn
open Go
structure Nk (m m':Im)(c0:Nat)(sel:ByteArray)(x:Option (List (W×Nat))):Prop where
 len:m'.kl.length=m.kl.length
 kl:∀(c:Nat) (k:Kl),m.kl[c]?=some k->∃k':Kl,m'.kl[c]?=some k'/\k'.name=k.name/\k'.above=k.above/\k'.tot=k.tot
 own:∀c s,m'.own c s=if c=c0/\s=sel then x else m.own c s
 looks:m'.looks=m.looks
 obs:m'.obs=m.obs
variable {m m' : Im}
theorem Nk.ab {c0:Nat}{sel:ByteArray}{x:Option (List (W×Nat))}(h:Nk m m' c0 sel x):m'.ab=m.ab:=by
 funext c;unfold Im.ab
 cases hk:m.kl[c]? with
 | none=>
  have h1:=WA.1 hk;have:=WA.2 (by rw[h.len];exact h1);rw[this]
 | some k=>
  obtain⟨k',h1,_,h2,_⟩:=h.kl c k hk;rw[h1];exact h2
theorem NY {α:Type}(f:α->ByteArray)(s:ByteArray):∀(l l':List α),l'.length=l.length->(∀(c:Nat) (k:α),l[c]?=some k->∃k':α,l'[c]?=some k'/\f k'=f k)->l'.findIdx? (λk=>f k==s)=l.findIdx? (λk=>f k==s)
 | [],[],_,_=>rfl
 | [],_::_,h,_=>MO
 | _::_,[],h,_=>MO
 | x::r,x'::r',h,hx=>by
  obtain⟨k',e1,e2⟩:=hx 0 x rfl;simp at e1;subst e1;have:=NY f s r r' Nv (λc k hk=>by simpa using hx (c+1) k (by simpa using hk));simp only[WC,e2,this]
theorem Nk.cls {c0:Nat}{sel:ByteArray}{x:Option (List (W×Nat))}(h:Nk m m' c0 sel x)(s:ByteArray):m'.cls s=m.cls s:=
 NY Kl.name s _ _ h.len (λc k hk=>by obtain⟨k',h1,h2,_⟩:=h.kl c k hk;exact⟨k',h1,h2⟩)
theorem gX {c0:Nat}(hc:c0<m.kl.length)(f:Kl->Kl)(c:Nat)(s:ByteArray):(m.UY c0 f).own c s=if c=c0 then (m.kl[c0]?.bind (λk=>(f k).own s)) else m.own c s:=by
 unfold Im.own;rw[SL];by_cases e:c=c0
 . subst e;simp[Option.bind_map,Function.comp_def]
 . have e':¬c0=c:=λh=>e h.symm;simp[e,e']
theorem afU (k:Kl)(x:Mt)(s:ByteArray):(k.put x).own s=if s=x.sel then some x.ws else k.own s:=by
 unfold Kl.put Kl.own;simp only;rw[List.find?_append];by_cases e:s=x.sel
 . subst e
   have:(k.ms.filter (λy=>!(y.sel==x.sel))).find? (λy=>y.sel==x.sel)=none:=by
    rw[Xp];intro y hy;simp only[XM]at hy;simpa using hy.2
   rw[this];simp[Tq]
 . rw[ZX e]
   have h1:([x]:List Mt).find? (λy=>y.sel==s)=none:=by
    simp[List.find?_cons,(Vf x.sel s).2 JR]
   rw[h1,Option.or_none];congr 1;rw[List.find?_filter];congr 1;funext y
   cases hy:(y.sel==s) with
   | false=>simp
   | true=>
    have:=(SK y.sel s).1 hy;rw[this,(Vf s x.sel).2 e];rfl
theorem acp (k:Kl)(sel s:ByteArray):(k.drop sel).own s=if s=sel then none else k.own s:=by
 unfold Kl.drop Kl.own;simp only;rw[List.find?_filter];by_cases e:s=sel
 . subst e;rw[ZU rfl]
   have:k.ms.find? (λy=>decide (!(y.sel==s))&&(y.sel==s))=none:=by
    rw[Xp];intro y _;cases hy:(y.sel==s)<;>simp
   simp only[Option.map_eq_none_iff];rw[Xp];intro y _;cases hy:(y.sel==s)<;>simp
 . rw[ZX e];congr 1;congr 1;funext y
   cases hy:(y.sel==s) with
   | false=>simp
   | true=>
    have:=(SK y.sel s).1 hy;rw[this,(Vf s sel).2 e];rfl
theorem F9 {c0:Nat}(hc:c0<m.kl.length)(x:Mt):Nk m (m.UY c0 (·.put x)) c0 x.sel (some x.ws):=by
 refine⟨O6 _ _ _,λc k hk=>?_,λc s=>?_,rfl,rfl⟩
 . exact ant
 . rw[gX hc];by_cases e:c=c0
   . subst e;rw[ZU rfl];unfold Im.own;rw[Z8 hc];simp only[YA,afU,true_and]
   . rw[ZX e,ZX (λh=>e h.1)]
theorem wF {c0:Nat}(hc:c0<m.kl.length)(sel:ByteArray):Nk m (m.UY c0 (·.drop sel)) c0 sel none:=by
 refine⟨O6 _ _ _,λc k hk=>?_,λc s=>?_,rfl,rfl⟩
 . exact ant
 . rw[gX hc];by_cases e:c=c0
   . subst e;rw[ZU rfl];unfold Im.own;rw[Z8 hc];simp only[YA,acp,true_and]
   . rw[ZX e,ZX (λh=>e h.1)]
end Kn
namespace Go.Proofs.Rz
open ChangeShapes WideShapes ChangeAt RowKit Kn Iz Tryz
variable {w : World}
variable {m : Im}
variable {K : Kd}
theorem Ud.sF (h:Ud w m K):(∀s r,o8 m K s r->Nw m K.cb r/\r.sel=s)/\∀r,SrI m K r->Nw m K.cb r:=
 ⟨λs r hr=>⟨.inl (hr.2.aop h.ok),hr.1⟩,λr hr=>by rcases hr with hr|hr;exact .inl (hr.aop h.ok);exact .inr hr⟩
def Kd.meth (K:Kd)(c0:Nat)(sel:ByteArray)(x:Option Nat)(Hx:List (ByteArray×Value))(kc:Kc):Kd:=
 {K with lm:=λc=>if c=c0 then Hx else K.lm c,mid:=λc s=>if c=c0/\s=sel then x else K.mid c s,k:=kc}
structure Grew (N:Nat)(K kc:Kc):Prop where
 np:kc.np=K.np
 sb:kc.sb=K.sb
 n:kc.n=K.n
 l:∀s ib,kc.l.lookup s=some (.map (some ib))->K.l.lookup s=some (.map (some ib))\/N<=ib
 blk:∀k,Td kc k->Td K k\/N<=k
 g:∀j,kc.Mk j->1<=(kc.md j).ws.length->(K.Mk j/\kc.md j=K.md j)\/N<=(kc.md j).g
 md:∀k,K.Mk k->kc.Mk k/\kc.md k=K.md k
theorem Grew.gW {N:Nat}{K:Kc}{l:List (ByteArray×Value)}{ps:Nat->List Nat}{pm:Nat->Mm}{R:Nat->U1}(h:Kept N K l pm):Grew N K {K with l:=l,ps:=ps,pm:=pm,R:=R}:=
 ⟨rfl,rfl,rfl,h.l,λk hk=>Td.old (K:=K) (ps:=ps) (R:=R) hk h.l h.arr,λj hj _=>.inl ⟨hj,rfl⟩,λk hk=>yg⟩
variable {w' : World}
variable {m' : Im}
theorem Ud.jB (h:Ud w m K){c0:Nat}{sel:ByteArray}{x:Option Nat}{Hx:List (ByteArray×Value)}{kc:Kc}(hc0:c0<m.kl.length)(hm':U3 m')(ho:Nk m m' c0 sel (x.map (λk=>(kc.md k).ws)))
 (E':Qr w' K.b kc (λ_=>False) (λs r=>o8 m K s r/\SI m K.cb c0 sel r=false) (λr=>(SrI m K r/\SI m K.cb c0 sel r=false)\/r=noRow)) (hgr:Grew w.heap.size K.k kc) (hx:∀k,x=some k->kc.Mk k)
 (hlm:SMap w' (K.cm c0) Hx) (hlk:∀s,Hx.lookup s=if s=sel then x.map (λk=>(VG k)) else (K.lm c0).lookup s) (hch:Vt w w' (λj=>j=K.b\/j=K.cm c0\/Td K.k j)) (hd:UK w w' K.b):
 Step w w' m K m' (K.meth c0 sel x Hx kc):=by
 have hmid:∀c s,¬(c=c0/\s=sel)->(if c=c0/\s=sel then x else K.mid c s)=K.mid c s:=λc s e=>ZX e;have Ms:∀r,Ans m K.cb K.mid r->SI m K.cb c0 sel r=false->Ans m' K.cb (K.meth c0 sel x Hx kc).mid r:=λr hr hl=>hr.ow h.ok hl ho.ab ho.len hmid
 have hcb:∀c,c<m.kl.length->¬(K.cb c=K.b\/K.cb c=K.cm c0\/Td K.k (K.cb c)):=λc hc e=>by
  rcases e with e|e|e
  . exact(h.Uc.vI h.cls hc).2 e
  . exact UA (h.cls.Vb hc) (h.lm c0 hc0) e
  . exact(h.Uc.vI h.cls hc).1 e
 have hcm:∀c,c<m.kl.length->c≠c0->¬(K.cm c=K.b\/K.cm c=K.cm c0\/Td K.k (K.cm c)):=λc hc hne e=>by
  obtain⟨es,ck,hx,_⟩:=id (h.lm c hc);have hn:=h.Uc.dO hx (h.ap.IQ c hc) aga;rcases e with e|e|e
  . exact hn.2 e
  . exact hne (h.ap.DU c c0 hc hc0 e)
  . exact hn.1 e
 have hmb:¬(K.mb=K.b\/K.mb=K.cm c0\/Td K.k K.mb):=λe=>by
  obtain⟨es,ck,hx,_⟩:=id h.lc;have hn:=h.Uc.dO hx h.ap.Bc h.ap.Bo;rcases e with e|e|e
  . exact hn.2 e
  . exact h.ap.zF c0 hc0 e.symm
  . exact hn.1 e
 have Ra:∀k,KF K.ob K.ov m.obs.length k->¬(k=K.b\/k=K.cm c0\/Td K.k k):=λk hk e=>by
  obtain⟨cs,hcs⟩:=h.obs.kind hk;have XX:UL w k:=by rcases hcs with e|e<;>exact⟨_,_,e⟩
  rcases e with e|e|e
  . exact anl
  . exact UA XX (h.lm c0 hc0) e
  . rcases hcs with hc|hc
    . exact h.Uc.other hc Vz Vz Vz e
    . exact h.Uc.other hc Vz Vz Vz e
 have V':∀k,U2 m' (K.meth c0 sel x Hx kc) k->U2 m K k\/w.heap.size<=k:=λk e=>by
  rcases e with e|e|⟨c,hc,e⟩|e|e|⟨j,hj,h1,e⟩
  . exact .inl (.inl e)
  . exact .inl vJ
  . exact .inl (.inr (.inr (.inl ⟨c,adY,e⟩)))
  . exact ac2
  . rw[ho.obs]at e;exact .inl mM
  . rcases hgr.g j hj h1 with⟨h2,h3⟩|h2
    . have h1':1<=(K.k.md j).ws.length:=by rw[<- h3];exact h1
      have e':k=(K.k.md j).g:=by rw[<- h3];exact e
      exact .inl (.inr (.inr (.inr (.inr (.inr ⟨j,h2,h1',e'⟩)))))
    . exact .inr (by rw[e];exact h2)
 have Wa:Vt w w' (U2 m K):=hch.mono (λk _ e=>by
  rcases e with e|e|e
  . exact .inl e
  . exact .inr (.inr (.inl ⟨c0,hc0,.inr e⟩))
  . exact .inr EP)
 have AW:=h.J7.Ut Wa dY;have Pr:(K.meth c0 sel x Hx kc).np=K.np:=hgr.np;refine⟨⟨hm',E'.weaken (λs r hr=>⟨hr.1.1,Ms r hr.1.2 hr.2⟩) (λr hr=>?_),?_,Pr ▸ h.np6,?_,h.lc.same (hch.block _ h.lc.lt hmb),λs=>?_,?_,?_,λc hc=>?_,λc s hc=>?_,λc s=>?_,λc s k hk=>?_,?_,?_,AW,λk hk hg=>?_⟩,rfl,Pr,Wa,V',by rw[ho.len];exact ZN _,λ_ _=>rfl,hgr.md⟩
 . exact ajQ
 . have:=h.hd.hd hd;exact⟨this.c0,this.c1,by rw[ho.looks];exact this.c2,this.c3,by rw[Pr];exact this.c4⟩
 . rw[ho.looks];exact h.cll
 . rw[ho.cls s];exact h.iW s
 . rw[ho.len];exact h.lcn
 . refine⟨λc k hk=>?_,λc d hc hd=>h.cls.inj c d adY (by rw[<- ho.len];exact hd)⟩;have hc:c<m.kl.length:=by rw[<- ho.len];exact(Z7.1 hk).1
   obtain⟨k',h1,h2,h3,h4⟩:=ho.kl c _ (Z8 hc);rw[hk]at h1;injection h1 with h1;subst h1;rw[h2,h3,h4];exact(hch.block _ (h.cls.Vb hc).lt (hcb c hc)).trans (h.cls.at_ c _ (Z8 hc))
 . have hc':c<m.kl.length:=by rw[<- ho.len];exact hc
   by_cases e:c=c0
   . subst e;show SMap w' (K.cm c) (if c=c then Hx else K.lm c);rw[ZU rfl];exact hlm
   . show SMap w' (K.cm c) (if c=c0 then Hx else K.lm c);rw[ZX e];exact(h.lm c hc').same (hch.block _ (h.lm c hc').lt (hcm c hc' e))
 . have hc':c<m.kl.length:=by rw[<- ho.len];exact hc
   show (if c=c0 then Hx else K.lm c).lookup s=(if c=c0/\s=sel then x else K.mid c s).map _;by_cases e:c=c0
   . subst e;rw[ZU rfl,hlk s];by_cases e2:s=sel
     . rw[ZU e2,ZU ⟨rfl,e2⟩]
     . rw[ZX e2,ZX (λh=>e2 h.2)];exact h.mid c s hc'
   . rw[ZX e,ZX (λh=>e h.1)];exact h.mid c s hc'
 . show m'.own c s=(if c=c0/\s=sel then x else K.mid c s).map (λk=>(kc.md k).ws);rw[ho.own c s];by_cases e:c=c0/\s=sel
   . rw[ZU e,ZU e]
   . rw[ZX e,ZX e,h.own c s]
     cases hk:K.mid c s with
     | none=>rfl
     | some k=>simp only[ZG];rw[(hgr.md k (h.yZ c s k hk)).2]
 . have hk':(if c=c0/\s=sel then x else K.mid c s)=some k:=hk;by_cases e:c=c0/\s=sel
   . rw[ZU e]at hk';exact hx k hk'
   . rw[ZX e]at hk';exact(hgr.md k (h.yZ c s k hk')).1
 . have hnew:∀k s,k<w.heap.size->K.k.l.lookup s≠some (.map (some k))->kc.l.lookup s≠some (.map (some k)):=λk s hk hn e=>by
    rcases hgr.l s k e with e|e
    . exact hn e
    . omega
   refine⟨?_,λs=>hnew _ s h.lc.lt (h.ap.Bo s),λc hc=>h.ap.zF c adY,λc hc=>?_,λc s hc=>?_,λc d hc hd=>h.ap.DU c d adY (by rw[<- ho.len];exact hd)⟩
   . show K.mb≠kc.sb;rw[hgr.sb];exact h.ap.Bc
   . show K.cm c≠kc.sb;rw[hgr.sb];exact h.ap.IQ c adY
   . have hc':c<m.kl.length:=by rw[<- ho.len];exact hc
     exact hnew _ s (h.lm c hc').lt (h.ap.yQ c s hc')
 . rw[ho.obs];exact h.obs.same (λk hk=>hch.block k (h.obs.lt hk) (Ra k hk))
 . exact zx
theorem Ud.rG (h:Ud w m K){c:Nat}{s:ByteArray}(e:K.mid c s=none):m.own c s=none:=by rw[h.own,e];rfl
theorem Ud.Oz (h:Ud w m K){c k:Nat}{s:ByteArray}(e:K.mid c s=some k):m.own c s=some (K.k.md k).ws:=by rw[h.own,e];rfl
theorem pY (h:Ud w m K)(cn sel:ByteArray):
 Calls prog 19 #[VG K.b,.string cn,.string sel] w λe w'=>e=.returned (VI (m.drop cn sel).1)/\∃K',Step w w' m K (m.drop cn sel).2 K':=by
 have lk:=h.look cn;have c0:=h.hd.c0
 cases hcl:m.cls cn with
 | none=>
  have hdr:m.drop cn sel=(2,m):=by unfold Im.drop;rw[hcl]
  rw[hdr];rw[hcl]at lk;simp only[Zm,Vq]at lk;have HS:=UQ (Step.refl h);clear h hdr hcl;go_enter func19,ntmps19;go_wp2
  go_ret
  exact Ou
 | some c=>
  have hc:=OO hcl;rw[hcl]at lk;simp only[ZG,Vq]at lk;have c0:=h.cls.meth hc;have Tl:=h.iK hc sel
  cases Vn:K.mid c sel with
  | none=>
   have hdr:m.drop cn sel=(4,m):=by unfold Im.drop;rw[hcl];simp only;rw[h.rG Vn]
   rw[hdr];rw[Vn]at Tl;simp only[Zm,Vq]at Tl;have HS:=UQ (Step.refl h);clear h hdr hcl;go_enter func19,ntmps19;go_wp2
   go_ret
   exact Ou
  | some k=>
   have hdr:m.drop cn sel=(0,m.UY c (·.drop sel)):=by unfold Im.drop;rw[hcl];simp only;rw[h.Oz Vn]
   have hok:=(yw h.ok cn sel).1;rw[hdr]at hok ⊢;rw[Vn]at Tl;simp only[ZG,Vq]at Tl
   have hcall:Calls prog 49 #[VG K.b,VG (K.cb c),.string sel] w λe w'=>e=.returned (.tuple #[])/\∃K',Step w w' m K (m.UY c (·.drop sel)) K':=by
    refine(xE h.Uc m K.cb K.cm c k sel (K.lm c) h.ok hc h.cls (h.lm c hc) (h.ap.IQ c hc) aga (h.yZ c sel k Vn) (by rw[h.mid c sel hc,Vn];rfl) h.sF.1 h.sF.2).mono ?_;rintro e w' ⟨rfl,l,ps,pm,R,E',hsm,Z2,hch,hd⟩;exact⟨rfl,_,h.jB (x:=none) hc hok (wF hc sel) E' (Grew.gW Z2) (λk e=>EO) hsm (λs=>by rw[Na];rfl) hch hd⟩
   clear h hdr hcl hok;go_enter func19,ntmps19;go_wp2_with fail;refine hcall.mono ?_;rintro e w' ⟨rfl,hS⟩;go_wp2
   go_ret
   exact⟨rfl,hS⟩
theorem JG (ws:List (Kn.W×Nat))(k:Nat)(x:Kn.W×Nat)(hx:ws[k]?=some x):greatest (ws.take (k+1))=if x.1.k=103\/x.1.k=112 then max (greatest (ws.take k)) (x.1.n.toNat+1) else greatest (ws.take k):=by
 unfold greatest;rw[Yc,hx,Option.toList_some,Wy];rfl
theorem qh {ws:List (Kn.W×Nat)}(h:∀(i:Nat) (x:Kn.W×Nat),ws[i]?=some x->(x.1.k=103\/x.1.k=112)->x.1.n<10):∀k,k<=ws.length->greatest (ws.take k)<=10
 | 0,_=>by simp[greatest]
 | k+1,hk=>by
  obtain⟨x,hx⟩:∃x,ws[k]?=some x:=⟨_,Z8 VH⟩
  rw[JG ws k x hx];have ih:=qh h k VH;by_cases e:x.1.k=103\/x.1.k=112
  . rw[ZU e];have:=h k x hx e;omega
  . rw[ZX e];exact ih
theorem mV (L:List (Nat×ByteArray))(k0:Nat)(d:Md)(w:World)(hm:ML w L k0 d)(hs:∀(i:Nat) (x:Kn.W×Nat),d.ws[i]?=some x->(x.1.k=103\/x.1.k=112)->0<=x.1.n/\x.1.n<10)(hf:∀(i:Nat) (x:Kn.W×Nat),d.ws[i]?=some x->Pv x.1):
 Calls prog 67 #[VG k0] w λe w'=>e=.returned (VI (greatest d.ws:Nat))/\Below w.heap.size w w':=by
 obtain⟨n0,hb⟩:=hm.blk;have m0:w.cell? (VJ k0 0)=some (.slice d.p d.ws.length d.cap):=by simp only[World.cell?,hb];rfl
 have hn:=hm.len;have HM:=UQ hm.LV;have HS:Hid _:=hs;have HF:Hid _:=hf;clear hm hs hf hb;obtain⟨ws,p,g,cap,pl⟩:=d;simp only at m0 hn HM HS HF ⊢;go_enter func67,ntmps67;go_wp2
 go_loopw [3,11] (λt i wr=>∃k:Nat,i=VI k/\k<=ws.length/\t=VI (greatest (ws.take k):Nat)/\Below w.heap.size w wr) (λ_ i _=>ws.length-(intOf i).toNat)
 case atStart=>exact⟨0,rfl,VH,rfl,ZR _ _⟩
 case round=>
  obtain⟨k,rfl,hk,rfl,L_⟩:=hrel;by_cases hkn:k<ws.length
  . refine BH ?_;intro x hx;have hm:=HM.o;obtain rfl:p=some (VJ g 0):=hm.head VH;have ra:=(hm.Vb VH).lt;have hwr:=hm.same (L_.block g ra);refine aa9 ?_;intro c0 c1 c2 c3 c4 c5;obtain⟨q,hq⟩:∃q,(if k<ws.length/\UO x.1=true then some (VJ (pl k) 0) else none)=q:=Vx;rw[hq]at c5;have hgr:=JG ws k x hx;have ym:=HS.o k x hx;obtain⟨t,l,sd,jp,st,he⟩:=vM x.1.k x.1.n (HF.o k x hx).kind;have hsl:=he.slot;have HB:Hid _:=L_;have hsz:=L_.size;have hcall:=NQ (kindOf x.1.k) x.1.n (VF x.1.a) (VF x.1.sel) (VF x.1.b) (wr.alloc (.cells #[VI (kindOf x.1.k:Nat),VI x.1.n,.string (VF x.1.a),.string (VF x.1.sel),.string (VF x.1.b),.pointer q] 146)) (q:=q);have hz:=(Z4 wr (.cells #[VI (kindOf x.1.k:Nat),VI x.1.n,.string (VF x.1.a),.string (VF x.1.sel),.string (VF x.1.b),.pointer q] 146)).1;clear hm hwr L_ he hq m0 ra
    cases DM:Jt (kindOf x.1.k) with
    | false=>
     rw[DM]at hcall;have hno:¬(x.1.k=103\/x.1.k=112):=λe=>by have:=hsl.2 e;rw[DM]at this;cases this
     rw[ZX hno]at hgr;have HG:Hid _:=hgr;clear ym hsl DM hno hgr hx;go_wp2_with fail;refine hcall.mono ?_;rintro e w2 ⟨rfl,hb2⟩;have Uv:=UQ ((HB.o.alloc hsz _).trans (hb2.mono Vo));clear hb2 hcall c0 c1 c2 c3 c4 c5;go_wp2
     go_roundw
     case rel=>exact⟨k+1,Uu,VH,by rw[HG.o],Uv.o⟩
     case measure=>simp[intOf]<;>omega
    | true=>
     rw[DM]at hcall;have GD:=hsl.1 DM;rw[ZU GD]at hgr;obtain⟨hn0,sX⟩:=ym GD
     obtain⟨xn,F4⟩:∃xn:Nat,x.1.n=(xn:Int):=⟨x.1.n.toNat,VH⟩
     rw[F4]at hgr hcall hz sX;rw[Zp]at hgr;have HG:Hid _:=hgr;rw[F4]at c1;clear ym hsl DM GD hgr hx hn0 F4;go_wp2_with fail;refine hcall.mono ?_;rintro e w2 ⟨rfl,hb2⟩;have Uv:=UQ ((HB.o.alloc hsz _).trans (hb2.mono Vo))
     have z1:w2.cell? (VJ wr.heap.size 1)=some (VI (xn:Nat)):=by
      refine(hb2.cell (p:=(VJ wr.heap.size 1)) Vy).trans ?_;simp only[World.cell?,hz];rfl
     clear hb2 hcall c0 c1 c2 c3 c4 c5;go_wp2
     go_roundw
     case rel=>exact⟨k+1,Uu,VH,by rw[HG.o];congr 1;split<;>omega,Uv.o⟩
     case measure=>simp[intOf]<;>omega
  . obtain rfl:k=ws.length:=by omega
    rw[Yv];go_wp2
    go_ret
    exact⟨rfl,L_⟩
theorem abV (h:Ud w m K){t k:Nat}(ht:t<m.kl.length)(hk:K.k.Mk k)(sel:ByteArray)(hok:U3 (m.UY t (·.put ⟨sel,(K.k.md k).ws⟩))):
 Calls prog 44 #[VG K.b,VG (K.cb t),.string sel,VG k] w λe w'=>e=.returned (.tuple #[])/\∃K',Step w w' m K (m.UY t (·.put ⟨sel,(K.k.md k).ws⟩)) K':=by
 refine(ru h.Uc m K.cb K.cm t k sel (K.lm t) (K.mid t sel) h.ok ht h.cls (h.lm t ht) (h.ap.IQ t ht) (λs=>h.ap.yQ t s ht) hk (.inl (λ_ e=>e)) (h.mid t sel ht) (λk0 e=>h.yZ t sel k0 e) h.sF.1 h.sF.2).mono ?_;rintro e w' ⟨rfl,l,ps,pm,R,E',hsm,Z2,hch,hd⟩;exact⟨rfl,_,h.jB (sel:=sel) (x:=some k) (kc:={K.k with l:=l,ps:=ps,pm:=pm,R:=R}) ht hok (F9 ht ⟨sel,(K.k.md k).ws⟩) E' (Grew.gW Z2) (λk' e=>by injection e with e;subst e;exact hk) hsm (λs=>by rw[S9];rfl) hch hd⟩
theorem Ud.aeS (h:Ud w m K){c:Nat}{s:ByteArray}{ws:List (Kn.W×Nat)}(ho:m.own c s=some ws):(∀(i:Nat) (x:Kn.W×Nat),ws[i]?=some x->(x.1.k=103\/x.1.k=112)->0<=x.1.n/\x.1.n<10)/\∀(i:Nat) (x:Kn.W×Nat),ws[i]?=some x->Pv x.1:=by
 obtain⟨_,hg⟩:=IZ h.ok ho;refine⟨λi x hx e=>⟨(hg.shp i x hx).low (by rcases e with e|e;exact .inr (.inl e);exact .inr (.inr e)),?_⟩,hg.fine⟩;have hi:=(Z7.1 hx).1;have hn:=hg.num i hi;have hw:EG ws i=x.1:=ql
 have htot:m.tot c<=10:=by
  obtain⟨k,_,hk,_⟩:=Kn.Oz ho;rw[Nl hk];exact h.ok.tot c k hk
 apply Zt;intro hlt;refine hn (.inr ?_);unfold TG;rw[hw];exact⟨e,VH⟩
theorem acQ (h:Ud w m K)(cn sel to:ByteArray)(hsz:sel.size<=140737488355328):
 Calls prog 32 #[VG K.b,.string cn,.string sel,.string to] w λe w'=>e=.returned (VI (m.copy cn sel to).1)/\∃K',Step w w' m K (m.copy cn sel to).2 K':=by
 refine ajc ?_;intro lk RB c0 HS
 cases hcl:m.cls cn with
 | none=>
  have hdr:m.copy cn sel to=(2,m):=by unfold Im.copy;rw[hcl]
  rw[hdr];obtain⟨v,hv⟩:∃v,Vq ((m.cls to).map K.cb)=v:=Vx;rw[hcl]at lk;simp only[Zm,Vq]at lk;rw[hv]at RB;clear h hdr hcl hv;go_enter func32,ntmps32;go_wp2_with fail
  go_region
  go_wp2
  go_ret
  exact Ou
 | some c=>
  have hc:=OO hcl;rw[hcl]at lk;simp only[ZG,Vq]at lk
  cases y':m.cls to with
  | none=>
   have hdr:m.copy cn sel to=(2,m):=by unfold Im.copy;rw[hcl,y']
   rw[hdr];rw[y']at RB;simp only[Zm,Vq]at RB;clear h hdr hcl y';go_enter func32,ntmps32;go_wp2_with fail
   go_region
   go_wp2
   go_ret
   exact Ou
  | some t=>
   have ht:=OO y';rw[y']at RB;simp only[ZG,Vq]at RB;have c4:=h.cls.meth hc;have Tl:=h.drew.iK hc sel
   cases Vn:K.mid c sel with
   | none=>
    have hdr:m.copy cn sel to=(4,m):=aot;rw[hdr];rw[Vn]at Tl;simp only[Zm,Vq]at Tl;clear h hdr hcl;go_enter func32,ntmps32;go_wp2_with fail
    go_region
    go_wp2
    go_ret
    exact Ou
   | some k=>
    rw[Vn]at Tl;simp only[ZG,Vq]at Tl;have how:=h.Oz Vn;have hsl:=h.aeS how;have hmk:=h.yZ c sel k Vn;have F2:m.copy cn sel to=if m.tot t<greatest (K.k.md k).ws then (7,m) else (0,m.UY t (·.put ⟨sel,(K.k.md k).ws⟩)):=by unfold Im.copy;rw[hcl,y'];simp only;rw[how]
    have hok:=(xC h.ok cn sel to).1
    have Ks:w.cell? (VJ (K.cb t) 3)=some (VI (m.tot t:Nat)):=by
     have:=h.cls.at_ t _ (Z8 ht);rw[Nl (Z8 ht)];refine FK ?_;rfl
    have htl:=ZE w (VJ (K.cb t) 3) Ks;have HH:Hid _:=h
    have HK:Hid (K.k.Mk k/\t<m.kl.length):=⟨hmk,ht⟩
    have R2:∀W:World,Below w.heap.size w W->Calls prog 67 #[VG k] W λe w'=>e=.returned (VI (greatest (K.k.md k).ws:Nat))/\Below W.heap.size W w':=λW hW=>mV K.k.L k (K.k.md k) W ((h.below hW).Uc.mt k hmk) hsl.1 hsl.2;have Iv:=R2 w.drew.drew uq;obtain⟨cr,hcr⟩:∃cr,m.copy cn sel to=cr:=Vx;rw[hcr]at hok F2 ⊢;clear h hcl y' Vn hmk hsl how R2 hcr;go_enter func32,ntmps32;go_wp2_with fail
    go_region
    go_wp2_with fail;clear c0 c4 lk RB Tl;refine Uy ?_;refine ZT (S:=(λw'=>w'.cell? (VJ (K.cb t) 3)=some (VI (m.tot t:Nat)))) VE UG (λhHeld=>?_);refine Uh 0 ?_;refine Uh 2 ?_;refine aa7 ?_;refine Ur 5 ?_;refine Ul 1 λY_ Z_=>?_;go_simp;refine Iv.mono ?_;rintro e w2 ⟨rfl,hb2⟩;have ia:=(hb2.cell (p:=(VJ (K.cb t) 3)) htl).trans Ks
    try go_wp2_with fail
    refine Z_.go λhHeld=>?_;clear Z_ Y_
    try refine UE ?_
    refine Ur 6 ?_;refine Nr ?_;clear hHeld;clear hHeld
    have HB:Hid (Below w.heap.size w w2):=by
     have hx1:=RH (RH hb2);exact hx1
    clear hb2 Iv Ks;by_cases hlt:m.tot t<greatest (K.k.md k).ws
    . rw[ZU hlt]at F2;subst F2;clear hok;go_wp2
      go_ret
      exact⟨rfl,K,Step.below HH.o HB.o⟩
    . rw[ZX hlt]at F2;subst F2;have HO:Hid _:=hok;clear hok;go_wp2_with fail;refine(clone_any sel _ hsz).mono ?_;rintro e w2 ⟨rfl,hb2⟩;have VM:=UQ (HB.o.trans (hb2.mono HB.o.size));have hcall:=abV (HH.o.below VM.o) HK.o.2 HK.o.1 sel HO.o;clear hb2;go_wp2_with fail;refine hcall.mono ?_;rintro e w2 ⟨rfl,K',hS⟩
      have cx:Hid (∃K',Step w w2 m K (m.UY t (·.put ⟨sel,(K.k.md k).ws⟩)) K'):=by
       have hx1:∃K',Step w w2 m K (m.UY t (·.put ⟨sel,(K.k.md k).ws⟩)) K':=⟨K',(Step.below HH.o VM.o).trans hS⟩
       exact hx1
      clear hS hcall;go_wp2
      go_ret
      exact⟨rfl,cx.o⟩
end Go.Proofs.Rz
namespace Kn
open Go
variable {m m' : Im}
theorem aal (hl:m'.kl.length=m.kl.length)(hk:∀(c:Nat) (k:Kl),m.kl[c]?=some k->∃k':Kl,m'.kl[c]?=some k'/\k'.name=k.name)(s:ByteArray):m'.cls s=m.cls s:=NY Kl.name s _ _ hl hk
theorem xZ (h:U3 m){s:ByteArray}{c:Nat}(hc:m.cls s=some c):(c=0↔s=⟨#[65,110,121]⟩)/\(c=1↔s=⟨#[73,110,116]⟩):=by
 obtain⟨k,hk,hn⟩:=RJ hc;obtain⟨ms0,h0⟩:=h.any;obtain⟨ms0,h1⟩:=h.int;refine⟨⟨λe=>?_,λe=>?_⟩,⟨λe=>?_,λe=>?_⟩⟩
 . subst e;rw[h0]at hk;injection hk with hk;rw[<- hn,<- hk]
 . exact h.once c 0 k _ hk h0 (by rw[hn,e])
 . subst e;rw[h1]at hk;injection hk with hk;rw[<- hn,<- hk]
 . exact h.once c 1 k _ hk h1 (by rw[hn,e])
end Kn
namespace Go.Proofs.Rz
open ChangeShapes WideShapes ChangeAt RowKit Kn Iz Tryz
variable {w : World}
variable {m : Im}
variable {K : Kd}
theorem Ud.Jd (h:Ud w m K){k:Nat}(e:k=K.b\/Vm K.k.L K.k.pm k):U2 m K k:=by
 rcases e with e|e
 . exact .inl e
 . exact .inr aoN
theorem Ud.Ko (h:Ud w m K):(∀c,c<m.kl.length->¬(K.cb c=K.b\/Vm K.k.L K.k.pm (K.cb c)))/\(∀c,c<m.kl.length->¬(K.cm c=K.b\/Vm K.k.L K.k.pm (K.cm c)))/\¬(K.mb=K.b\/Vm K.k.L K.k.pm K.mb)/\∀k,KF K.ob K.ov m.obs.length k->¬(k=K.b\/Vm K.k.L K.k.pm k):=by
 refine⟨λc hc e=>?_,λc hc e=>?_,λe=>?_,λk hk e=>?_⟩
 . rcases e with e|e
   . exact(h.Uc.vI h.cls hc).2 e
   . exact(h.Uc.vI h.cls hc).1 EP
 . obtain⟨es,ck,hx,_⟩:=id (h.lm c hc);have hn:=h.Uc.dO hx (h.ap.IQ c hc) aga;rcases e with e|e
   . exact hn.2 e
   . exact hn.1 EP
 . obtain⟨es,ck,hx,_⟩:=id h.lc;have hn:=h.Uc.dO hx h.ap.Bc h.ap.Bo;rcases e with e|e
   . exact hn.2 e
   . exact hn.1 EP
 . obtain⟨cs,hcs⟩:=h.obs.kind hk;rcases e with e|e
   . exact anl
   . rcases hcs with hc|hc
     . exact h.Uc.other hc Vz Vz Vz EP
     . exact h.Uc.other hc Vz Vz Vz EP
theorem Grew.adl {N:Nat}{K:Kc}{pm:Nat->Mm}{R:Nat->U1}(h:∀p q,(pm p).arr=some q->(K.pm p).arr=some q):Grew N K {K with pm:=pm,R:=R}:=
 ⟨rfl,rfl,rfl,λs ib e=>.inl e,λk hk=>Td.old (K:=K) (l:=K.l) (ps:=K.ps) (R:=R) hk (λs ib e=>.inl e) (λp q e=>.inl (h p q e)),λj hj _=>.inl ⟨hj,rfl⟩,λk hk=>yg⟩
variable {w' : World}
theorem Ud.forgot (h:Ud w m K){pm:Nat->Mm}{R:Nat->U1}(E':Qr w' K.b {K.k with pm:=pm,R:=R} (λ_=>False) (o8 m K) (SrI m K)) (ha:∀p q,(pm p).arr=some q->(K.k.pm p).arr=some q) (hch:Vt w w' (λk=>k=K.b\/Vm K.k.L K.k.pm k)) (hd:UK w w' K.b):
 Step w w' m K m {K with k:={K.k with pm:=pm,R:=R} }:=by
 obtain⟨n1,n2,n3,n4⟩:=h.Ko;have hgr:Grew w.heap.size K.k {K.k with pm:=pm,R:=R}:=Grew.adl ha
 have V':∀k,U2 m {K with k:={K.k with pm:=pm,R:=R} } k->U2 m K k\/w.heap.size<=k:=λk e=>by
  rcases e with e|e|e|e|e|e
  . exact .inl (.inl e)
  . exact .inl vJ
  . exact .inl EP
  . exact ac2
  . exact .inl mM
  . exact .inl aaN
 have Wa:Vt w w' (U2 m K):=hch.mono (λk _ e=>h.Jd e);have hh:=h.hd.hd hd;refine⟨⟨h.ok,E',⟨hh.c0,hh.c1,hh.c2,hh.c3,hh.c4⟩,h.np6,h.cll,h.lc.same (hch.block _ h.lc.lt n3),h.iW,h.lcn,h.cls.Ut hch n1,λc hc=>(h.lm c hc).same (hch.block _ (h.lm c hc).lt (n2 c hc)),h.mid,h.own,h.yZ,agD,h.obs.same (λk hk=>hch.block k (h.obs.lt hk) (n4 k hk)),h.J7.Ut Wa dY,λk hk hg=>?_⟩,rfl,rfl,Wa,V',ZN _,λ_ _=>rfl,λk hk=>yg⟩;exact zx
theorem flush_any (h:Ud w m K)(sel:ByteArray)(hsz:sel.size<=140737488355328):
 Calls prog 14 #[VG K.b,.string sel] w λe w'=>e=.returned (VI (Q7 sel))/\∃K',Step w w' m K m K':=by
 by_cases he:sel=⟨#[]⟩
 . have hcall:Calls prog 35 #[VG K.b] w λe w'=>e=.returned (.tuple #[])/\∃K',Step w w' m K m K':=by
    refine(AB h.Uc JQ).mono ?_;rintro e w' ⟨rfl,pm,R,E',ha,hch,hd⟩;exact⟨rfl,_,h.forgot E' ha hch hd⟩
   have D4:Q7 sel=0:=by unfold Q7;rw[ZX];exact λe=>e.1 he
   rw[D4];subst he;clear h D4;go_enter func14,ntmps14;go_wp2_with fail;refine hcall.mono ?_;rintro e w' ⟨rfl,hS⟩;go_wp2
   go_ret
   exact⟨rfl,hS⟩
 . refine ahN ?_;intro hne UB;have HH:Hid _:=h;have HN:Hid _:=he;clear h he;go_enter func14,ntmps14;go_wp2_with fail;refine(Qn sel w hsz).mono ?_;rintro e w1 ⟨rfl,hb1⟩;have HB:Hid _:=hb1;clear hb1
   cases hs:selector (bl sel) with
   | false=>
    have fi:Hid (Q7 sel=1):=by
     have hx1:Q7 sel=1:=by unfold Q7;rw[ZU];exact⟨HN.o,hs⟩
     exact hx1
    clear hs;go_wp2
    go_ret
    exact⟨by rw[fi.o];rfl,K,Step.below HH.o HB.o⟩
   | true=>
    have fi:Hid (Q7 sel=0):=by
     have hx1:Q7 sel=0:=by unfold Q7;rw[ZX];rw[hs];exact λe=>by cases e.2
     exact hx1
    have hcall:Calls prog 36 #[VG K.b,.string sel] w1 λe w'=>e=.returned (.tuple #[])/\∃K',Step w w' m K m K':=by
     have h1:=HH.o.below HB.o;refine(AA h1.Uc JQ sel).mono ?_;rintro e w' ⟨rfl,pm,R,E',ha,hch,hd⟩;exact⟨rfl,_,(Step.below HH.o HB.o).trans (h1.forgot E' ha hch hd)⟩
    clear hs;go_wp2_with fail;refine hcall.mono ?_;rintro e w' ⟨rfl,hS⟩;go_wp2
    go_ret
    exact⟨by rw[fi.o];rfl,hS⟩
theorem CO (m:Im)(c a d:Nat)(k:Kl)(hk:m.kl[d]?=some k):(m.UY c (λk=>{k with above:=some a})).kl[d]?=some (if c=d then {k with above:=some a} else k):=by
 rw[SL,hk];by_cases e:c=d
 . rw[ZU e,ZU e];rfl
 . rw[ZX e,ZX e]
theorem nT (m:Im)(c a d:Nat)(s:ByteArray):(m.UY c (λk=>{k with above:=some a})).own d s=m.own d s:=by
 unfold Im.own;rw[SL];by_cases e:c=d
 . rw[ZU e];cases m.kl[d]?<;>rfl
 . rw[ZX e]
theorem bG (m:Im)(c a d:Nat)(hd:d≠c):(m.UY c (λk=>{k with above:=some a})).ab d=m.ab d:=by
 unfold Im.ab;rw[SL,ZX (λe=>hd e.symm)]
theorem Qr.apA {b:Nat}{K:Kc}{X:Nat->Prop}{Sd:ByteArray->U1->Prop}{Sr:U1->Prop}(h:Qr w b K X Sd Sr){cb cm:Nat->Nat}(hcl:Cls w m cb cm){c:Nat}(hc:c<m.kl.length){j:Nat}(hj:K.Mk j)(h1:1<=(K.md j).ws.length):(K.md j).g≠cb c:=λe=>by
 obtain⟨x,hx⟩:∃x,(K.md j).ws[0]?=some x:=⟨_,Z8 VH⟩
 have h0:=(h.mt j hj).LV.c5 0 x hx;have h2:=hcl.at_ c _ (Z8 hc);rw[e]at h0;simp only[World.cell?,h2]at h0;simp at h0
theorem Ud.moved {w w3:World}(h:Ud w m K){c a:Nat}(hc:c<m.kl.length)(ha:a<m.kl.length)(hm':U3 (m.UY c (λk=>{k with above:=some a}))) {pm:Nat->Mm}{R:Nat->U1}
 (E':Qr w3 K.b {K.k with pm:=pm,R:=R} (λ_=>False) (λs r=>o8 m K s r/\Tj m K.cb c r=false) (λr=>(SrI m K r/\Tj m K.cb c r=false)\/r=noRow)) (har:∀p q,(pm p).arr=some q->(K.k.pm p).arr=some q) (hch:Vt w w3 (λk=>k=K.b\/Vm K.k.L K.k.pm k)) (hd:UK w w3 K.b):
 Step w (w3.setCell (VJ (K.cb c) 2) ((VG (K.cb a)))) m K (m.UY c (λk=>{k with above:=some a})) {K with k:={K.k with pm:=pm,R:=R} }:=by
 obtain⟨n1,n2,n3,n4⟩:=h.Ko;have M0:=h.cls.Ut hch n1;have hgr:Grew w.heap.size K.k {K.k with pm:=pm,R:=R}:=Grew.adl har;have B_:∀j,j≠K.cb c->(w3.setCell (VJ (K.cb c) 2) ((VG (K.cb a)))).heap[j]?=w3.heap[j]?:=λj hj=>ZW _ _ _ _ hj;have hlen:(m.UY c (λk=>{k with above:=some a})).kl.length=m.kl.length:=O6 _ _ _;have Ms:∀r,Ans m K.cb K.mid r->Tj m K.cb c r=false->Ans (m.UY c (λk=>{k with above:=some a})) K.cb K.mid r:=λr hr hl=>hr.ab h.ok hl (λd hd=>bG m c a d hd) hlen h.cls.inj hc;have fv:=aal hlen (λd k hk=>⟨_,CO m c a d k hk,by by_cases e:c=d<;>simp[e]⟩)
 have V':∀k,U2 (m.UY c (λk=>{k with above:=some a})) {K with k:={K.k with pm:=pm,R:=R} } k->U2 m K k\/w.heap.size<=k:=λk e=>by
  rcases e with e|e|⟨d,hd,e⟩|e|e|e
  . exact .inl (.inl e)
  . exact .inl vJ
  . exact .inl (.inr (.inr (.inl ⟨d,xq,e⟩)))
  . exact ac2
  . exact .inl mM
  . exact .inl aaN
 have Wa:Vt w (w3.setCell (VJ (K.cb c) 2) ((VG (K.cb a)))) (U2 m K):=(hch.mono (λk _ e=>h.Jd e)).setCell _ _ (λ_=>.inr (.inr (.inl ⟨c,hc,.inl rfl⟩)));have Ww:=(h.Uc.vI h.cls hc).2;have hh:=h.hd.hd hd;have hh':∀o,(w3.setCell (VJ (K.cb c) 2) ((VG (K.cb a)))).cell? (VJ K.b o)=w3.cell? (VJ K.b o):=λo=>Z9 (a:=(VJ K.b o)) (B_ K.b Ww.symm);have BE:∀k l,SMap w3 k l->(w3.setCell (VJ (K.cb c) 2) ((VG (K.cb a)))).heap[k]?=w3.heap[k]?:=λk l hs=>B_ k (λe=>UA (M0.Vb hc) hs e.symm);have tF:=h.lc.same (hch.block _ h.lc.lt n3);have rI:∀d,d<m.kl.length->SMap w3 (K.cm d) (K.lm d):=λd hd=>(h.lm d hd).same (hch.block _ (h.lm d hd).lt (n2 d hd))
 have GQ:=
  E'.same (B_ _ Ww.symm) (λk e=>B_ k (λe'=>(E'.vI M0 hc).1 (by rw[<- e'];exact e))) (λk hk h1=>B_ _ (E'.apA M0 hc hk h1))
 refine⟨⟨hm',GQ.weaken (λs r hr=>⟨hr.1.1,Ms r hr.1.2 hr.2⟩) (λr hr=>?_),⟨(hh' 0).trans hh.c0,(hh' 1).trans hh.c1,(hh' 2).trans hh.c2,(hh' 3).trans hh.c3,(hh' 4).trans hh.c4⟩,h.np6,h.cll,tF.same (BE _ _ tF),λs=>by rw[fv s];exact h.iW s,by rw[hlen];exact h.lcn,?_,λd hd=>(rI d xq).same (BE _ _ (rI d xq)),λd s hd=>h.mid d s xq,λd s=>by rw[nT];exact h.own d s,h.yZ,?_,?_,h.J7.Ut Wa dY,λk hk hg=>?_⟩,rfl,rfl,Wa,V',by rw[hlen];exact ZN _,λ_ _=>rfl,λk hk=>yg⟩
 . exact ajQ
 . refine⟨λd k hk=>?_,λd e hd he=>h.cls.inj d e xq (by rw[<- hlen];exact he)⟩;have hd':d<m.kl.length:=by rw[<- hlen];exact(Z7.1 hk).1
   have hx:=Z8 hd';rw[CO m c a d _ hx]at hk;injection hk with hk;have h3:=M0.at_ d _ hx;by_cases e:c=d
   . subst e;rw[ZU rfl]at hk;rw[<- hk];simp only[World.setCell,Zz,ZU,h3];rfl
   . rw[ZX e]at hk;rw[<- hk];exact(B_ _ (λe'=>e (h.cls.inj d c hd' hc e').symm)).trans h3
 . exact⟨h.ap.Bc,h.ap.Bo,λd hd=>h.ap.zF d xq,λd hd=>h.ap.IQ d xq,λd s hd=>h.ap.yQ d s xq,λd e hd he=>h.ap.DU d e xq (by rw[<- hlen];exact he)⟩
 . refine h.obs.same (λk hk=>(B_ k (λe=>?_)).trans (hch.block k (h.obs.lt hk) (n4 k hk)));obtain⟨cs,hcs⟩:=h.obs.kind hk;have h1:=h.cls.at_ c _ (Z8 hc);rw[<- e]at h1;rcases hcs with hx|hx
   . exact aiK
   . exact aiK
 . exact zx
theorem vO {s:ByteArray}{a:Array UInt8}(h:¬s=⟨a⟩):¬s.toList=a.toList:=λe=>h (by
 rw[ZL]at e;cases s;congr 1
 exact Wh.1 e)
theorem Cls.tot {cb cm:Nat->Nat}(h:Cls w m cb cm){c:Nat}(hc:c<m.kl.length):w.cell? (VJ (cb c) 3)=some (VI (m.tot c:Nat)):=by
 have:=h.at_ c _ (Z8 hc);rw[Nl (Z8 hc)];refine FK ?_;rfl
theorem mP (h:U3 m)(c:Nat):m.tot c<=10:=by
 by_cases hc:c<m.kl.length
 . rw[Nl (Z8 hc)];exact h.tot c _ (Z8 hc)
 . unfold Im.tot;rw[Y8 VH];simp
theorem O9 (h:Ud w m K):Step w w.drew m K m K:=Step.below h uq
theorem move_any (h:Ud w m K)(cn an:ByteArray):
 Calls prog 31 #[VG K.b,.string cn,.string an] w λe w'=>e=.returned (VI (m.move cn an).1)/\∃K',Step w w' m K (m.move cn an).2 K':=by
 have lk:=h.drew.look cn;have RB:=h.drew.look an;have c0:=h.hd.c0;have HS:=UQ (O9 h);obtain⟨mr,hmr⟩:∃mr,m.move cn an=mr:=Vx;have hok:=(xA h.ok cn an).1;rw[hmr]at hok ⊢
 cases hcl:m.cls cn with
 | none=>
  have hdr:mr=(2,m):=by rw[<- hmr];unfold Im.move;rw[hcl]
  subst hdr;obtain⟨v,hv⟩:∃v,Vq ((m.cls an).map K.cb)=v:=Vx;rw[hcl]at lk;simp only[Zm,Vq]at lk;rw[hv]at RB;clear h hmr hcl hv hok;go_enter func31,ntmps31;go_wp2_with fail
  go_region
  go_wp2
  go_ret
  exact Ou
 | some c=>
  have hc:=OO hcl;rw[hcl]at lk;simp only[ZG,Vq]at lk
  cases y':m.cls an with
  | none=>
   have hdr:mr=(2,m):=by rw[<- hmr];unfold Im.move;rw[hcl,y']
   subst hdr;rw[y']at RB;simp only[Zm,Vq]at RB;clear h hmr hcl y' hok;go_enter func31,ntmps31;go_wp2_with fail
   go_region
   go_wp2
   go_ret
   exact Ou
  | some a=>
   have ha:=OO y';rw[y']at RB;simp only[ZG,Vq]at RB;obtain⟨t0,t1⟩:=xZ h.ok hcl;by_cases hc2:c<2
   . have hdr:mr=(2,m):=by rw[<- hmr];unfold Im.move;rw[hcl,y'];simp only;rw[ZU hc2]
     subst hdr;have hor:c=0\/c=1:=VH;rcases hor with e|e
     . have he:=t0.1 e;subst he;clear h hmr hcl y' t0 t1 hok;go_enter func31,ntmps31;go_wp2_with fail
       go_region
       go_wp2
       go_ret
       exact Ou
     . have he:=t1.1 e;subst he;clear h hmr hcl y' t0 t1 hok;go_enter func31,ntmps31;go_wp2_with fail
       go_region
       go_wp2
       go_ret
       exact Ou
   . have n0:(cn.toList==[65,110,121])=false:=ZF.2 (vO (λe=>hc2 (by have:=t0.2 e;omega)));have n0:(cn.toList==[73,110,116])=false:=ZF.2 (vO (λe=>hc2 (by have:=t1.2 e;omega)));have hbl:=J9 m K.cb K.cm (some a) c w.drew h.ok h.drew.cls (λx hx=>by injection hx with hx;omega) hc;simp only[ZG,Vq]at hbl
     have hmv:mr=if m.under c (m.kl.length+1) (some a)=true then (8,m) else if m.tot a≠m.tot ((m.kl[c]?.bind (·.above)).getD 0) then (9,m) else (0,m.UY c (λk=>{k with above:=some a})):=by
      rw[<- hmr];unfold Im.move;rw[hcl,y'];simp only;rw[ZX hc2]
     obtain⟨p,hp⟩:∃p,m.ab c=some p:=by
      obtain⟨p,hp,_⟩:=h.ok.up c _ (Z8 hc) VH;exact⟨p,by unfold Im.ab;rw[Z8 hc];exact hp⟩
     have hpl:=CS h.ok hp
     have cW:(m.kl[c]?.bind (·.above)).getD 0=p:=by
      have:m.kl[c]?.bind (·.above)=some p:=hp;rw[this];rfl
     rw[cW]at hmv;have a3:=h.cls.tot ha;have p3:=h.cls.tot hpl;have c2:w.cell? (VJ (K.cb c) 2)=some ((VG (K.cb p))):=by rw[h.cls.above hc,hp];rfl
     obtain⟨u,hu⟩:∃u,m.under c (m.kl.length+1) (some a)=u:=Vx;rw[hu]at hbl hmv
     have HH:Hid (Ud w m K/\c<m.kl.length/\a<m.kl.length):=⟨h,hc,ha⟩
     clear h hmr hcl y' t0 t1 cW hp hu
     cases u with
     | true=>
      rw[ZU rfl]at hmv;subst hmv;clear hok;go_enter func31,ntmps31;go_wp2_with fail
      go_region
      go_wp2_with fail;refine hbl.mono ?_;rintro e w' ⟨rfl,rfl⟩;go_wp2
      go_ret
      exact Ou
     | false=>
      rw[ZX Vy]at hmv;by_cases hne:m.tot a≠m.tot p
      . rw[ZU hne]at hmv;subst hmv;have hnb:((m.tot a:Int) != (m.tot p:Int))=true:=Vo;clear hok;go_enter func31,ntmps31;go_wp2_with fail
        go_region
        go_wp2_with fail;refine hbl.mono ?_;rintro e w' ⟨rfl,rfl⟩;go_wp2_with fail
        go_region
        go_wp2
        go_ret
        exact⟨rfl,K,(HS.o.trans (O9 HH.o.1.drew))⟩
      . rw[ZX hne]at hmv;subst hmv;have heq:m.tot a=m.tot p:=VH;rw[heq]at a3
        have hcall:Calls prog 66 #[VG K.b,VG (K.cb c)] w.drew.drew λe w'=>e=.returned (.tuple #[])/\w'.cell? (VJ (K.cb c) 2)=some ((VG (K.cb p)))/\(∀o,w'.frozen? (VJ (K.cb c) o)=false)/\∃K',Step w (w'.setCell (VJ (K.cb c) 2) ((VG (K.cb a)))) m K (m.UY c (λk=>{k with above:=some a})) K':=by
         obtain⟨h,hc,ha⟩:=HH.o;have h2:=h.drew.drew;have hwd:w.drew.drew.cell? (VJ (K.cb c) 2)=some ((VG (K.cb p))):=c2;refine(ak h2.Uc m K.cb K.cm c h.ok hc h2.cls (λs r hr=>(h2.sF.1 s r hr).1) h2.sF.2).mono ?_;rintro e w' ⟨rfl,pm,R,E',har,hch,hd⟩;have hblk:=hch.block _ (h2.cls.Vb hc).lt (h2.Ko.1 c hc);exact⟨rfl,(Z9 (a:=(VJ (K.cb c) 2)) hblk).trans hwd,λo=>((h2.cls.Vb hc).same hblk).free o,_,((O9 h).trans (O9 h.drew)).trans (h2.moved hc ha hok E' har hch hd)⟩
        clear hok;go_enter func31,ntmps31;go_wp2_with fail
        go_region
        go_wp2_with fail;refine hbl.mono ?_;rintro e w' ⟨rfl,rfl⟩;go_wp2_with fail
        go_region
        go_wp2_with fail;refine hcall.mono ?_;rintro e w3 ⟨rfl,hc3,hf3,hS⟩;have FA:Hid _:=hS;clear hcall hbl lk RB c0 a3 p3 c2 hS;go_wp2
        go_ret
        exact⟨rfl,FA.o⟩
def newL (ws:List (Kn.W×Nat))(pl:Nat->Nat):List (Nat×ByteArray):=(List.range ws.length).filterMap (λi=>(ws[i]?).bind (λx=>if UO x.1=true then some (pl i,VF x.1.sel) else none))
theorem IE {ws:List (Kn.W×Nat)}{pl:Nat->Nat}{q:Nat}{s:ByteArray}:(q,s)∈newL ws pl↔∃i x,ws[i]?=some x/\UO x.1=true/\q=pl i/\s=VF x.1.sel:=by
 unfold newL;rw[List.mem_filterMap];constructor
 . rintro⟨i,_,h⟩;obtain⟨x,hx,h⟩:=X0.1 h;by_cases e:UO x.1=true
   . rw[ZU e]at h;injection h with h;injection h with h1 h2;exact⟨i,x,hx,e,h1.symm,h2.symm⟩
   . rw[ZX e]at h;cases h
 . rintro⟨i,x,hx,e,rfl,rfl⟩;exact⟨i,YD.2 (Z7.1 hx).1,by rw[hx];simp[e]⟩
theorem afW {ws:List (Kn.W×Nat)}{pl:Nat->Nat}(h:∀i j x y,i<ws.length->j<ws.length->ws[i]?=some x->ws[j]?=some y->UO x.1=true->UO y.1=true->pl i=pl j->i=j):((newL ws pl).map (·.1)).Nodup:=by
 unfold newL List.Nodup;rw[List.pairwise_map,List.pairwise_filterMap];refine List.Pairwise.imp_of_mem (R:=(·≠·)) (λ{a a'} ha ha' hne b hb b' hb' e=>hne ?_) List.nodup_range;obtain⟨x,hx,Od⟩:=X0.1 hb;obtain⟨y,hy,hby⟩:=X0.1 hb';by_cases ex:UO x.1=true
 . by_cases ey:UO y.1=true
   . rw[ZU ex]at Od;rw[ZU ey]at hby;injection Od with Od;injection hby with hby;subst Od hby;exact h a a' x y (YD.1 ha) (YD.1 ha') hx hy ex ey e
   . rw[ZX ey]at hby;cases hby
 . rw[ZX ex]at Od;cases Od
noncomputable def Kc.Ov (K:Kc) (N mb:Nat) (d:Md):Kc:=
 {K with L:=K.L++newL d.ws d.pl,pm:=λk=>if N<=k then .no else K.pm k,Mk:=λk=>K.Mk k\/k=mb,md:=λk=>if k=mb then d else K.md k}
def apq (d:Md)(q:Nat):Prop:=∃i x,d.ws[i]?=some x/\UO x.1=true/\q=d.pl i
theorem ML.more {L L':List (Nat×ByteArray)}{k:Nat}{d:Md}(h:ML w L k d):ML w (L++L') k d:=⟨h.blk,h.LV,h.len,λi x hx hs=>Ya _ (h.Ru i x hx hs)⟩
theorem Qr.Ov {b:Nat}{K:Kc}{Sd:ByteArray->U1->Prop}{Sr:U1->Prop}(h:Qr w b K (λ_=>False) Sd Sr){mb g cap:Nat}{p:Option Addr}{ws:List (Kn.W×Nat)}{pl:Nat->Nat}(hn:aeQ w w' mb g cap p ws pl)(hl:ws.length<=40):
 Qr w' b (K.Ov w.heap.size mb ⟨ws,p,g,cap,pl⟩) (apq ⟨ws,p,g,cap,pl⟩) Sd Sr:=by
 have h':=h.below hn.below;have hold:∀q s,(q,s)∈K.L->q<w.heap.size:=λq s hq=>(h.Ru.Vb hq).lt
 have S8:∀q s,(q,s)∈K.L->(K.Ov w.heap.size mb ⟨ws,p,g,cap,pl⟩).pm q=K.pm q:=λq s hq=>by
  show (if w.heap.size<=q then Mm.no else K.pm q)=K.pm q;rw[ZX (by have:=hold q s hq;omega)]
 have hnew:∀q s,(q,s)∈newL ws pl->zS w' q/\w.heap.size<=q:=λq s hq=>by
  obtain⟨i,x,hx,hs,rfl,rfl⟩:=IE.1 hq;exact hn.np.mem i x (Z7.1 hx).1 hx hs
 have Ln:∀q s,(q,s)∈newL ws pl->(K.Ov w.heap.size mb ⟨ws,p,g,cap,pl⟩).pm q=.no:=λq s hq=>by
  show (if w.heap.size<=q then Mm.no else K.pm q)=.no;rw[ZU (hnew q s hq).2]
 have hmem:∀q s,(q,s)∈(K.Ov w.heap.size mb ⟨ws,p,g,cap,pl⟩).L->(q,s)∈K.L\/(q,s)∈newL ws pl:=λq s hq=>YT.1 hq
 have hblk:∀k,Vm (K.Ov w.heap.size mb ⟨ws,p,g,cap,pl⟩).L (K.Ov w.heap.size mb ⟨ws,p,g,cap,pl⟩).pm k->Vm K.L K.pm k\/∃s,(k,s)∈newL ws pl:=by
  rintro k ⟨q,s,hq,e⟩;rcases hmem q s hq with hq|hq
  . rw[S8 q s hq]at e;exact .inl ⟨q,s,hq,e⟩
  . rcases e with e|e
    . exact .inr ⟨s,by rw[e];exact hq⟩
    . rw[Ln q s hq]at e;cases e
 refine⟨h'.img,h'.b5,h'.snd,⟨h.Ru.b6,?_,λq s hq=>?_,λq s hq=>?_,λq s r hq hr=>?_,λq s q' s' a hq hq' ha ha'=>?_⟩,λs q hr=>Ya _ (h.reg s q hr),λq s hq=>?_,h'.tab,h.rows,λk hk=>?_,λk hk h1 e=>?_⟩
 . show ((K.L++newL ws pl).map (·.1)).Nodup;rw[VU];refine Xi.2 ⟨h.Ru.nd,afW (λi j x y hi hj hx hy hs1 hs2 e=>hn.np.inj i j x y hi hj hx hy hs1 hs2 e),λa ha c hc=>?_⟩;obtain⟨⟨a',s⟩,ha',rfl⟩:=Zy.1 ha;obtain⟨⟨c',t⟩,hc',rfl⟩:=Zy.1 hc;have h1:=hold a' s ha';have h2:=(hnew c' t hc').2;simp only;omega
 . rcases hmem q s hq with hq|hq
   . rw[S8 q s hq];exact h'.Ru.at_ q s hq
   . rw[Ln q s hq];exact(hnew q s hq).1
 . rcases hmem q s hq with hq|hq
   . rw[S8 q s hq];exact h'.Ru.ok q s hq
   . rw[Ln q s hq];exact⟨trivial,oV⟩
 . rcases hmem q s hq with hq|hq
   . rw[S8 q s hq]at hr;exact h.Ru.rows q s r hq hr
   . rw[Ln q s hq]at hr;cases hr
 . rcases hmem q s hq with hq|hq
   . rcases hmem q' s' hq' with hq'|hq'
     . rw[S8 q s hq]at ha;rw[S8 q' s' hq']at ha';exact h.Ru.arr q s q' s' a hq hq' ha ha'
     . rw[Ln q' s' hq']at ha';cases ha'
   . rw[Ln q s hq]at ha;cases ha
 . rcases hmem q s hq with hq|hq
   . rcases h.told q s hq with e|e|e
     . exact .inl e
     . exact .inr (.inl (by rw[S8 q s hq];exact e))
     . exact e.elim
   . obtain⟨i,x,hx,hs,e,_⟩:=IE.1 hq;exact .inr (.inr ⟨i,x,hx,hs,e⟩)
 . by_cases e:k=mb
   . subst e;show ML w' (K.L++newL ws pl) k (if k=k then ⟨ws,p,g,cap,pl⟩ else K.md k);rw[ZU rfl];exact⟨⟨0,hn.mm⟩,hn.at_,hl,λi x hx hs=>List.mem_append_right _ (IE.2 ⟨i,x,hx,hs,rfl,rfl⟩)⟩
   . show ML w' (K.L++newL ws pl) k (if k=mb then ⟨ws,p,g,cap,pl⟩ else K.md k);rw[ZX e];rcases hk with hk|hk
     . exact(h'.mt k hk).more
     . exact absurd hk e
 . by_cases ek:k=mb
   . have Wm:(K.Ov w.heap.size mb ⟨ws,p,g,cap,pl⟩).md k=⟨ws,p,g,cap,pl⟩:=by
      show (if k=mb then (⟨ws,p,g,cap,pl⟩:Md) else K.md k)=_;rw[ZU ek]
     rw[Wm]at h1 e;simp only at h1 e;have hg:=hn.J7 h1;rcases hblk g e with e|⟨s,e⟩
     . have:=h.Ru.lt g e;omega
     . have E_:=(hnew g s e).1
       obtain⟨x,hx⟩:∃x,ws[0]?=some x:=⟨_,Z8 VH⟩
       have h0:=hn.at_.c0 0 x hx;unfold zS at E_;simp only[World.cell?,Yu,E_]at h0;cases h0
   . have Wm:(K.Ov w.heap.size mb ⟨ws,p,g,cap,pl⟩).md k=K.md k:=by
      show (if k=mb then (⟨ws,p,g,cap,pl⟩:Md) else K.md k)=_;rw[ZX ek]
     rw[Wm]at h1 e;have hk':K.Mk k:=by rcases hk with hk|hk;exact hk;exact absurd hk ek
     rcases hblk _ e with e|⟨s,e⟩
     . exact h.gq k hk' h1 e
     . have h2:=(hnew _ s e).2;have h1:=((h.mt k hk').LV.Vb h1).lt;omega
theorem uG (h:Ud w m K){c mb g cap:Nat}{p:Option Addr}{ws:List (Kn.W×Nat)}{pl:Nat->Nat}(hc:c<m.kl.length)(hn:aeQ w w' mb g cap p ws pl)(hl:ws.length<=40)(sel:ByteArray)(hok:U3 (m.UY c (·.put ⟨sel,ws⟩))):
 Calls prog 44 #[VG K.b,VG (K.cb c),.string sel,VG mb] w' λe w''=>e=.returned (.tuple #[])/\∃K',Step w w'' m K (m.UY c (·.put ⟨sel,ws⟩)) K':=by
 have h':=h.below hn.below;have E':=h.Uc.Ov hn hl
 have Wm:(K.k.Ov w.heap.size mb ⟨ws,p,g,cap,pl⟩).md mb=⟨ws,p,g,cap,pl⟩:=by
  show (if mb=mb then (⟨ws,p,g,cap,pl⟩:Md) else K.k.md mb)=_;rw[ZU rfl]
 have tO:∀k,K.k.Mk k->(K.k.Ov w.heap.size mb ⟨ws,p,g,cap,pl⟩).Mk k/\(K.k.Ov w.heap.size mb ⟨ws,p,g,cap,pl⟩).md k=K.k.md k:=λk hk=>by
  refine⟨.inl hk,?_⟩;have:=(h.Uc.mt k hk).Vb.lt;have:=hn.lo;show (if k=mb then (⟨ws,p,g,cap,pl⟩:Md) else K.k.md k)=_;rw[ZX VH]
 have m1:w'.cell? (VJ mb 1)=some (VI 0):=by simp only[World.cell?,hn.mm];rfl
 refine(ru E' m K.cb K.cm c mb sel (K.lm c) (K.mid c sel) h.ok hc h'.cls (h'.lm c hc) (h.ap.IQ c hc) aga JQ (.inr ⟨m1,λq hq=>?_⟩) (h.mid c sel hc) (λk0 e=>.inl (h.yZ c sel k0 e)) h.sF.1 h.sF.2).mono ?_
 . rw[Wm];exact hq
 rintro e w'' ⟨rfl,l,ps,pm,R,GQ,hsm,Z2,hch,hd⟩;have hsz:=hn.below.size
 have Q0:∀k,Td (K.k.Ov w.heap.size mb ⟨ws,p,g,cap,pl⟩) k->Td K.k k\/w.heap.size<=k:=by
  rintro k (e|e|⟨q,s,hq,e⟩|e|e)
  . exact .inl (.inl e)
  . exact .inl vJ
  . rcases YT.1 hq with hq|hq
    . have hlt:=(h.Uc.Ru.Vb hq).lt
      have vL:(K.k.Ov w.heap.size mb ⟨ws,p,g,cap,pl⟩).pm q=K.k.pm q:=by
       show (if w.heap.size<=q then Mm.no else K.k.pm q)=K.k.pm q;rw[ZX VH]
      rw[vL]at e;exact .inl (.inr (.inr (.inl ⟨q,s,hq,e⟩)))
    . obtain⟨i,x,hx,hs,rfl,rfl⟩:=IE.1 hq;have hlo:=(hn.np.mem i x (Z7.1 hx).1 hx hs).2;rcases e with e|e
      . exact .inr (by rw[e];exact hlo)
      . have vL:(K.k.Ov w.heap.size mb ⟨ws,p,g,cap,pl⟩).pm (pl i)=.no:=by
         show (if w.heap.size<=pl i then Mm.no else K.k.pm (pl i))=.no;rw[ZU hlo]
        rw[show (Md.pl ⟨ws,p,g,cap,pl⟩ i)=pl i from rfl,vL]at e;cases e
  . exact .inl aeg
  . exact .inr (by rw[e];exact hn.lo)
 have hgr:Grew w.heap.size K.k {K.k.Ov w.heap.size mb ⟨ws,p,g,cap,pl⟩ with l:=l,ps:=ps,pm:=pm,R:=R}:=by
  refine⟨rfl,rfl,rfl,λs ib e=>?_,λk hk=>?_,λj hj h1=>?_,tO⟩
  . rcases Z2.l s ib e with e|e
    . exact .inl e
    . exact .inr VH
  . rcases Td.old (K:=K.k.Ov w.heap.size mb ⟨ws,p,g,cap,pl⟩) (N:=w'.heap.size) (ps:=ps) (R:=R) hk Z2.l Z2.arr with e|e
    . exact Q0 k e
    . exact .inr VH
  . rcases hj with hj|hj
    . exact .inl ⟨hj,(tO j hj).2⟩
    . subst hj;right;have h1':1<=((K.k.Ov w.heap.size j ⟨ws,p,g,cap,pl⟩).md j).ws.length:=h1;rw[Wm]at h1';show w.heap.size<=((K.k.Ov w.heap.size j ⟨ws,p,g,cap,pl⟩).md j).g;rw[Wm];exact hn.J7 h1'
 refine⟨rfl,_,h.jB (sel:=sel) (x:=some mb) (kc:={K.k.Ov w.heap.size mb ⟨ws,p,g,cap,pl⟩ with l:=l,ps:=ps,pm:=pm,R:=R}) hc hok ?_ GQ hgr (λk e=>by injection e with e;subst e;exact .inr rfl) hsm (λs=>by rw[S9];rfl) ?_ ((UK.of_block (hn.below.block _ h.Uc.tab.Vb.lt)).trans hd)⟩
 . have:=F9 hc (m:=m) ⟨sel,ws⟩
   have e2:(some mb).map (λk=>(({K.k.Ov w.heap.size mb ⟨ws,p,g,cap,pl⟩ with l:=l,ps:=ps,pm:=pm,R:=R}:Kc).md k).ws)=some ws:=by
    show some (((K.k.Ov w.heap.size mb ⟨ws,p,g,cap,pl⟩).md mb).ws)=some ws;rw[Wm]
   rw[e2];exact this
 . refine(Vt.of_below hn.below _).then hch (λj hj e=>?_);rcases e with e|e|e
   . exact .inl e
   . exact .inr (.inl e)
   . rcases Q0 j e with e|e
     . exact .inr (.inr e)
     . omega
theorem kW (h:Ud w m K)(cn sel src:ByteArray)(hs1:sel.size<=140737488355328)(hs2:src.size<=140737488355328):
 Calls prog 17 #[VG K.b,.string cn,.string sel,.string src] w λe w'=>∃(r a:Int) (m':Im) (K':Kd),e=.returned (.tuple #[VI r,VI a])/\Ua m cn sel src r a m'/\Step w w' m K m' K':=by
 have lk:=h.look cn
 cases hcl:m.cls cn with
 | none=>
  rw[hcl]at lk;simp only[Zm,Vq]at lk;refine(aae cn sel src K.b K.mb w h.hd.c0 lk).mono ?_;rintro e w' ⟨rfl,rfl⟩;exact⟨2,0,m,K,rfl,by unfold Ua;rw[hcl];exact vg,Step.refl h⟩
 | some c=>
  have hc:=OO hcl;rw[hcl]at lk;simp only[ZG,Vq]at lk;refine(aeo (m.tot c) cn sel src w K.b K.mb (K.cb c) (λw'=>∃K',Step w w' m K (m.UY c (·.put ⟨sel,(Vh (bl src)).1⟩)) K') (mP h.ok c) hs1 hs2 h.hd.c0 lk (h.cls.tot hc) h.J7.l0 h.J7.l1 h.J7.l2 h.J7.e h.J7.p h.J7.h ?_).mono ?_
  . intro w' mb g cap p ws pl hws Vn hn;have hr:Ua m cn sel src 0 0 (m.UY c (·.put ⟨sel,(Vh (bl src)).1⟩)):=al9;have hok:=(jc h.ok hr).1;have hlen:=Ic (bl src);rw[hws]at hok hlen ⊢;exact uG h hc hn hlen sel hok
  . rintro e w' ⟨r,a,rfl,Vn,⟨hr,hb⟩|⟨rfl,K',hS⟩⟩
    . exact⟨r,a,m,K,rfl,by unfold Ua;rw[hcl];exact⟨Vn,by rw[ZX hr]⟩,Step.below h hb⟩
    . exact⟨0,a,_,K',rfl,al9,hS⟩
end Go.Proofs.Rz
