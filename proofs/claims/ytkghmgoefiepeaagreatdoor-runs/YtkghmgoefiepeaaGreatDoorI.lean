import Derived.Test.YtkghmgoefiepeaaGreatDoorH
set_option linter.all false
set_option maxHeartbeats 4000000
set_option maxRecDepth 100000
namespace Kn
open Go
def UJ {α:Type}(ab:Nat->Option Nat)(ow:Nat->Option α):Nat->Option Nat->Option (Nat×α)
 | 0,_=>none
 | _+1,none=>none
 | f+1,some c=>match ow c with
  | some x=>some (c,x)
  | none=>UJ ab ow f (ab c)
inductive Up (ab:Nat->Option Nat):Nat->Nat->Prop
 | refl (c:Nat):Up ab c c
 | step {c a d:Nat}:ab c=some a->Up ab a d->Up ab c d
theorem PI {α:Type}{ab:Nat->Option Nat}{ow:Nat->Option α}:∀(f c d:Nat) (x:α),UJ ab ow f (some c)=some (d,x)->Up ab c d/\ow d=some x
 | 0,_,_,_,h=>MO
 | f+1,c,d,x,h=>by
  unfold UJ at h
  cases ho:ow c with
  | some y=>
   rw[ho]at h;injection h with h;injection h with h1 h2;subst h1 h2;exact⟨.refl _,ho⟩
  | none=>
   rw[ho]at h;simp only at h
   cases ha:ab c with
   | none=>rw[ha]at h;cases f<;>cases h
   | some a=>
    rw[ha]at h;obtain⟨h1,h2⟩:=PI f a d x h;exact⟨.step ha h1,h2⟩
def aeN {α:Type}(ab:Nat->Option Nat)(c0 c:Nat)(r:Option (Nat×α)):Prop:=Up ab c c0/\∀d x,r=some (d,x)->Up ab c0 d
theorem uS {α:Type}{ab:Nat->Option Nat}{ow yo:Nat->Option α}{c0:Nat}(he:∀c,c≠c0->yo c=ow c):∀(f c:Nat),(∀F,f<=F->¬aeN ab c0 c (UJ ab ow f (some c)))->UJ ab yo f (some c)=UJ ab ow f (some c)
 | 0,_,_=>rfl
 | f+1,c,h=>by
  by_cases e:c=c0
  . subst e;exact absurd ⟨.refl _,λd x hd=>(PI _ _ _ _ hd).1⟩ (h (f+1) UM)
  . have hu:∀o:Nat->Option α,UJ ab o (f+1) (some c)=match o c with
     | some x=>some (c,x)
     | none=>UJ ab o f (ab c):=λ_=>rfl
    rw[hu yo,hu ow,he c e]
    cases ho:ow c with
    | some y=>rfl
    | none=>
     simp only
     cases ha:ab c with
     | none=>cases f<;>rfl
     | some a=>
      refine uS he f a (λF hF hc=>h (f+1) UM ?_);rw[hu ow,ho];simp only;rw[ha];exact⟨.step ha hc.1,hc.2⟩
theorem rY {α:Type}{ab yz:Nat->Option Nat}{ow:Nat->Option α}{c0:Nat}(he:∀c,c≠c0->yz c=ab c):∀(f c:Nat),¬(aeN ab c0 c (UJ ab ow f (some c))/\∀x,UJ ab ow f (some c)≠some (c0,x))->UJ yz ow f (some c)=UJ ab ow f (some c)
 | 0,_,_=>rfl
 | f+1,c,h=>by
  have hu:∀b:Nat->Option Nat,UJ b ow (f+1) (some c)=match ow c with
   | some x=>some (c,x)
   | none=>UJ b ow f (b c):=λ_=>rfl
  rw[hu yz,hu ab]
  cases ho:ow c with
  | some y=>rfl
  | none=>
   simp only;by_cases e:c=c0
   . subst e;refine absurd ⟨⟨.refl _,λd x hd=>(PI _ _ _ _ hd).1⟩,λx hx=>?_⟩ h;have:=(PI _ _ _ _ hx).2;rw[ho]at this;cases this
   . rw[he c e]
     cases ha:ab c with
     | none=>cases f<;>rfl
     | some a=>
      refine rY he f a (λhc=>h ?_);rw[hu ab,ho];simp only;rw[ha];exact⟨⟨.step ha hc.1.1,hc.1.2⟩,hc.2⟩
theorem DC {α:Type}{ab:Nat->Option Nat}{ow:Nat->Option α}{r:Nat->Nat}(hr:∀c a,ab c=some a->r a<r c):∀(f g c:Nat),r c<f->r c<g->UJ ab ow f (some c)=UJ ab ow g (some c)
 | 0,_,_,h,_=>VH
 | _+1,0,_,_,h=>VH
 | f+1,g+1,c,h1,h2=>by
  have hu:∀n,UJ ab ow (n+1) (some c)=match ow c with
   | some x=>some (c,x)
   | none=>UJ ab ow n (ab c):=λ_=>rfl
  rw[hu f,hu g]
  cases ho:ow c with
  | some y=>rfl
  | none=>
   simp only
   cases ha:ab c with
   | none=>cases f<;>cases g<;>rfl
   | some a=>
    have:=hr c a ha;exact DC hr f g a VH VH
def Ja {α:Type}(ab:Nat->Option Nat)(ow:Nat->Option α)(f:Nat):UJ ab ow f none=none:=by cases f<;>rfl
theorem yR {α β:Type}(g:α->β)(ab:Nat->Option Nat)(ow:Nat->Option α):∀(f:Nat) (c:Option Nat),UJ ab (λc=>(ow c).map g) f c=(UJ ab ow f c).map (λp=>(p.1,g p.2))
 | 0,_=>rfl
 | f+1,none=>rfl
 | f+1,some c=>by
  unfold UJ
  cases ho:ow c with
  | some y=>rfl
  | none=>simp only[Zm];exact yR g ab ow f (ab c)
def Im.ab (m:Im)(c:Nat):Option Nat:=m.kl[c]?.bind (·.above)
theorem qB (m:Im)(sel:ByteArray):∀(f:Nat) (c:Option Nat),m.up sel f c=UJ m.ab (λc=>m.own c sel) f c
 | 0,_=>rfl
 | f+1,none=>rfl
 | f+1,some c=>by
  unfold Im.up UJ
  cases ho:m.own c sel with
  | some ws=>rfl
  | none=>simp only;exact qB m sel f _
def Jf (m:Im)(sel:ByteArray)(c:Option Nat):m.find sel c=UJ m.ab (λc=>m.own c sel) (m.kl.length+1) c:=qB m sel _ c
variable {m : Im}
theorem rU {d:Nat}:∀(f c:Nat),m.under d f (some c)=true->Up m.ab c d
 | 0,_,h=>MO
 | f+1,c,h=>by
  unfold Im.under at h;rw[WU,YB]at h;rcases h with h|h
  . subst h;exact .refl _
  . cases ha:m.ab c with
    | none=>unfold Im.ab at ha;rw[ha]at h;cases f<;>cases h
    | some a=>have ha':=ha;unfold Im.ab at ha;rw[ha]at h;exact .step ha' (rU f a h)
theorem vC {d:Nat}{r:Nat->Nat}(hr:∀c a,m.ab c=some a->r a<r c):∀(f c:Nat),r c<f->Up m.ab c d->m.under d f (some c)=true
 | 0,_,h,_=>VH
 | f+1,c,h,hu=>by
  unfold Im.under;rw[WU,YB]
  cases hu with
  | refl=>exact .inl rfl
  | step ha hu=>
   refine .inr ?_;have:=hr c _ ha;have h2:=vC hr f _ VH hu;unfold Im.ab at ha;rw[ha];exact h2
def Io (h:U3 m):∃r:Nat->Nat,(∀c,r c<=m.kl.length)/\∀c a,m.ab c=some a->r a<r c:=by
 obtain⟨r,h1,h2⟩:=h.rank;refine⟨r,h1,λc a ha=>?_⟩;unfold Im.ab at ha
 cases hk:m.kl[c]? with
 | none=>rw[hk]at ha;cases ha
 | some k=>rw[hk]at ha;exact h2 c k a hk ha
def KA (h:U3 m)(c d:Nat):m.under d (m.kl.length+1) (some c)=true↔Up m.ab c d:=by
 obtain⟨r,h1,h2⟩:=Io h;exact⟨rU _ _,vC h2 _ _ (by have:=h1 c;omega)⟩
end Kn
namespace Go.Proofs.Rz
open ChangeShapes WideShapes ChangeAt RowKit Kn Iz Tryz
structure Cls (w:World)(m:Im)(cb cm:Nat->Nat):Prop where
 at_:∀c k,m.kl[c]?=some k->w.heap[cb c]?=some (.cells #[.string k.name,VI (c:Nat),.pointer (Vq (k.above.map cb)),VI (k.tot:Nat),.map (some (cm c))] 101)
 inj:∀c d,c<m.kl.length->d<m.kl.length->cb c=cb d->c=d
variable {w : World}
variable {m : Im}
def Cls.Vb {cb cm:Nat->Nat}(h:Cls w m cb cm){c:Nat}(hc:c<m.kl.length):UL w (cb c):=⟨_,_,h.at_ c _ (Z8 hc)⟩
variable {w' : World}
def Cls.same {cb cm:Nat->Nat}(h:Cls w m cb cm)(hk:∀c,c<m.kl.length->w'.heap[cb c]?=w.heap[cb c]?):Cls w' m cb cm:=
 ⟨λc k hck=>(hk c (Z7.1 hck).1).trans (h.at_ c k hck),h.inj⟩
def Cls.above {cb cm:Nat->Nat}(h:Cls w m cb cm){c:Nat}(hc:c<m.kl.length):w.cell? (VJ (cb c) 2)=some (.pointer (Vq ((m.ab c).map cb))):=by
 have hx:=Z8 hc;have:=h.at_ c _ hx;refine FK ?_;unfold Im.ab;rw[hx];rfl
def CS (h:U3 m){c a:Nat}(ha:m.ab c=some a):a<m.kl.length:=by
 unfold Im.ab at ha
 cases hk:m.kl[c]? with
 | none=>rw[hk]at ha;cases ha
 | some k=>
  rw[hk]at ha;have ha':k.above=some a:=ha
  have hc0:c≠0:=λe=>by
   subst e;obtain⟨ms,hm⟩:=h.any;rw[hm]at hk;injection hk with hk;rw[<- hk]at ha';cases ha'
  obtain⟨a',e1,e2,_⟩:=h.up c k hk hc0;rw[ha']at e1;injection e1 with e1;omega
def ae7 {p q:Nat}(hp:UL w p)(hq:UL w q):(binOp .eql 57 (VG p) (VG q)).run prog w=.ok (.bool (decide (p=q))) w:=by
 have hs:=BF
 cases hi:prog.info? 101 with
 | none=>rw[hi]at hs;cases hs
 | some i=>
  exact amy
def J9 (m:Im)(cb cm:Nat->Nat)(c:Option Nat)(d:Nat)(w:World)(hm:U3 m)(hw:Cls w m cb cm)(hc:∀x,c=some x->x<m.kl.length)(hd:d<m.kl.length):
 Calls prog 65 #[.pointer (Vq (c.map cb)),VG (cb d)] w λe w'=>e=.returned (.bool (m.under d (m.kl.length+1) c))/\w'=w:=by
 obtain⟨r,hr1,hr2⟩:=Io hm;obtain⟨b,hb⟩:∃b,m.under d (m.kl.length+1) c=b:=Vx;rw[hb];have HB:Hid _:=hb;have HW:Hid _:=hw;have HM:Hid _:=hm;clear hb hw hm;go_enter func65,ntmps65;go_wp2
 go_loopg [0] (m.kl.length+1) (λgk v wr=>∃e:Option Nat,v=.pointer (Vq (e.map cb))/\(∀x,e=some x->x<m.kl.length/\r x<gk)/\m.under d gk e=b/\wr=w)
 case atStart=>exact⟨c,rfl,λx hx=>⟨hc x hx,agw⟩,HB.o,rfl⟩
 case round=>
  obtain⟨e,rfl,he,hu,rfl⟩:=hrel
  cases e with
  | none=>
   have pB:b=false:=by rw[<- hu];cases gk<;>rfl
   subst pB;simp only[Zm,Vq];clear hu he;go_wp2
   go_ret
   exact KP
  | some x=>
   obtain⟨hx,hrx⟩:=he x rfl
   obtain⟨g,rfl⟩:∃g,gk=g+1:=⟨gk-1,VH⟩
   have heq:=ae7 (HW.o.Vb hx) (HW.o.Vb hd);have hab:=HW.o.above hx;have hu':(decide (x=d)||m.under d g (m.ab x))=b:=hu;simp only[ZG,Vq]at *;by_cases e1:x=d
   . subst e1;have Mf:b=true:=by rw[<- hu'];simp
     subst Mf;rw[show decide (cb x=cb x)=true from Vy]at heq;clear hu hu' he;go_wp2
     go_ret
     exact KP
   . have hne:¬cb x=cb d:=λe=>e1 (HW.o.inj x d hx hd e);rw[show decide (cb x=cb d)=false from by simp[hne]]at heq
     have HU:Hid (m.under d g (m.ab x)=b):=by
      have hx1:m.under d g (m.ab x)=b:=by rw[<- hu'];simp[e1]
      exact hx1
     clear hu hu' he hne e1;go_wp2
     go_roundg g
     case measure=>omega
     case rel=>
      exact⟨m.ab x,by simp[Vq],λy hy=>⟨CS HM.o hy,by have:=hr2 x y hy;omega⟩,HU.o,rfl⟩
structure akV (m:Im)(cb:Nat->Nat)(r:U1):Prop where
 fr:∃c,c<m.kl.length/\r.fr=some (VJ (cb c) 0)
 hm:∃d:Option Nat,(∀x,d=some x->x<m.kl.length)/\r.hm=Vq (d.map cb)
def abL (m:Im)(cb:Nat->Nat)(c0:Nat)(r:U1):Prop:=∃c d,c<m.kl.length/\(∀x,d=some x->x<m.kl.length)/\r.fr=some (VJ (cb c) 0)/\r.hm=Vq (d.map cb)/\Up m.ab c c0/\∀x,d=some x->Up m.ab c0 x
def upTo (m:Im)(c0:Nat):Option Nat->Bool
 | none=>true
 | some x=>m.under x (m.kl.length+1) (some c0)
noncomputable def Hg (m:Im) (cb:Nat->Nat) (c0:Nat) (r:U1):Bool:=@decide (abL m cb c0 r) (Classical.propDecidable _)
def jW (m:Im)(cb cm:Nat->Nat)(c0:Nat)(r:U1)(w:World)(hm:U3 m)(hw:Cls w m cb cm)(hr:akV m cb r\/r=noRow)(hc0:c0<m.kl.length):
 Calls prog 104 #[r.val,VG (cb c0)] w λe w'=>e=.returned (.bool (Hg m cb c0 r))/\Below w.heap.size w w':=by
 obtain⟨v,hv⟩:∃v,Hg m cb c0 r=v:=Vx;rw[hv];have HV:Hid _:=hv;clear hv
 obtain⟨c,d,hc,hd,hfr,Ga⟩:∃c d:Option Nat,(∀x,c=some x->x<m.kl.length)/\(∀x,d=some x->x<m.kl.length)/\r.fr=Vq (c.map cb)/\r.hm=Vq (d.map cb):=by
  rcases hr with h|rfl
  . obtain⟨c,hc,hfr⟩:=h.fr;obtain⟨d,hd,Ga⟩:=h.hm;exact⟨some c,d,λx hx=>by injection hx with hx;omega,hd,hfr,Ga⟩
  . exact⟨none,none,λx hx=>(by cases hx),λx hx=>(by cases hx),rfl,rfl⟩
 have hcon:v=(m.under c0 (m.kl.length+1) c&&upTo m c0 d):=by
  rw[<- HV.o]
  have hcb:∀(x y:Option Nat),(∀z,x=some z->z<m.kl.length)->(∀z,y=some z->z<m.kl.length)->Vq (x.map cb)=Vq (y.map cb)->x=y:=by
   intro x y hx hy e
   cases x with
   | none=>cases y with
    | none=>rfl
    | some b=>simp[Vq]at e
   | some a=>cases y with
    | none=>simp[Vq]at e
    | some b=>
     simp[Vq]at e;rw[hw.inj a b (hx a rfl) (hy b rfl) e]
  unfold Hg
  cases hb:(m.under c0 (m.kl.length+1) c&&upTo m c0 d) with
  | true=>
   rw[ZB]at hb;refine @Xh _ (Classical.propDecidable _) ?_
   cases c with
   | none=>exact absurd hb.1 (by simp[Im.under])
   | some cc=>
    refine⟨cc,d,hc cc rfl,hd,hfr,Ga,(KA hm cc c0).1 hb.1,λx hx=>?_⟩;have h2:=hb.2;rw[hx]at h2;exact(KA hm c0 x).1 h2
  | false=>
   refine @XQ _ (Classical.propDecidable _) ?_;rintro⟨cc,dd,hcc,hdd,hf,hh,hu1,hu2⟩;have e1:=hcb c (some cc) hc (λz hz=>by injection hz with hz;omega) (hfr.symm.trans hf);have e2:=hcb d dd hd hdd (Ga.symm.trans hh);subst e1 e2;have h1:=(KA hm cc c0).2 hu1;rw[h1,Wp]at hb
   cases d with
   | none=>simp[upTo]at hb
   | some x=>
    have h2:=(KA hm c0 x).2 (hu2 x rfl);simp only[upTo]at hb;rw[h2]at hb;cases hb
 clear HV;unfold U1.val;rw[hfr,Ga]
 cases d with
 | none=>
  have hw1:Cls (w.alloc (.cells #[.pointer (Vq (c.map cb)),.string r.sel,.pointer none,.pointer r.mt] 64)) m cb cm:=hw.same (λx hx=>ZV w _ _ (hw.Vb hx).lt);have hcall:=J9 m cb cm c c0 _ hm hw1 hc hc0;simp only[upTo,Bool.and_true]at hcon;rw[<- hcon]at hcall;rw[show Vq ((none:Option Nat).map cb)=none from rfl];clear hcon hw1 hw hfr Ga hr hc hd hm;revert hcall;generalize Vq (c.map cb)=pf;intro hcall;cases v
  all_goals
   go_enter func104,ntmps104;go_wp2_with fail;refine hcall.mono ?_;rintro e w1 ⟨rfl,rfl⟩;clear hcall;go_wp2
   go_ret
   exact zt6
 | some x=>
  have hw1:Cls (w.alloc (.cells #[.pointer (Vq (c.map cb)),.string r.sel,VG (cb x),.pointer r.mt] 64)) m cb cm:=hw.same (λx hx=>ZV w _ _ (hw.Vb hx).lt);have hcall:=J9 m cb cm c c0 _ hm hw1 hc hc0;have O_:=J9 m cb cm (some c0) x _ hm hw1 (λy hy=>by injection hy with hy;omega) (hd x rfl);rw[show Vq ((some x:Option Nat).map cb)=some (VJ (cb x) 0) from rfl];rw[show Vq ((some c0:Option Nat).map cb)=some (VJ (cb c0) 0) from rfl]at O_;simp only[upTo]at hcon;obtain⟨b1,hb1⟩:∃b1,m.under c0 (m.kl.length+1) c=b1:=Vx;obtain⟨b2,hb2⟩:∃b2,m.under x (m.kl.length+1) (some c0)=b2:=Vx;rw[hb1]at hcall hcon;rw[hb2]at O_ hcon;subst hcon;clear hw1 hw hfr Ga hr hc hd hm hb1 hb2;revert hcall O_;generalize Vq (c.map cb)=pf;generalize cb c0=q0;generalize cb x=qx;intro hcall O_;cases b1
  . clear O_;go_enter func104,ntmps104;go_wp2_with fail;refine hcall.mono ?_;rintro e w1 ⟨rfl,rfl⟩;clear hcall;go_wp2
    go_ret
    exact zt6
  . go_enter func104,ntmps104;go_wp2_with fail;refine hcall.mono ?_;rintro e w1 ⟨rfl,rfl⟩;clear hcall;go_wp2_with fail;refine O_.mono ?_;rintro e w1 ⟨rfl,rfl⟩;clear O_;go_wp2
    go_ret
    exact⟨bF,(ZR _ _).alloc UM _⟩
end Go.Proofs.Rz
namespace Go.Proofs.Rz
open ChangeShapes WideShapes ChangeAt RowKit Kn Iz Tryz
variable {bd : Nat}
def vY (v:Value)(w:World):Calls prog 105 #[.map none,v] w λe w'=>e=.returned (.tuple #[])/\Below w.heap.size w w':=by
 have hrg:=run_range_nilMap (P:=prog) w 138 _ _ underlying138;have hnx:=run_next_nilMap (P:=prog) w 0 0 0 #[];go_enter func105,ntmps105;go_wp2;refine wp_loop_rounds 1 ?_;rw[rounds_succ];go_wp2
 go_end0
 exact zt6
noncomputable def SI (m:Im) (cb:Nat->Nat) (c0:Nat) (sel:ByteArray) (r:U1):Bool:=decide (r.sel=sel)&&Hg m cb c0 r
def Nw (m:Im)(cb:Nat->Nat)(r:U1):Prop:=akV m cb r\/r=noRow
def ac9 (m:Im)(cb cm:Nat->Nat)(c0:Nat)(sel:ByteArray)(x y:Nat)(hm:U3 m)(hc0:c0<m.kl.length):
 Ih 113 #[VG x,VG y] (SI m cb c0 sel) (λW=>W.cell? (VJ x 0)=some (.string sel)/\W.cell? (VJ y 0)=some ((VG (cb c0)))/\Cls W m cb cm) (Nw m cb):=by
 refine⟨λargs W=>lK,λW r hW hr=>?_⟩;obtain⟨hx,hy,hw⟩:=hW;have hxl:=ZE W (VJ x 0) hx;have Fs:=ZE W (VJ y 0) hy;show Calls _ _ #[_,_,_] _ _;obtain⟨v,hv⟩:∃v,SI m cb c0 sel r=v:=Vx;rw[hv];by_cases he:r.sel=sel
 . have htl:r.sel.toList=sel.toList:=by rw[he]
   refine ajs ?_;intro hcall;have hvv:Hg m cb c0 r=v:=by rw[<- hv];simp[SI,he]
   rw[hvv]at hcall;unfold U1.val at hcall ⊢;clear hv hw hr hvv he;go_enter func113,ntmps113;go_wp2_with fail;refine hcall.mono ?_;rintro e w1 ⟨rfl,hb1⟩;have HB:=UQ alz;clear hb1 hcall;go_wp2
   go_ret
   exact agl
 . have hne:=IJ he;have vi:v=false:=by rw[<- hv];simp[SI,he]
   subst vi;unfold U1.val;clear hv hw hr he;go_enter func113,ntmps113;go_wp2
   go_ret
   exact zt6
def TK {w:World}{L:List (Nat×ByteArray)}{pm:Nat->Mm}{Sd:ByteArray->U1->Prop}(h:Sm bd w L pm Sd){k:Nat}{cs:Array Value}{t:TypeId}{fz:Nat×Nat}(hk:w.heap[k]?=some (.cells cs t fz))(h1:t≠198)(h2:t≠64):¬Vm L pm k:=by
 rintro⟨p,s,hps,e|e⟩
 . subst e;have:=h.at_ _ s hps;rw[hk]at this;injection this with this;injection this with _ this _;exact h1 this
 . obtain⟨cur,V_⟩:=h.Qz hps e;rw[hk]at V_;injection V_ with V_;injection V_ with _ V_ _;exact h2 V_
def TT {w:World}{L:List (Nat×ByteArray)}{pm:Nat->Mm}{Sd:ByteArray->U1->Prop}(h:Sm bd w L pm Sd){k:Nat}{es:Array MapEntry}{ck:Nat}(hk:w.heap[k]?=some (.map es ck)):¬Vm L pm k:=by
 rintro⟨p,s,hps,e|e⟩
 . subst e;have:=h.at_ _ s hps;rw[hk]at this;cases this
 . obtain⟨cur,V_⟩:=h.Qz hps e;rw[hk]at V_;cases V_
def pV (m:Im)(cb cm:Nat->Nat)(b c0 sb n:Nat)(cur:Array Value)(l:List (ByteArray×Value))(ps:Nat->List Nat)(R:Nat->U1)(L:List (Nat×ByteArray))(pm:Nat->Mm)(Sd:ByteArray->U1->Prop)(sel:ByteArray)(w:World)(hm:U3 m)(hc0:c0<m.kl.length)
 (S3:w.heap[b]?=some (.cells cur 70)) (hb:w.cell? (VJ b 5)=some (.map (some sb))) (hs:Ux w sb l ps) (ht:TabAt w b n R) (hcl:Cls w m cb cm) (hP:Sm bd w L pm Sd) (q_:∀s p,Reg l ps s p->(p,s)∈L)
 (hQ:∀s r,Sd s r->Nw m cb r) (hr:∀i,i<n->Nw m cb (R i)):
 Calls prog 84 #[VG b,VG (cb c0),.string sel] w λe w'=>e=.returned (.tuple #[])/\∃T_,Sm bd w' L T_ Sd/\(∀p,Reg l ps sel p->T_ p=(pm p).forget (SI m cb c0 sel))/\(∀p,¬Reg l ps sel p->T_ p=pm p)/\
  TabAt w' b n (λi=>if i<n/\SI m cb c0 sel (R i)=true then noRow else R i)/\Vt w w' (λk=>k=b\/Vm L pm k)/\UK w w' b:=by
 have hbl:=ht.Vb.lt;have Ww:=TK hP S3 Vz Vz
 have DE:∀c,c<m.kl.length->¬Vm L pm (cb c)/\cb c≠b:=λc hc=>by
  exact anY
 have Rr:∀k,Vm L pm k->k<w.heap.size:=by
  exact aoJ
 refine aiF ?_;intro HS HN;clear hs ht hcl hP q_ Ww DE Rr S3;go_enter func84,ntmps84;go_wp2_with fail;have hz0:((w.alloc (.cells #[VG (cb c0)] 57)).alloc (.cells #[.string sel] 9)).heap[w.heap.size]?=some (.cells #[VG (cb c0)] 57):=(ZV _ _ _ Vy).trans (Z4 w _).1
 have hz1:((w.alloc (.cells #[VG (cb c0)] 57)).alloc (.cells #[.string sel] 9)).heap[w.heap.size+1]?=some (.cells #[.string sel] 9):=by
  have:=(Z4 (w.alloc (.cells #[VG (cb c0)] 57)) (.cells #[.string sel] 9)).1;rw[ZJ]at this;exact this
 have hb0:((w.alloc (.cells #[VG (cb c0)] 57)).alloc (.cells #[.string sel] 9)).cell? (VJ b 5)=some (.map (some sb)):=UG;have US:Vt w ((w.alloc (.cells #[VG (cb c0)] 57)).alloc (.cells #[.string sel] 9)) (λ_=>False):=((Vt.refl w _).alloc _).alloc _;revert hz0 hz1 hb0 US;generalize (w.alloc (.cells #[VG (cb c0)] 57)).alloc (.cells #[.string sel] 9)=W0;intro hz0 hz1 hb0 US;have zl:=(Z5.1 hz1).1;have zc:W0.cell? (VJ (w.heap.size+1) 0)=some (.string sel):=by simp only[World.cell?,hz1];rfl
 have yc:W0.cell? (VJ w.heap.size 0)=some ((VG (cb c0))):=by simp only[World.cell?,hz0];rfl
 have hs0:=HS.o.1.Ut US EZ Nh aap;have pA:=HS.o.2.2.2.1.same (λk hk=>US.block k (HN.o.2.2 k hk) EZ)
 have H_:∀W,Vt W0 W (λk=>k=b\/Vm L pm k)->W.cell? (VJ (w.heap.size+1) 0)=some (.string sel)/\W.cell? (VJ w.heap.size 0)=some ((VG (cb c0)))/\Cls W m cb cm:=by
  intro W hW;have Z1:¬(w.heap.size+1=b\/Vm L pm (w.heap.size+1)):=λe=>aml;have hn0:¬(w.heap.size=b\/Vm L pm w.heap.size):=λe=>aml;refine⟨(Z9 (a:=(VJ (w.heap.size+1) 0)) (hW.block _ zl Z1)).trans zc,(Z9 (a:=(VJ w.heap.size 0)) (hW.block _ (show w.heap.size<W0.heap.size by omega) hn0)).trans yc,?_⟩;refine HS.o.2.2.1.same (λc hc=>?_);have hlt:=(HS.o.2.2.1.Vb hc).lt;exact(hW.block _ (ZY hlt US.size) (λe=>by rcases e with e|e;exact(HN.o.2.1 c hc).2 e;exact(HN.o.2.1 c hc).1 e)).trans (US.block _ hlt EZ)
 have c9:Hid _:=H_;refine ahO ?_;intro L0 Sb
 have NN:∀(w2:World) (T_:Nat->Mm),Sm bd w2 L T_ Sd->(∀p,Reg l ps sel p->T_ p=(pm p).forget (SI m cb c0 sel))->(∀p,¬Reg l ps sel p->T_ p=pm p)->Vt W0 w2 (Vm L pm)->
  Calls prog 71 #[.pointer (some (VJ b 6)),.func (.func 113) #[] #[VG (w.heap.size+1),VG w.heap.size]] w2 λe w'=>e=.returned (.tuple #[])/\∃T_,Sm bd w' L T_ Sd/\(∀p,Reg l ps sel p->T_ p=(pm p).forget (SI m cb c0 sel))/\(∀p,¬Reg l ps sel p->T_ p=pm p)/\
   TabAt w' b n (λi=>if i<n/\SI m cb c0 sel (R i)=true then noRow else R i)/\Vt w w' (λk=>k=b\/Vm L pm k)/\UK w w' b:=by
  intro w2 T_ Fu hf1 hf2 hc2;obtain⟨_,_,Mi,Sh⟩:=L0.o;have Sh:=Sh.same (hc2.block b Sb HN.o.1);refine(GX b n _ _ _ _ (Nw m cb) R w2 (ac9 m cb cm c0 sel (w.heap.size+1) w.heap.size hm hc0) hr (λW hW=>c9.o W ((hc2.mono lF).then hW jJ)) Sh).mono ?_;rintro e w3 ⟨rfl,Sh,hc3,hd3⟩
  have hblk:∀k,Vm L T_ k->Vm L pm k:=by
   rintro k ⟨p,s,hps,e|e⟩
   . exact lT
   . refine⟨p,s,hps,.inr ?_⟩;by_cases q_:Reg l ps sel p
     . rw[hf1 p q_]at e;rcases Mm.QH (SI m cb c0 sel) (pm p) with h|h
       . rw[h]at e;cases e
       . rw[h]at e;exact e
     . rw[hf2 p q_]at e;exact e
  refine⟨rfl,T_,Fu.same (λk hk=>hc3.block k ?_ (λe=>?_)),hf1,hf2,Sh,?_⟩
  . exact ZY (HN.o.2.2 k (hblk k hk)) (ZC Mi.size hc2.size)
  . subst e;exact HN.o.1 (hblk _ hk)
  . exact⟨((Mi.mono (λ_ _ h=>h.elim)).then hc2 lF).then hc3 jJ,(UK.of_block ((hc2.block b Sb HN.o.1).trans (Mi.block b hbl EZ))).trans hd3⟩
 have p8:Hid _:=NN;clear hz0 hz1 hs0 pA US H_ NN hb yc
 cases hl:l.lookup sel with
 | none=>
  refine ajA ?_;intro lk rz;clear hl;refine Uy ?_;refine ahP ?_;intro hHeld;refine zr4 ?_;refine Ur 6 ?_;refine Ul 5 λY_ Z_=>?_;refine Vg ?_;intro hHeld;clear Z_ Y_
  try refine UE ?_
  refine Ul 7 λY_ Z_=>?_;go_simp;refine(vY _ _).mono ?_;rintro e w2 ⟨rfl,hb2⟩;have hb3:=(hb2.cell (p:=(VJ b 5)) Sb).trans hb0;have fd:=(hb2.cell (p:=(VJ (w.heap.size+1) 0)) zl).trans zc
  try go_wp2_with fail
  refine Z_.go λhHeld=>?_;clear Z_ Y_;refine Um ?_;have MD:Hid (Vt W0 w2 (Vm L pm)):=(Vt.refl W0 _).drew.trans (Vt.of_below hb2 _);have htab:=p8.o w2 pm (L0.o.2.1.same (λk hk=>hb2.block k (ZY (HN.o.2.2 k hk) L0.o.2.2.1.size))) (λp h=>absurd h (rz.o p)) (λp _=>rfl) MD.o;clear hb2 hb0 zc lk;clear hHeld;clear hHeld;clear hHeld;go_wp2_with fail;refine htab.mono ?_;rintro e w3 ⟨rfl,hres⟩;go_wp2
  go_end0
  exact⟨rfl,hres⟩
 | some v=>
  obtain⟨ib,rfl,B_,_⟩:=L0.o.1.inn sel v hl;have lk:(Instr.lookup 56 (.map (some sb)) (.string sel) false).run prog W0.drew=.ok (.map (some ib)) W0.drew:=akt;have hcall:=Fb ib 113 #[VG (w.heap.size+1),VG w.heap.size] (ps ib) (SI m cb c0 sel) _ (Nw m cb) L pm Sd W0.drew (B_.same rfl) (λp hp=>⟨sel,HS.o.2.2.2.2 sel p ⟨ib,hl,hp⟩⟩) (L0.o.2.1.same Ji) (ac9 m cb cm c0 sel (w.heap.size+1) w.heap.size hm hc0) hQ (λW hW=>c9.o W ((Vt.refl W0 _).drew.then (hW.mono (λk _ e=>.inr e)) (λk _ e=>e)))
  have ii:Hid (∀p,Reg l ps sel p↔p∈ps ib):=by
   exact aoS
  have mH:¬Vm L pm (w.heap.size+1):=λe=>by have:=HN.o.2.2 _ e;omega
  have Ww:=HN.o.1;clear B_ hl;refine Uy ?_;refine ahP ?_;intro hHeld;refine zr4 ?_;refine Ur 6 ?_;refine Ul 5 λY_ Z_=>?_;refine Vg ?_;intro hHeld;clear Z_ Y_
  try refine UE ?_
  refine Ul 7 λY_ Z_=>?_;go_simp;refine hcall.mono ?_;rintro e w2 ⟨rfl,T_,hp2,hf1,hf2,hb2⟩;have hb3:=(Z9 (a:=(VJ b 5)) (hb2.block b Sb Ww)).trans hb0;have fd:=(Z9 (a:=(VJ (w.heap.size+1) 0)) (hb2.block _ zl mH)).trans zc
  try go_wp2_with fail
  refine Z_.go λhHeld=>?_;clear Z_ Y_;refine Um ?_;refine ahv ?_;intro MD htab;clear hb2 hb0 zc lk hp2 hf1 hf2 hcall;clear hHeld;clear hHeld;clear hHeld;go_wp2_with fail;refine htab.mono ?_;rintro e w3 ⟨rfl,hres⟩;go_wp2
  go_end0
  exact⟨rfl,hres⟩
end Go.Proofs.Rz
namespace Go.Proofs.Rz
open ChangeShapes WideShapes ChangeAt RowKit Kn Iz Tryz
def ae3 (q:Nat)(w:World)(t2 ty:TypeId):(Builtin.delete_ #[138,t2] ty #[.map none,TM q]).run prog w=.ok (.tuple #[]) w:=by
 simp[Builtin.delete_,Zu underlying138,Qp Gz]
def nD (w:World)(ty:TypeId):(Builtin.len_ #[138] ty #[.map none]).run prog w=.ok (VI 0) w:=by
 simp[Builtin.len_,Zu underlying138,goInt]
def afK {W:World}{sb:Nat}{l:List (ByteArray×Value)}{ps:Nat->List Nat}(h:Ux W sb l ps){s:ByteArray}{ib q:Nat}(hl:l.lookup s=some (.map (some ib)))(hq:UL W q)(t2 ty:TypeId):
 ∃W' ps',(Builtin.delete_ #[138,t2] ty #[.map (some ib),TM q]).run prog W=.ok (.tuple #[]) W'/\Ux W' sb l ps'/\(∀t r,Reg l ps' t r↔Reg l ps t r/\¬(t=s/\r=q))/\W.grownBy W' (some ib):=by
 obtain⟨cP,e,B_,hne⟩:=h.inn s _ hl;injection e with e;injection e with e;subst e;obtain⟨W',fY,hrun,hp,hmem,hg,hsz⟩:=abm (P:=prog) B_ (λp hp=>h.Vb s ib p hl hp) underlying138 Gz hq t2 ty;have keep:∀p,UL W p->UL W' p:=λp hc=>hc.same (hg.block p hc.lt (λe=>by injection e with e;exact QO hc B_ e));refine⟨W',λk=>if k=ib then fY else ps k,hrun,⟨h.map.same (hg.block _ h.map.lt (λe=>by injection e with e;exact hne e.symm)),λt u hu=>?_,h.inj,λt jb p ht hp'=>?_⟩,λt r=>?_,hg⟩
 . exact anp
 . by_cases e:jb=ib
   . subst e;simp only[Y6]at hp';exact keep p (h.Vb t jb p ht ((hmem p).1 hp').1)
   . simp only[e,Zg]at hp';exact keep p (h.Vb t jb p ht hp')
 . constructor
   . rintro⟨jb,h4,h5⟩;by_cases e:jb=ib
     . subst e;simp only[Y6]at h5;have h8:=(hmem r).1 h5;exact⟨⟨jb,h4,h8.1⟩,λe=>h8.2 e.2⟩
     . simp only[e,Zg]at h5
       exact⟨⟨jb,h4,h5⟩,λe'=>by
        rw[e'.1,hl]at h4
        exact e (PL h4).symm⟩
   . rintro⟨⟨jb,h4,h5⟩,hn⟩;by_cases e:jb=ib
     . subst e;exact⟨jb,h4,by simp only[Y6];exact(hmem r).2 ⟨h5,λe'=>hn ⟨h.inj t s jb h4 hl,e'⟩⟩⟩
     . exact⟨jb,h4,by simp only[e,Zg];exact h5⟩
def CW {W:World}{sb:Nat}{l:List (ByteArray×Value)}{ps:Nat->List Nat}(h:Ux W sb l ps)(s:ByteArray)(hn:∀r,¬Reg l ps s r)(t2 ty:TypeId):
 ∃W',(Builtin.delete_ #[56,t2] ty #[.map (some sb),.string s]).run prog W=.ok (.tuple #[]) W'/\Ux W' sb (del l s) ps/\(∀t r,Reg (del l s) ps t r↔Reg l ps t r)/\W.grownBy W' (some sb):=by
 obtain⟨W',hrun,hm,hg,hsz⟩:=je (P:=prog) h.map underlying56 underlying9 s t2 ty;have keep:∀p,UL W p->UL W' p:=λp hc=>hc.same (hg.block p hc.lt (λe=>aol))
 have hlk:∀t v,(del l s).lookup t=some v->l.lookup t=some v:=λt v ht=>by
  rw[Na]at ht;by_cases e:t=s
  . rw[ZU e]at ht;cases ht
  . rw[ZX e]at ht;exact ht
 refine⟨W',hrun,⟨hm,λt u hu=>?_,λt1 t2 ib h1 h2=>h.inj t1 t2 ib (hlk _ _ h1) (hlk _ _ h2),λt jb p ht hp=>keep p (h.Vb t jb p (hlk _ _ ht) hp)⟩,λt r=>?_,hg⟩
 . obtain⟨jb,rfl,h4,h5⟩:=h.inn t u (hlk _ _ hu);exact⟨jb,rfl,h4.same (hg.block _ h4.lt (λe'=>by injection e' with e';exact h5 e')),h5⟩
 . constructor
   . rintro⟨jb,h1,h2⟩;exact⟨jb,hlk _ _ h1,h2⟩
   . rintro⟨jb,h1,h2⟩;refine⟨jb,?_,h2⟩;rw[Na];by_cases e:t=s
     . subst e;exact absurd ⟨jb,h1,h2⟩ (hn r)
     . rw[ZX e];exact h1
def Sends (ws:List (W×Nat))(pl:Nat->Nat)(k:Nat)(s:ByteArray)(q:Nat):Prop:=∃i x,i<k/\ws[i]?=some x/\UO x.1=true/\VF x.1.sel=s/\q=pl i
def I8 {ws:List (W×Nat)}{pl:Nat->Nat}{k:Nat}{x:W×Nat}(hx:ws[k]?=some x)(hs:UO x.1=false)(s:ByteArray)(q:Nat):Sends ws pl (k+1) s q↔Sends ws pl k s q:=by
 constructor
 . rintro⟨i,y,hi,hy,h1,h2⟩;refine⟨i,y,?_,hy,h1,h2⟩;by_cases e:i=k
   . subst e;rw[hx]at hy;injection hy with hy;subst hy;rw[hs]at h1;cases h1
   . omega
 . rintro⟨i,y,hi,h⟩;exact⟨i,y,VH,h⟩
def MB {ws:List (W×Nat)}{pl:Nat->Nat}{k:Nat}{x:W×Nat}(hx:ws[k]?=some x)(hs:UO x.1=true)(s:ByteArray)(q:Nat):Sends ws pl (k+1) s q↔Sends ws pl k s q\/(s=VF x.1.sel/\q=pl k):=by
 constructor
 . rintro⟨i,y,hi,hy,h1,h2,h3⟩;by_cases e:i=k
   . exact ajz
   . exact .inl ⟨i,y,VH,hy,h1,h2,h3⟩
 . rintro(⟨i,y,hi,h⟩|⟨rfl,rfl⟩)
   . exact⟨i,y,VH,h⟩
   . exact⟨k,x,VH,hx,hs,rfl,rfl⟩
def kV (b m h1:Nat)(v:Value)(h:Int)(w:World)(hh:0<Go.RowKit.wrap64 (h-1))(hm:w.heap[m]?=some (.cells #[v,VI h] 165)):
 Calls prog 83 #[VG b,VG m] w λe w'=>e=.returned (.tuple #[])/\w'=w.setCell (VJ m 1) (VI (Go.RowKit.wrap64 (h-1))):=by
 have m1:w.cell? (VJ m 1)=some (VI h):=by simp only[World.cell?,hm];rfl
 have mf:=λo=>UL.free wK o;go_enter func83,ntmps83;go_wp2;refine yM ?_;exact KP
def au (b m:Nat)(v:Value)(h:Int)(w:World)(hh:1<Go.RowKit.wrap64 (h+1))(hm:w.heap[m]?=some (.cells #[v,VI h] 165)):
 Calls prog 82 #[VG b,VG m] w λe w'=>e=.returned (.tuple #[])/\w'=w.setCell (VJ m 1) (VI (Go.RowKit.wrap64 (h+1))):=by
 have m1:w.cell? (VJ m 1)=some (VI h):=by simp only[World.cell?,hm];rfl
 have mf:=λo=>UL.free wK o;go_enter func82,ntmps82;go_wp2;refine yM ?_;exact KP
end Go.Proofs.Rz
namespace Go.Proofs.Rz
open ChangeShapes WideShapes ChangeAt RowKit Kn Iz Tryz
variable {bd : Nat}
structure pK (bd:Nat)(w0 W:World)(sb:Nat)(l0:List (ByteArray×Value))(Sw:Nat->List Nat)(Pb:Nat->Mm)(L:List (Nat×ByteArray))(Sd:ByteArray->U1->Prop)(ws:List (Kn.W×Nat))(pl:Nat->Nat)(k:Nat)(l:List (ByteArray×Value))(ps:Nat->List Nat)(pm:Nat->Mm):Prop where
 snd:Ux W sb l ps
 sub:∀s ib,l.lookup s=some (.map (some ib))->l0.lookup s=some (.map (some ib))
 reg:∀s q,Reg l ps s q↔Reg l0 Sw s q/\¬Sends ws pl k s q
 Ru:Sm bd W L pm Sd
 only:∀s q,Sends ws pl k s q->pm q=.only
 keep:∀q,(∀s,¬Sends ws pl k s q)->pm q=Pb q
 Ut:Vt w0 W (λk=>k=sb\/(∃s,l0.lookup s=some (.map (some k)))\/∃s,(k,s)∈L)
def Sm.lt {w:World}{L:List (Nat×ByteArray)}{pm:Nat->Mm}{Sd:ByteArray->U1->Prop}(hP:Sm bd w L pm Sd):∀k,Vm L pm k->k<w.heap.size:=by
 exact aoJ
def Ux.ne {w:World}{sb:Nat}{l:List (ByteArray×Value)}{ps:Nat->List Nat}(h:Ux w sb l ps){k:Nat}(hk:UL w k):¬(k=sb\/∃s,l.lookup s=some (.map (some k))):=by
 rintro(e|⟨s,e⟩)
 . exact UA hk h.map e
 . obtain⟨ib,e1,e2,_⟩:=h.inn s _ e;injection e1 with e1;injection e1 with e1;subst e1;exact QO hk e2 rfl
def Sm.drew {w:World}{L:List (Nat×ByteArray)}{pm:Nat->Mm}{Sd:ByteArray->U1->Prop}(h:Sm bd w L pm Sd):Sm bd w.drew L pm Sd:=h.same Ji
def Sm.alloc {w:World}{L:List (Nat×ByteArray)}{pm:Nat->Mm}{Sd:ByteArray->U1->Prop}(h:Sm bd w L pm Sd)(o:Obj):Sm bd (w.alloc o) L pm Sd:=h.same (λk hk=>ZV _ _ _ (h.lt k hk))
def Ux.alloc {w:World}{sb:Nat}{l:List (ByteArray×Value)}{ps:Nat->List Nat}(h:Ux w sb l ps)(o:Obj):Ux (w.alloc o) sb l ps:=h.Ut ((Vt.refl w (λ_=>False)).alloc _) EZ Nh aap
def Sm.beside {w w':World}{L:List (Nat×ByteArray)}{pm:Nat->Mm}{Sd:ByteArray->U1->Prop}(h:Sm bd w L pm Sd)(hk:∀j,UL w j->w'.heap[j]?=w.heap[j]?):Sm bd w' L pm Sd:=h.same (λk hb=>by
 rcases hb with⟨p,s,hps,e|e⟩
 . subst e;exact hk _ (h.Vb hps)
 . obtain⟨cr,hcr⟩:=h.Qz hps e
   exact hk _ ⟨_,_,hcr⟩)
def eu {w w':World}{p m o:Nat}{v:Value}(h:UL w p)(e:w'.heap[p]?=(w.setCell (VJ m o) v).heap[p]?)(hne:p≠m):UL w' p:=h.same (e.trans (ZW w _ _ p hne))
section
variable {w0 : World} {sb : Nat} {l0 : List (ByteArray × Value)} {Sw : Nat -> List Nat} {Pb : Nat -> Mm} {L : List (Nat × ByteArray)} {Sd : ByteArray -> U1 -> Prop} {ws : List (Kn.W × Nat)} {pl : Nat -> Nat}
def pK.alloc {W:World}{k:Nat}{l:List (ByteArray×Value)}{ps:Nat->List Nat}{pm:Nat->Mm}(h:pK bd w0 W sb l0 Sw Pb L Sd ws pl k l ps pm)(o:Obj):pK bd w0 (W.alloc o) sb l0 Sw Pb L Sd ws pl k l ps pm:=
 ⟨h.snd.alloc o,h.sub,h.reg,h.Ru.alloc o,h.only,h.keep,h.Ut.alloc o⟩
def pK.drew {W:World}{k:Nat}{l:List (ByteArray×Value)}{ps:Nat->List Nat}{pm:Nat->Mm}(h:pK bd w0 W sb l0 Sw Pb L Sd ws pl k l ps pm):pK bd w0 W.drew sb l0 Sw Pb L Sd ws pl k l ps pm:=
 ⟨h.snd.drew,h.sub,h.reg,h.Ru.drew,h.only,h.keep,h.Ut.drew⟩
def pK.pass {W:World}{k:Nat}{l:List (ByteArray×Value)}{ps:Nat->List Nat}{pm:Nat->Mm}{x:Kn.W×Nat}(h:pK bd w0 W sb l0 Sw Pb L Sd ws pl k l ps pm)(hx:ws[k]?=some x)(hs:UO x.1=false):pK bd w0 W sb l0 Sw Pb L Sd ws pl (k+1) l ps pm:=
 ⟨h.snd,h.sub,λs q=>by rw[h.reg s q,I8 hx hs],h.Ru,λs q I2=>h.only s q ((I8 hx hs s q).1 I2),λq hq=>h.keep q (λs I2=>hq s ((I8 hx hs s q).2 I2)),h.Ut⟩
def aag:prog.underlying 138=some (.map (prog.mapKeyOf 138) (prog.mapElemOf 138)):=VE
def pK.go {W:World}{k:Nat}{l:List (ByteArray×Value)}{ps:Nat->List Nat}{pm:Nat->Mm}{x:Kn.W×Nat}(h:pK bd w0 W sb l0 Sw Pb L Sd ws pl k l ps pm)(hx:ws[k]?=some x)(hs:UO x.1=true)(hL:(pl k,VF x.1.sel)∈L):
 ∃v W2 v2 n,(Instr.lookup 56 (.map (some sb)) (.string (VF x.1.sel)) false).run prog (W.setCell (VJ (pl k) 0) Mm.only.val).drew=.ok v (W.setCell (VJ (pl k) 0) Mm.only.val).drew/\
  (∀t2 ty,(Builtin.delete_ #[138,t2] ty #[v,TM (pl k)]).run prog (W.setCell (VJ (pl k) 0) Mm.only.val).drew=.ok (.tuple #[]) W2)/\
  (Instr.lookup 56 (.map (some sb)) (.string (VF x.1.sel)) false).run prog W2.drew=.ok v2 W2.drew/\
  (∀ty,(Builtin.len_ #[138] ty #[v2]).run prog W2.drew=.ok (VI ((n:Nat):Int)) W2.drew)/\
  (∃l ps pm,pK bd w0 W2 sb l0 Sw Pb L Sd ws pl (k+1) l ps pm)/\(∀j,UL W j->j≠pl k->W2.heap[j]?=W.heap[j]?)/\
  (n=0->∃W3,(∀t2 ty,(Builtin.delete_ #[56,t2] ty #[.map (some sb),.string (VF x.1.sel)]).run prog W2.drew.drew=.ok (.tuple #[]) W3)/\∃l ps pm,pK bd w0 W3 sb l0 Sw Pb L Sd ws pl (k+1) l ps pm):=by
 have hc1:Vt W (W.setCell (VJ (pl k) 0) Mm.only.val) (λj=>j=pl k):=(Vt.refl W _).setCell _ _ (λ_=>rfl);have kq:=h.Ru.Vb hL;have hne:=h.snd.ne kq;have hs1:=(h.snd.Ut hc1 (λe=>hne tN) (λs ib hi e=>hne (.inr ⟨s,by rw[<- e];exact hi⟩)) (λs ib p hi hp e=>by subst e;exact kq.setCell _ _)).drew;have hp1:=(Sm.store (W3:=W) h.Ru hL (m:=.only) (Vt.refl _ _) trivial oV (λr hr=>by cases hr) (λq hq=>by cases hq) (λq hq=>by cases hq)).drew;generalize hW1:(W.setCell (VJ (pl k) 0) Mm.only.val).drew=W1 at hs1 hp1 ⊢;have ro:∀j,j≠pl k->W1.heap[j]?=W.heap[j]?:=λj hj=>by rw[<- hW1];exact ZW W (VJ (pl k) 0) _ j hj
 have zR:∀j,UL W j->UL W1 j:=λj hj=>by rw[<- hW1];exact(hj.setCell _ _).same rfl
 have fg:Vt w0 W1 (λk=>k=sb\/(∃s,l0.lookup s=some (.map (some k)))\/∃s,(k,s)∈L):=by rw[<- hW1];exact(h.Ut.trans (hc1.mono (λj _ e=>by subst e;exact .inr (.inr ⟨_,hL⟩)))).drew
 clear hW1 hc1;have hq1:=zR _ kq
 have key:∀(W2:World) (l2:List (ByteArray×Value)) (ps2:Nat->List Nat),Ux W2 sb l2 ps2->(∀s ib,l2.lookup s=some (.map (some ib))->l.lookup s=some (.map (some ib)))->(∀t r,Reg l2 ps2 t r↔Reg l ps t r/\¬(t=VF x.1.sel/\r=pl k))->Vt W1 W2 (λj=>j=sb\/∃s,l.lookup s=some (.map (some j)))->
  pK bd w0 W2 sb l0 Sw Pb L Sd ws pl (k+1) l2 ps2 (λj=>if j=pl k then .only else pm j):=by
  intro W2 l2 ps2 hs2 hsub q_ hc1;refine⟨hs2,λs ib e=>h.sub s ib (hsub s ib e),λs q=>?_,hp1.beside (λj hj=>hc1.block j hj.lt (hs1.ne hj)),λs q I2=>?_,λq hq=>?_,fg.trans (hc1.mono (λj _ e=>?_))⟩
  . rw[q_ s q,h.reg s q,MB hx hs];constructor
    . rintro⟨⟨h1,h2⟩,h3⟩;exact⟨h1,λe=>e.elim h2 h3⟩
    . rintro⟨h1,h2⟩;exact⟨⟨h1,λe=>h2 (.inl e)⟩,λe=>h2 (.inr e)⟩
  . by_cases e:q=pl k
    . simp[e]
    . simp only[e,Zg];rcases (MB hx hs s q).1 I2 with h1|⟨_,h1⟩
      . exact h.only s q h1
      . exact absurd h1 e
  . have e:q≠pl k:=λe=>hq (VF x.1.sel) ((MB hx hs _ _).2 (.inr ⟨rfl,e⟩));simp only[e,Zg];exact h.keep q (λs I2=>hq s ((MB hx hs s q).2 (.inl I2)))
  . rcases e with e|⟨s,e⟩
    . exact .inl e
    . exact .inr (.inl ⟨s,h.sub s _ e⟩)
 cases hl:l.lookup (VF x.1.sel) with
 | none=>
  have hno:∀r,¬Reg l ps (VF x.1.sel) r:=λr ⟨ib,e,_⟩=>by rw[hl]at e;cases e
  have hk2:=key W1 l ps hs1 (λ_ _ e=>e) (λt r=>⟨λe=>⟨e,λe2=>hno r (by rw[<- e2.1];exact e)⟩,λe=>e.1⟩) (Vt.refl _ _);refine⟨.map none,W1,.map none,0,by rw[RN W1 sb l hs1.map,hl];rfl,λt2 ty=>ae3 _ _ _ _,by rw[RN W1.drew sb l hs1.drew.map,hl];rfl,λty=>nD _ _,⟨_,_,_,hk2⟩,λj _ hj=>ro j hj,λ_=>?_⟩;obtain⟨W3,hrun,hs3,GF,hg3⟩:=CW hs1.drew.drew (VF x.1.sel) hno 0 0;refine⟨W3,λt2 ty=>?_,_,_,_,key W3 _ ps hs3 (λs ib e=>?_) (λt r=>by rw[GF t r];exact⟨λe=>⟨e,λe2=>hno r (by rw[<- e2.1];exact e)⟩,λe=>e.1⟩) ((Vt.refl W1 _).drew.drew.trans ((Vt.QY hg3).mono (λj _ e=>.inl e)))⟩
  . obtain⟨W4,B6,_⟩:=CW hs1.drew.drew (VF x.1.sel) hno t2 ty;exact hrun
  . exact anb
 | some v=>
  obtain⟨ib,rfl,B_,bw⟩:=hs1.inn _ v hl;obtain⟨W2,ps2,hrun,hs2,Nt,hg2⟩:=afK hs1 hl hq1 0 0;obtain⟨cP,e,vq,_⟩:=hs2.inn _ _ hl;injection e with e;injection e with e;subst e;have hc1:Vt W1 W2 (λj=>j=sb\/∃s,l.lookup s=some (.map (some j))):=(Vt.QY hg2).mono (λj _ e=>.inr ⟨VF x.1.sel,by subst e;exact hl⟩);refine⟨.map (some ib),W2,.map (some ib),(ps2 ib).length,by rw[RN W1 sb l hs1.map,hl];rfl,λt2 ty=>hrun,by rw[RN W2.drew sb l hs2.drew.map,hl];rfl,λty=>aek (P:=prog) (w:=W2.drew) (b:=ib) (ps:=ps2 ib) (t:=138) (vq.same rfl) aag ty,⟨_,_,_,key W2 l ps2 hs2 (λ_ _ e=>e) Nt hc1⟩,λj hj hjp=>(hc1.block j (zR j hj).lt (hs1.ne (zR j hj))).trans (ro j hjp),λhn=>?_⟩
  have hno:∀r,¬Reg l ps2 (VF x.1.sel) r:=λr ⟨jb,e,hm⟩=>by
   rw[hl]at e;have:=PL e;subst this;rw[Yq hn]at hm;cases hm
  obtain⟨W3,B6,hs3,GF,hg3⟩:=CW hs2.drew.drew (VF x.1.sel) hno 0 0;refine⟨W3,λt2 ty=>B6,_,_,_,key W3 _ ps2 hs3 (λs ib e=>?_) (λt r=>by rw[GF t r];exact Nt t r) (hc1.drew.drew.trans ((Vt.QY hg3).mono (λj _ e=>.inl e)))⟩;exact anb
end
def Ap (b m sb g cap:Nat)(p:Option Addr)(ws:List (Kn.W×Nat))(pl:Nat->Nat)(l0:List (ByteArray×Value))(Sw:Nat->List Nat)(L:List (Nat×ByteArray))(Pb:Nat->Mm)(Sd:ByteArray->U1->Prop)(h:Int)(w:World)(hn:ws.length<=40)(hh:Go.RowKit.wrap64 (h-1)<=0)
 (hb:w.cell? (VJ b 5)=some (.map (some sb))) (hbc:UL w b) (hm:w.heap[m]?=some (.cells #[.slice p ws.length cap,VI h] 165)) (hbm:b≠m) (ke:1<=ws.length->g≠m)
 (hw:xB w p g ws pl ws.length) (hpl:∀i x,ws[i]?=some x->UO x.1=true->(pl i,VF x.1.sel)∈L) (hs:Ux w sb l0 Sw) (hP:Sm bd w L Pb Sd):
 Calls prog 83 #[VG b,VG m] w λe w'=>e=.returned (.tuple #[])/\(∃l ps pm,pK bd (w.setCell (VJ m 1) (VI (Go.RowKit.wrap64 (h-1)))) w' sb l0 Sw Pb L Sd ws pl ws.length l ps pm)/\
  w'.heap[m]?=some (.cells #[.slice p ws.length cap,VI (Go.RowKit.wrap64 (h-1))] 165):=by
 refine ajE ?_;intro hmc m0 m1 mf
 have hbL:∀s,(b,s) ∉ L:=λs hx=>by
  have:=hP.at_ b s hx;rw[World.cell?,this]at hb;simp at hb
 have du:∀s,(m,s) ∉ L:=λs hx=>by
  have:=hP.at_ m s hx;rw[World.cell?,this]at m1;simp at m1
 have cL:1<=ws.length->∀s,(g,s) ∉ L:=λh1 s hx=>by
  have:=hP.at_ g s hx
  obtain⟨x,hx0⟩:∃x,ws[0]?=some x:=⟨_,Z8 VH⟩
  have h2:=hw.c1 0 x hx0;rw[World.cell?,this]at h2;simp at h2
 have hblk:∀wr,Vt (w.setCell (VJ m 1) (VI (Go.RowKit.wrap64 (h-1)))) wr (λk=>k=sb\/(∃s,l0.lookup s=some (.map (some k)))\/∃s,(k,s)∈L)->∀j,UL w j->(∀s,(j,s) ∉ L)->wr.heap[j]?=(w.setCell (VJ m 1) (VI (Go.RowKit.wrap64 (h-1)))).heap[j]?:=λwr hch j hj hjL=>
  hch.block j aoU (λe=>by
   rcases e with e|e|⟨s,e⟩
   . exact hs.ne hj (.inl e)
   . exact hs.ne hj (.inr e)
   . exact hjL s e)
 have HI:Hid (xB w p g ws pl ws.length/\(∀i x,ws[i]?=some x->UO x.1=true->(pl i,VF x.1.sel)∈L)/\Ux w sb l0 Sw/\UL w b/\w.heap[m]?=some (.cells #[.slice p ws.length cap,VI h] 165)/\Sm bd w L Pb Sd):=⟨hw,hpl,hs,hbc,hm,hP⟩
 have HL:Hid ((∀s,(b,s) ∉ L)/\(∀s,(m,s) ∉ L)/\(1<=ws.length->∀s,(g,s) ∉ L)):=⟨hbL,du,cL⟩
 have HB:Hid _:=hblk;have hml:=hmc.lt;clear hw hpl hs hbc hm hmc hP hbL du cL hblk;go_enter func83,ntmps83;go_wp2
 go_loopw [23] (λi wr=>∃(k:Nat) (l:List (ByteArray×Value)) (ps:Nat->List Nat) (pm:Nat->Mm),i=VI k/\k<=ws.length/\pK bd (w.setCell (VJ m 1) (VI (Go.RowKit.wrap64 (h-1)))) wr sb l0 Sw Pb L Sd ws pl k l ps pm) (λi _=>ws.length-(intOf i).toNat)
 case atStart=>
  obtain⟨hw,hpl,hs0,hbc,hm,hP⟩:=HI.o;have hmc:UL w m:=wK;have hne:=hs0.ne hmc;refine⟨0,l0,Sw,Pb,rfl,VH,⟨hs0.Ut ((Vt.refl w (λk=>k=m)).setCell _ _ (λ_=>rfl)) (λe=>hne tN) (λs ib hs e=>hne aj3) (λs ib q hs hq e=>by subst e;exact hmc.setCell _ _),λ_ _ e=>e,λs q=>⟨λh=>⟨h,λ⟨i,x,hi,_⟩=>VH⟩,λh=>h.1⟩,?_,λs q ⟨i,x,hi,_⟩=>VH,λ_ _=>rfl,Vt.refl _ _⟩⟩;refine hP.same (λk hk=>ZW _ _ _ _ (λe=>?_));subst e;exact TK hP hm Vz Vz hk
 case round=>
  obtain⟨k,l,ps,pm,rfl,hk,Fx⟩:=hrel;obtain⟨hw,hpl,hs0,hbc,hm,hP⟩:=HI.o;have hblk:=HB.o wr Fx.Ut;have hbr:=(Z9 (a:=(VJ b 5)) ((hblk b hbc HL.o.1).trans (ZW w _ _ b hbm))).trans hb;have HR:Hid _:=Fx;clear Fx;by_cases hkn:k<ws.length
  . refine BH ?_;intro x hx;obtain rfl:p=some (VJ g 0):=hw.head VH;have hwr:=hw.same ((hblk g (hw.Vb VH) (HL.o.2.2 VH)).trans (ZW w _ _ g (ke VH)));refine aa9 ?_;intro c0 c1 c2 c3 c4 c5;have HX:Hid _:=hx;cases w_:UO x.1
    . have HS:=UQ w_;rw[w_,ZX Vy]at c5;clear hwr hw hpl hs0 hbc hm hblk hx w_ hb m0 m1 mf hP;go_wp2
      go_roundw
      case rel=>exact⟨k+1,l,ps,pm,Uu,VH,(HR.o.alloc _).pass HX.o HS.o⟩
      case measure=>simp[intOf]<;>omega
    . have HS:=UQ w_;rw[w_,ZU ⟨hkn,rfl⟩]at c5;have fI:=hpl k x hx w_;have hq:=HR.o.Ru.at_ _ _ fI;have q0:wr.cell? (VJ (pl k) 0)=some (pm (pl k)).val:=by simp only[World.cell?,hq];rfl
      have A7:UL wr (pl k):=⟨_,_,hq⟩
      have bX:=λo=>A7.free o;have FF:=A7.lt;have LN:pl k≠b:=λe=>HL.o.1 _ (by rw[<- e];exact fI);clear hwr hw hpl hs0 hbc hm hblk hx w_ hb m0 m1 mf hP A7 hq;have HT:=HR.o.alloc (.cells #[VI (kindOf x.1.k:Nat),VI x.1.n,.string (VF x.1.a),.string (VF x.1.sel),.string (VF x.1.b),VG (pl k)] 146);obtain⟨v,W2,v2,n,Pa,w7,Tl,ln2,TE,Ge,hzero⟩:=HT.go HX.o HS.o fI;have hz:=(Z4 wr (.cells #[VI (kindOf x.1.k:Nat),VI x.1.n,.string (VF x.1.a),.string (VF x.1.sel),.string (VF x.1.b),VG (pl k)] 146)).1;have hz0:∀j,wr.heap.size≠j->∀v,((wr.alloc (.cells #[VI (kindOf x.1.k:Nat),VI x.1.n,.string (VF x.1.a),.string (VF x.1.sel),.string (VF x.1.b),VG (pl k)] 146)).setCell (VJ j 0) v).heap[wr.heap.size]?=_:=λj hj v=>(ZW _ (VJ j 0) v _ hj).trans hz;have Cy:=(Ge wr.heap.size ⟨_,_,hz⟩ VH).trans hz;have mR:(wr.alloc (.cells #[VI (kindOf x.1.k:Nat),VI x.1.n,.string (VF x.1.a),.string (VF x.1.sel),.string (VF x.1.b),VG (pl k)] 146)).cell? (VJ b 5)=some (.map (some sb)):=UG;have hb1:((wr.alloc (.cells #[VI (kindOf x.1.k:Nat),VI x.1.n,.string (VF x.1.a),.string (VF x.1.sel),.string (VF x.1.b),VG (pl k)] 146)).setCell (VJ (pl k) 0) Mm.only.val).cell? (VJ b 5)=some (.map (some sb)):=(Z9 (a:=(VJ b 5)) (ZW _ (VJ (pl k) 0) _ b LN.symm)).trans mR;have tW:=eu HI.o.2.2.2.1 (HB.o wr HR.o.Ut b HI.o.2.2.2.1 HL.o.1) hbm;have hb2:=(Z9 (a:=(VJ b 5)) (Ge b (tW.alloc _) LN.symm)).trans mR;have hz1:=hz0 (pl k) VH Mm.only.val;unfold TM at w7;have HZ:Hid _:=hzero;have bO:Hid _:=TE;clear hzero TE hz0 Ge hz HT mR tW;have hov:Mm.only.val=.iface 206 (.agg #[]):=rfl;have vB:=World.setCell_alloc_past (w:=wr) (.cells #[VI (kindOf x.1.k:Nat),VI x.1.n,.string (VF x.1.a),.string (VF x.1.sel),.string (VF x.1.b),VG (pl k)] 146) (pl k) 0 (.iface 206 (.agg #[])) FF;rw[hov]at Pa w7 hb1 hz1;rw[vB]at Pa w7 hb1 hz1;clear vB;go_wp2_with fail;revert Pa w7 hb1 hz1;generalize (wr.setCell (VJ (pl k) 0) (.iface 206 (.agg #[]))).alloc (.cells #[VI (kindOf x.1.k:Nat),VI x.1.n,.string (VF x.1.a),.string (VF x.1.sel),.string (VF x.1.b),VG (pl k)] 146)=W1;clear c0 c1 c2 c3 c4 c5 hbr q0 bX FF LN;revert Cy;generalize wr.heap.size=z;intro Cy Pa w7 hb1 hz1;have z3:W1.cell? (VJ z 3)=some (.string (VF x.1.sel)):=by simp only[World.cell?,hz1];rfl
      have z5:W1.cell? (VJ z 5)=some ((VG (pl k))):=by simp only[World.cell?,hz1];rfl
      have qe:W2.cell? (VJ z 3)=some (.string (VF x.1.sel)):=by simp only[World.cell?,Cy];rfl
      clear hz1 Cy
      go_region
      clear Pa w7 z3 z5 hb1;go_wp2_with fail
      go_region
      clear Tl ln2;by_cases hn0:n=0
      . obtain⟨W3,hrun,TE⟩:=HZ.o hn0;have ld:Hid _:=TE;subst hn0;clear TE;go_wp2_with fail
        go_region
        go_wp2
        go_roundw
        case rel=>
         obtain⟨l',ps',T_,h3⟩:=ld.o;exact⟨k+1,l',ps',T_,Uu,VH,h3⟩
        case measure=>simp[intOf]<;>omega
      . have Z1:((n:Int)==0)=false:=ZF.2 VH;go_wp2
        go_roundw
        case rel=>
         obtain⟨l',ps',T_,h3⟩:=bO.o;exact⟨k+1,l',ps',T_,Uu,VH,h3.drew⟩
        case measure=>simp[intOf]<;>omega
  . obtain rfl:k=ws.length:=by omega
    clear hblk hw hpl hs0 hbc hbr hb m0 m1 mf hP hm;go_wp2
    go_end0
    refine⟨rfl,⟨l,ps,pm,HR.o⟩,?_⟩;obtain⟨hw,hpl,hs0,hbc,hm,hP⟩:=HI.o;refine(HB.o _ HR.o.Ut m wK HL.o.2.1).trans ?_;simp only[World.setCell,Zz,ZU,hm];rfl
end Go.Proofs.Rz
namespace Go.Proofs.Rz
open ChangeShapes WideShapes ChangeAt RowKit Kn Iz Tryz
structure Md where
 ws:List (Kn.W×Nat)
 p:Option Addr
 g:Nat
 cap:Nat
 pl:Nat->Nat
structure Kc where
 np:Nat
 sb:Nat
 n:Nat
 l:List (ByteArray×Value)
 ps:Nat->List Nat
 L:List (Nat×ByteArray)
 pm:Nat->Mm
 R:Nat->U1
 Mk:Nat->Prop
 md:Nat->Md
structure ML (w:World)(L:List (Nat×ByteArray))(k:Nat)(d:Md):Prop where
 blk:∃h:Int,w.heap[k]?=some (.cells #[.slice d.p d.ws.length d.cap,VI h] 165)
 LV:xB w d.p d.g d.ws d.pl d.ws.length
 len:d.ws.length<=40
 Ru:∀i x,d.ws[i]?=some x->UO x.1=true->(d.pl i,VF x.1.sel)∈L
variable {w : World}
def ML.Vb {L:List (Nat×ByteArray)}{k:Nat}{d:Md}(h:ML w L k d):UL w k:=by obtain⟨h,e⟩:=h.blk;exact⟨_,_,e⟩
def ML.gk {L:List (Nat×ByteArray)}{k j:Nat}{d d':Md}(h:ML w L k d)(h':ML w L j d')(h1:1<=d'.ws.length):d'.g≠k:=by
 intro e;obtain⟨n,hb⟩:=h.blk
 obtain⟨x,hx⟩:∃x,d'.ws[0]?=some x:=⟨_,Z8 VH⟩
 have h0:=h'.LV.c0 0 x hx;rw[e]at h0;simp only[World.cell?,Yu,hb]at h0;cases h0
def Sm.weaken {bd:Nat}{L:List (Nat×ByteArray)}{pm:Nat->Mm}{Sd Cf:ByteArray->U1->Prop}(h:Sm bd w L pm Sd)(hS:∀p s r,(p,s)∈L->r∈(pm p).rows->Sd s r->Cf s r):Sm bd w L pm Cf:=
 ⟨h.b6,h.nd,h.at_,h.ok,λp s r hp hr=>hS p s r hp hr (h.rows p s r hp hr),h.arr⟩
variable {w' : World}
def ML.same {L:List (Nat×ByteArray)}{k:Nat}{d:Md}(h:ML w L k d)(hk:w'.heap[k]?=w.heap[k]?)(hg:1<=d.ws.length->w'.heap[d.g]?=w.heap[d.g]?):ML w' L k d:=by
 obtain⟨n,hb⟩:=h.blk;refine⟨⟨n,hk.trans hb⟩,?_,h.len,h.Ru⟩;by_cases h1:1<=d.ws.length
 . exact h.LV.same (hg h1)
 . exact alZ
structure Qr (w:World)(b:Nat)(K:Kc)(X:Nat->Prop)(Sd:ByteArray->U1->Prop)(Sr:U1->Prop):Prop where
 img:∃cur,w.heap[b]?=some (.cells cur 70)
 b5:w.cell? (VJ b 5)=some (.map (some K.sb))
 snd:Ux w K.sb K.l K.ps
 Ru:Sm K.np w K.L K.pm Sd
 reg:∀s p,Reg K.l K.ps s p->(p,s)∈K.L
 told:∀p s,(p,s)∈K.L->Reg K.l K.ps s p\/K.pm p=.only\/X p
 tab:TabAt w b K.n K.R
 rows:∀i,i<K.n->Sr (K.R i)
 mt:∀k,K.Mk k->ML w K.L k (K.md k)
 gq:∀k,K.Mk k->1<=(K.md k).ws.length->¬Vm K.L K.pm (K.md k).g
def Td (K:Kc)(k:Nat):Prop:=k=K.sb\/(∃s,K.l.lookup s=some (.map (some k)))\/Vm K.L K.pm k\/K.Mk k
def Qr.lt {b:Nat}{K:Kc}{X:Nat->Prop}{Sd:ByteArray->U1->Prop}{Sr:U1->Prop}(h:Qr w b K X Sd Sr){k:Nat}(hk:Td K k):k<w.heap.size:=by
 rcases hk with rfl|⟨s,e⟩|e|e
 . exact h.snd.map.lt
 . obtain⟨ib,e1,e2,_⟩:=h.snd.inn s _ e;injection e1 with e1;injection e1 with e1;subst e1;exact e2.lt
 . exact h.Ru.lt k e
 . exact(h.mt k e).Vb.lt
def Qr.weaken {b:Nat}{K:Kc}{X:Nat->Prop}{Sd Cf:ByteArray->U1->Prop}{Sr rh:U1->Prop}(h:Qr w b K X Sd Sr)(h1:∀s r,Sd s r->Cf s r)(h2:∀r,Sr r->rh r):Qr w b K X Cf rh:=
 ⟨h.img,h.b5,h.snd,h.Ru.weaken (λ_ s r _ _=>h1 s r),h.reg,h.told,h.tab,λi hi=>h2 _ (h.rows i hi),h.mt,h.gq⟩
def Qr.other {b:Nat}{K:Kc}{X:Nat->Prop}{Sd:ByteArray->U1->Prop}{Sr:U1->Prop}(h:Qr w b K X Sd Sr){k:Nat}{cs:Array Value}{t:TypeId}{fz:Nat×Nat}(hk:w.heap[k]?=some (.cells cs t fz))(h1:t≠198)(h2:t≠64)(h3:t≠165):¬Td K k:=by
 rintro(e|⟨s,e⟩|e|e)
 . obtain⟨_,_,hm,_⟩:=h.snd.map;rw[<- e,hk]at hm;cases hm
 . obtain⟨ib,e1,e2,_⟩:=h.snd.inn s _ e;injection e1 with e1;injection e1 with e1;subst e1;obtain⟨_,_,hm,_⟩:=e2;rw[hk]at hm;cases hm
 . exact TK h.Ru hk h1 h2 e
 . obtain⟨n,hb⟩:=(h.mt k e).blk;rw[hk]at hb;injection hb with hb;injection hb with _ hb _;exact h3 hb
def Qr.bn {b:Nat}{K:Kc}{X:Nat->Prop}{Sd:ByteArray->U1->Prop}{Sr:U1->Prop}(h:Qr w b K X Sd Sr):¬Td K b:=by
 obtain⟨cur,hc⟩:=h.img;exact h.other hc Vz Vz Vz
def Qr.gn {b:Nat}{K:Kc}{X:Nat->Prop}{Sd:ByteArray->U1->Prop}{Sr:U1->Prop}(h:Qr w b K X Sd Sr){k:Nat}(hk:K.Mk k)(h1:1<=(K.md k).ws.length):¬Td K (K.md k).g/\(K.md k).g≠b:=by
 have hm:=h.mt k hk;have hc:=hm.LV.Vb h1;refine⟨?_,λe=>?_⟩
 . rintro(e|e|e|e)
   . exact h.snd.ne hc (.inl e)
   . exact h.snd.ne hc (.inr e)
   . exact h.gq k hk h1 e
   . exact(h.mt _ e).gk hm h1 rfl
 . obtain⟨x,hx⟩:∃x,(K.md k).ws[0]?=some x:=⟨_,Z8 VH⟩
   have h0:=hm.LV.c5 0 x hx;rw[e]at h0;simp only[Yu,YU]at h0;rw[h.b5]at h0;cases h0
def Qr.dO {b:Nat}{K:Kc}{X:Nat->Prop}{Sd:ByteArray->U1->Prop}{Sr:U1->Prop}(h:Qr w b K X Sd Sr){k:Nat}{es:Array MapEntry}{ck:Nat}(hk:w.heap[k]?=some (.map es ck))(h1:k≠K.sb)(h2:∀s,K.l.lookup s≠some (.map (some k))):¬Td K k/\k≠b:=by
 refine⟨?_,λe=>?_⟩
 . rintro(e|⟨s,e⟩|e|e)
   . exact h1 e
   . exact h2 s e
   . exact TT h.Ru hk e
   . obtain⟨n,hb⟩:=(h.mt k e).blk;rw[hk]at hb;cases hb
 . obtain⟨cur,hc⟩:=h.img;rw[<- e,hk]at hc;cases hc
def Qr.same {b:Nat}{K:Kc}{X:Nat->Prop}{Sd:ByteArray->U1->Prop}{Sr:U1->Prop}(h:Qr w b K X Sd Sr)(hb:w'.heap[b]?=w.heap[b]?)(hk:∀k,Td K k->w'.heap[k]?=w.heap[k]?)(hg:∀k,K.Mk k->1<=(K.md k).ws.length->w'.heap[(K.md k).g]?=w.heap[(K.md k).g]?):Qr w' b K X Sd Sr:=by
 obtain⟨cur,hc⟩:=h.img;refine⟨⟨cur,hb.trans hc⟩,(Z9 hb).trans h.b5,⟨h.snd.map.same (hk _ NP),λs v hv=>?_,h.snd.inj,λs ib p hs hp=>?_⟩,h.Ru.same (λk e=>hk k EP),h.reg,h.told,h.tab.same hb,h.rows,λk e=>(h.mt k e).same (hk k aeg) (hg k e),h.gq⟩
 . obtain⟨ib,rfl,h4,h5⟩:=h.snd.inn s v hv;exact⟨ib,rfl,h4.same (hk _ (.inr (.inl ⟨s,hv⟩))),h5⟩
 . exact(h.snd.Vb s ib p hs hp).same (hk p (.inr (.inr (.inl ⟨p,s,h.reg s p ⟨ib,hs,hp⟩,.inl rfl⟩))))
def Qr.Ut {b:Nat}{K:Kc}{X:Nat->Prop}{Sd:ByteArray->U1->Prop}{Sr:U1->Prop}{S:Nat->Prop}(h:Qr w b K X Sd Sr)(hc:Vt w w' S)(hb:¬S b)(hk:∀k,Td K k->¬S k)(hg:∀k,K.Mk k->1<=(K.md k).ws.length->¬S (K.md k).g):Qr w' b K X Sd Sr:=
 h.same (hc.block b h.tab.Vb.lt hb) (λk e=>hc.block k (h.lt e) (hk k e)) (λk e h1=>hc.block _ ((h.mt k e).LV.Vb h1).lt (hg k e h1))
def Qr.below {b:Nat}{K:Kc}{X:Nat->Prop}{Sd:ByteArray->U1->Prop}{Sr:U1->Prop}(h:Qr w b K X Sd Sr)(hb:Below w.heap.size w w'):Qr w' b K X Sd Sr:=
 h.Ut (Vt.of_below hb (λ_=>False)) (λe=>e) (λ_ _ e=>e) (λ_ _ _ e=>e)
def wrap_one:Go.RowKit.wrap64 (0+1)<=1:=by unfold Go.RowKit.wrap64;omega
def uz {b:Nat}{K:Kc}{X:Nat->Prop}{Sd:ByteArray->U1->Prop}{Sr:U1->Prop}(h:Qr w b K X Sd Sr){k:Nat}(hk:K.Mk k)
 (hX:(∀p,¬X p)\/(w.cell? (VJ k 1)=some (VI 0)/\∀p,X p->∃i x,(K.md k).ws[i]?=some x/\UO x.1=true/\p=(K.md k).pl i)):
 Calls prog 82 #[VG b,VG k] w λe w'=>e=.returned (.tuple #[])/\∃l ps,Qr w' b {K with l:=l,ps:=ps} (λ_=>False) Sd Sr/\
  (∀s ib,l.lookup s=some (.map (some ib))->K.l.lookup s=some (.map (some ib))\/w.heap.size<=ib)/\Vt w w' (Td K):=by
 have hm:=h.mt k hk;obtain⟨n,hb⟩:=hm.blk;have hbk:b≠k:=λe=>h.bn (by rw[e];exact .inr x9);have hg1:1<=(K.md k).ws.length->(K.md k).g≠k:=λh1 e=>(h.gn hk h1).1 (by rw[e];exact .inr x9);by_cases hh:Go.RowKit.wrap64 (n+1)<=1
 . refine(AL b k K.sb (K.md k).g (K.md k).cap (K.md k).p (K.md k).ws (K.md k).pl K.l K.ps n w hm.len hh h.b5 h.tab.Vb hb hbk hg1 hm.LV (λi x hx hs=>h.Ru.Vb (hm.Ru i x hx hs)) h.snd).mono ?_;rintro e w' ⟨rfl,l,ps,hs',hnew,q_,hm',hch⟩
   have hch':Vt w w' (Td K):=hch.mono (λj _ e=>by
    rcases e with e|e|e
    . subst e;exact .inr x9
    . exact .inl e
    . exact .inr (.inl e))
   have hblk:∀j,UL w j->j≠k->w'.heap[j]?=w.heap[j]?:=λj hj hjk=>hch.block j hj.lt (λe=>by
    rcases e with e|e|e
    . exact hjk e
    . exact h.snd.ne hj (.inl e)
    . exact h.snd.ne hj (.inr e))
   have hbb:=hblk b h.tab.Vb hbk;have Z2:=TK h.Ru hb Vz Vz;obtain⟨cur,V_⟩:=h.img;refine⟨rfl,l,ps,⟨⟨cur,hbb.trans V_⟩,(Z9 hbb).trans h.b5,hs',h.Ru.same (λj hj=>hblk j ?_ akH),λs p hr=>?_,λp s hps=>?_,h.tab.same hbb,h.rows,λj hj=>?_,h.gq⟩,hnew,hch'⟩
   . rcases hj with⟨p,s,hps,e|e⟩
     . subst e;exact h.Ru.Vb hps
     . obtain⟨cr,hcr⟩:=h.Ru.Qz hps e;exact⟨_,_,hcr⟩
   . rcases (q_ s p).1 hr with e|⟨i,x,hx,xh,e1,e2⟩
     . exact h.reg s p e
     . subst e1 e2;exact hm.Ru i x hx xh
   . rcases h.told p s hps with e|e|e
     . exact .inl ((q_ s p).2 (.inl e))
     . exact .inr (.inl e)
     . rcases hX with hX|⟨_,hX⟩
       . exact absurd e (hX p)
       . obtain⟨i,x,hx,xh,rfl⟩:=hX p e;exact .inl ((q_ s _).2 (.inr ⟨i,x,hx,xh,h.Ru.one (hm.Ru i x hx xh) hps,rfl⟩))
   . by_cases e:j=k
     . subst e;have hgb:1<=(K.md j).ws.length->w'.heap[(K.md j).g]?=w.heap[(K.md j).g]?:=λh1=>hblk _ (hm.LV.Vb h1) (hg1 h1);have:=hm.same (w':=w') (k:=j) (d:=K.md j);refine⟨⟨_,hm'⟩,?_,hm.len,hm.Ru⟩;by_cases h1:1<=(K.md j).ws.length
       . exact hm.LV.same (hgb h1)
       . have hno:∀(i:Nat) (x:Kn.W×Nat),(K.md j).ws[i]?≠some x:=λi x hx=>by have:=(Z7.1 hx).1;omega
         exact aj7
     . exact(h.mt j hj).same (hblk j (h.mt j hj).Vb e) (λh1=>hblk _ ((h.mt j hj).LV.Vb h1) (λe'=>(h.gn hj h1).1 (by rw[e'];exact .inr x9)))
 . have ag:∀p,¬X p:=by
    rcases hX with hX|⟨h0,_⟩
    . exact hX
    . have:w.cell? (VJ k 1)=some (VI n):=by simp only[World.cell?,hb];rfl
      rw[this]at h0;injection h0 with h0;injection h0 with _ h0;subst h0;exact absurd wrap_one hh
   refine(au b k _ n w VH hb).mono ?_;rintro e w' ⟨rfl,rfl⟩;have hsk:∀j,j≠k->(w.setCell (VJ k 1) (VI (Go.RowKit.wrap64 (n+1)))).heap[j]?=w.heap[j]?:=λj hj=>ZW _ _ _ _ hj
   have hmk:ML (w.setCell (VJ k 1) (VI (Go.RowKit.wrap64 (n+1)))) K.L k (K.md k):=by
    refine⟨⟨Go.RowKit.wrap64 (n+1),by simp only[World.setCell,Zz,ZU,hb];rfl⟩,?_,hm.len,hm.Ru⟩;by_cases h1:1<=(K.md k).ws.length
    . exact hm.LV.same (hsk _ (hg1 h1))
    . have hno:∀(i:Nat) (x:Kn.W×Nat),(K.md k).ws[i]?≠some x:=λi x hx=>by have:=(Z7.1 hx).1;omega
      exact aj7
   obtain⟨cur,V_⟩:=h.img;have Z2:=TK h.Ru hb Vz Vz
   have hkc:UL w k:=⟨_,_,hb⟩
   refine⟨rfl,K.l,K.ps,⟨⟨cur,(hsk b hbk).trans V_⟩,(Z9 (hsk b hbk)).trans h.b5,h.snd.Ut ((Vt.refl w (λj=>j=k)).setCell _ _ (λ_=>rfl)) (λe=>h.snd.ne hkc tN) (λs ib hs e=>h.snd.ne hkc aj3) (λs ib q hs hq e=>by subst e;exact hkc.setCell _ _),h.Ru.same (λj hj=>hsk j akH),h.reg,λp s hps=>?_,h.tab.same (hsk b hbk),h.rows,λj hj=>?_,h.gq⟩,λs ib e=>.inl e,(Vt.refl w _).setCell _ _ (λ_=>.inr x9)⟩
   . rcases h.told p s hps with e|e|e
     . exact .inl e
     . exact .inr (.inl e)
     . exact absurd e (ag p)
   . by_cases e:j=k
     . subst e;exact hmk
     . exact(h.mt j hj).same (hsk j e) (λh1=>hsk _ (λe'=>(h.gn hj h1).1 (by rw[e'];exact .inr x9)))
def ML.homes {L:List (Nat×ByteArray)}{k:Nat}{d:Md}(hm:ML w L k d){n:Int}(hb:w'.heap[k]?=some (.cells #[.slice d.p d.ws.length d.cap,VI n] 165))(hg:1<=d.ws.length->w'.heap[d.g]?=w.heap[d.g]?):ML w' L k d:=by
 refine⟨⟨n,hb⟩,?_,hm.len,hm.Ru⟩;by_cases h1:1<=d.ws.length
 . exact hm.LV.same (hg h1)
 . exact alZ
def IX {b:Nat}{K:Kc}{Sd:ByteArray->U1->Prop}{Sr:U1->Prop}(h:Qr w b K (λ_=>False) Sd Sr){k:Nat}(hk:K.Mk k):
 Calls prog 83 #[VG b,VG k] w λe w'=>e=.returned (.tuple #[])/\∃l ps pm,Qr w' b {K with l:=l,ps:=ps,pm:=pm} (λ_=>False) Sd Sr/\
  (∀s ib,l.lookup s=some (.map (some ib))->K.l.lookup s=some (.map (some ib)))/\(∀p q,(pm p).arr=some q->(K.pm p).arr=some q)/\Vt w w' (Td K):=by
 have hm:=h.mt k hk;obtain⟨n,hb⟩:=hm.blk;have tD:Td K k:=.inr x9;have hbk:b≠k:=λe=>h.bn (by rw[e];exact tD);have hg1:1<=(K.md k).ws.length->(K.md k).g≠k:=λh1 e=>(h.gn hk h1).1 (by rw[e];exact tD);have Z2:=TK h.Ru hb Vz Vz
 have hkc:UL w k:=⟨_,_,hb⟩
 have hsk:∀v j,j≠k->(w.setCell (VJ k 1) v).heap[j]?=w.heap[j]?:=λv j hj=>ZW _ _ _ _ hj;obtain⟨cur,V_⟩:=h.img;by_cases hh:Go.RowKit.wrap64 (n-1)<=0
 . refine(Ap b k K.sb (K.md k).g (K.md k).cap (K.md k).p (K.md k).ws (K.md k).pl K.l K.ps K.L K.pm Sd n w hm.len hh h.b5 h.tab.Vb hb hbk hg1 hm.LV hm.Ru h.snd h.Ru).mono ?_;rintro e w' ⟨rfl,⟨l,ps,pm,ht⟩,hm'⟩;have hch:=((Vt.refl w (λj=>j=k\/j=K.sb\/(∃s,K.l.lookup s=some (.map (some j)))\/∃s,(j,s)∈K.L)).setCell _ _ Dx).then ht.Ut (λj _ e=>.inr e)
   have hch':=hch.mono (λj _ e=>by
    rcases e with e|e|e|⟨s,e⟩
    . subst e;exact tD
    . exact .inl e
    . exact .inr (.inl e)
    . exact .inr (.inr (.inl ⟨j,s,e,.inl rfl⟩)))
   have hbb:=hch'.block b h.tab.Vb.lt h.bn
   have vL:∀p,pm p=.only\/pm p=K.pm p:=λp=>by
    by_cases e:∃s,Sends (K.md k).ws (K.md k).pl (K.md k).ws.length s p
    . obtain⟨s,e⟩:=e;exact .inl (ht.only s p e)
    . exact .inr (ht.keep p (λs e'=>e ⟨s,e'⟩))
   have harr:∀p q,(pm p).arr=some q->(K.pm p).arr=some q:=λp q e=>by
    rcases vL p with e'|e'
    . rw[e']at e;cases e
    . rw[e']at e;exact e
   have hpb:∀j,Vm K.L pm j->Vm K.L K.pm j:=by
    rintro j ⟨p,s,hps,e|e⟩
    . exact lT
    . exact⟨p,s,hps,.inr (harr p j e)⟩
   refine⟨rfl,l,ps,pm,⟨⟨cur,hbb.trans V_⟩,(Z9 hbb).trans h.b5,ht.snd,ht.Ru,λs p hr=>h.reg s p ((ht.reg s p).1 hr).1,λp s hps=>?_,h.tab.same hbb,h.rows,λj hj=>?_,λj hj h1 e=>h.gq j hj h1 (hpb _ e)⟩,ht.sub,harr,hch'⟩
   . by_cases e:∃t,Sends (K.md k).ws (K.md k).pl (K.md k).ws.length t p
     . obtain⟨t,e⟩:=e;exact .inr (.inl (ht.only t p e))
     . rcases h.told p s hps with e1|e1|e1
       . exact .inl ((ht.reg s p).2 ⟨e1,λe'=>e ⟨s,e'⟩⟩)
       . rcases vL p with e'|e'
         . exact .inr (.inl e')
         . exact .inr (.inl (e'.trans e1))
       . exact e1.elim
   . have hgb:1<=(K.md j).ws.length->w'.heap[(K.md j).g]?=w.heap[(K.md j).g]?:=λh1=>hch'.block _ ((h.mt j hj).LV.Vb h1).lt (h.gn hj h1).1;by_cases e:j=k
     . subst e;exact hm.homes hm' hgb
     . refine(h.mt j hj).same (hch.block j (h.mt j hj).Vb.lt (λe'=>?_)) hgb;obtain⟨n',hb'⟩:=(h.mt j hj).blk;rcases e' with e'|e'|e'|⟨s,e'⟩
       . exact e e'
       . exact h.snd.ne (h.mt j hj).Vb (.inl e')
       . exact h.snd.ne (h.mt j hj).Vb (.inr e')
       . exact TK h.Ru hb' Vz Vz ⟨j,s,e',.inl rfl⟩
 . refine(kV b k 0 _ n w VH hb).mono ?_;rintro e w' ⟨rfl,rfl⟩;have hmk:=hm.homes (n:=Go.RowKit.wrap64 (n-1)) (by simp only[World.setCell,Zz,ZU,hb];rfl) (λh1=>hsk _ _ (hg1 h1));refine⟨rfl,K.l,K.ps,K.pm,⟨⟨cur,(hsk _ b hbk).trans V_⟩,(Z9 (hsk _ b hbk)).trans h.b5,h.snd.Ut ((Vt.refl w (λj=>j=k)).setCell _ _ (λ_=>rfl)) (λe=>h.snd.ne hkc tN) (λs ib hs e=>h.snd.ne hkc aj3) (λs ib q hs hq e=>by subst e;exact hkc.setCell _ _),h.Ru.same (λj hj=>hsk _ j akH),h.reg,h.told,h.tab.same (hsk _ b hbk),h.rows,λj hj=>?_,h.gq⟩,λs ib e=>e,λp q e=>e,(Vt.refl w _).setCell _ _ (λ_=>tD)⟩;by_cases e:j=k
   . subst e;exact hmk
   . exact(h.mt j hj).same (hsk _ j e) (λh1=>hsk _ _ (λe'=>(h.gn hj h1).1 (by rw[e'];exact tD)))
def Qr.forgot {b:Nat}{K:Kc}{Sd Cf:ByteArray->U1->Prop}{Sr rh:U1->Prop}(h:Qr w b K (λ_=>False) Sd Sr){T_:Nat->Mm}{R':Nat->U1}(hP:Sm K.np w' K.L T_ Cf)(hT:TabAt w' b K.n R')(hr:∀i,i<K.n->rh (R' i))
 (ho:∀p s,(p,s)∈K.L->K.pm p=.only->Reg K.l K.ps s p\/T_ p=.only) (ha:∀p q,(T_ p).arr=some q->(K.pm p).arr=some q) (hc:Vt w w' (λk=>k=b\/Vm K.L K.pm k)) (hd:UK w w' b):Qr w' b {K with pm:=T_,R:=R'} (λ_=>False) Cf rh:=by
 have hpb:∀j,Vm K.L T_ j->Vm K.L K.pm j:=by
  rintro j ⟨p,s,hps,e|e⟩
  . exact lT
  . exact⟨p,s,hps,.inr (ha p j e)⟩
 have hmap:∀(k:Nat) (es:Array MapEntry) (ck:Nat),w.heap[k]?=some (.map es ck)->w'.heap[k]?=w.heap[k]?:=λk es ck hk=>hc.block k (Z5.1 hk).1 (λe=>by
  rcases e with e|e
  . obtain⟨cur,V_⟩:=h.img;rw[<- e,hk]at V_;cases V_
  . exact TT h.Ru hk e)
 refine⟨hd.typ _ h.img,(hd.cell 5 VH).trans h.b5,⟨?_,λs v hv=>?_,h.snd.inj,λs ib p hs hp=>hP.Vb (h.reg s p ⟨ib,hs,hp⟩)⟩,hP,h.reg,λp s hps=>?_,hT,hr,λk hk=>?_,λk hk h1 e=>h.gq k hk h1 (hpb _ e)⟩
 . obtain⟨es,ck,hm,_⟩:=h.snd.map;exact h.snd.map.same (hmap _ _ _ hm)
 . obtain⟨ib,rfl,h4,h5⟩:=h.snd.inn s v hv;obtain⟨es,ck,hm,hx⟩:=id h4;exact⟨ib,rfl,h4.same (hmap _ _ _ hm),h5⟩
 . rcases h.told p s hps with e|e|e
   . exact .inl e
   . rcases ho p s hps e with e|e
     . exact .inl e
     . exact .inr (.inl e)
   . exact e.elim
 . have hm:=h.mt k hk;obtain⟨n,hb⟩:=hm.blk;refine hm.same (hc.block k hm.Vb.lt (λe=>?_)) (λh1=>hc.block _ (hm.LV.Vb h1).lt (λe=>?_))
   . rcases e with e|e
     . exact h.bn ak8
     . exact TK h.Ru hb Vz Vz e
   . rcases e with e|e
     . exact(h.gn hk h1).2 e
     . exact h.gq k hk h1 e
def tK {b:Nat}{K:Kc}{Sd:ByteArray->U1->Prop}{Sr:U1->Prop}(h:Qr w b K (λ_=>False) Sd Sr)(m:Im)(cb cm:Nat->Nat)(c0:Nat)(sel:ByteArray)(hm:U3 m)(hc0:c0<m.kl.length)(hcl:Cls w m cb cm)
 (hQ:∀s r,Sd s r->Nw m cb r/\r.sel=s) (hR:∀r,Sr r->Nw m cb r):
 Calls prog 84 #[VG b,VG (cb c0),.string sel] w λe w'=>e=.returned (.tuple #[])/\∃pm R,Qr w' b {K with pm:=pm,R:=R} (λ_=>False) (λs r=>Sd s r/\SI m cb c0 sel r=false) (λr=>(Sr r/\SI m cb c0 sel r=false)\/r=noRow)/\
  (∀p q,(pm p).arr=some q->(K.pm p).arr=some q)/\Vt w w' (λk=>k=b\/Vm K.L K.pm k)/\UK w w' b:=by
 obtain⟨cur,V_⟩:=h.img;refine(pV m cb cm b c0 K.sb K.n cur K.l K.ps K.R K.L K.pm Sd sel w hm hc0 V_ h.b5 h.snd h.tab hcl h.Ru h.reg (λs r hr=>(hQ s r hr).1) (λi hi=>hR _ (h.rows i hi))).mono ?_;rintro e w' ⟨rfl,T_,hP,hf1,hf2,hT,hch,hd⟩
 have ha:∀p q,(T_ p).arr=some q->(K.pm p).arr=some q:=λp q e=>by
  by_cases hr:Reg K.l K.ps sel p
  . rw[hf1 p hr]at e;rcases Mm.QH (SI m cb c0 sel) (K.pm p) with h1|h1
    . rw[h1]at e;cases e
    . rw[h1]at e;exact e
  . rw[hf2 p hr]at e;exact e
 refine⟨rfl,T_,_,h.forgot (hP.weaken (λp s r hps hr w_=>⟨w_,?_⟩)) hT (λi hi=>?_) (λp s hps e=>.inr ?_) ha hch hd,ha,hch,hd⟩
 . by_cases hg:Reg K.l K.ps sel p
   . rw[hf1 p hg]at hr;exact(Mm.KR hr).2
   . rw[hf2 p hg]at hr;rcases h.told p s hps with e|e|e
     . have hss:=(hQ s r w_).2;unfold SI;have:¬r.sel=sel:=λe'=>hg (by rw[<- e',hss];exact e);simp[this]
     . rw[e]at hr;cases hr
     . exact e.elim
 . by_cases e:i<K.n/\SI m cb c0 sel (K.R i)=true
   . rw[ZU e];exact .inr rfl
   . rw[ZX e];refine .inl ⟨h.rows i hi,?_⟩
     cases hl:SI m cb c0 sel (K.R i) with
     | false=>rfl
     | true=>exact absurd ⟨hi,hl⟩ e
 . by_cases hg:Reg K.l K.ps sel p
   . rw[hf1 p hg];exact Mm.Oq.2 e
   . rw[hf2 p hg];exact e
def agm (b c cm k:Nat)(had:Option Nat)(sel:ByteArray)(w w1:World)(P2 P3 R:World->Prop)(hc:w.cell? (VJ c 4)=some (.map (some cm)))
 (lk:(Instr.lookup 99 (.map (some cm)) (.string sel) false).run prog w=.ok (.pointer (Vq had)) w)
 (hrun:(Instr.mapUpdate 99 (.map (some cm)) (.string sel) (VG k)).run prog w=.ok () w1)
 (hadd:Calls prog 82 #[VG b,VG k] w1 λe w2=>e=.returned (.tuple #[])/\P2 w2)
 (h0:had=none->∀w2,P2 w2->P3 w2)
 (h1:∀k0,had=some k0->∀w2,P2 w2->Calls prog 83 #[VG b,VG k0] w2 λe w3=>e=.returned (.tuple #[])/\P3 w3)
 (hch:∀w3,P3 w3->Calls prog 84 #[VG b,VG c,.string sel] w3 λe w'=>e=.returned (.tuple #[])/\R w'):
 Calls prog 44 #[VG b,VG c,.string sel,VG k] w λe w'=>e=.returned (.tuple #[])/\R w':=by
 go_enter func44,ntmps44;go_wp2_with fail;refine hadd.mono ?_;rintro e w2 ⟨rfl,Fu⟩
 cases had with
 | none=>
  simp only[Vq,Zm];have hcall:=hch w2 (h0 rfl w2 Fu);go_wp2_with fail;refine hcall.mono ?_;rintro e w3 ⟨rfl,hR⟩;go_wp2
  go_end0
  exact⟨rfl,hR⟩
 | some k0=>
  simp only[Vq,ZG];have hcall:=h1 k0 rfl w2 Fu;go_wp2_with fail;refine hcall.mono ?_;rintro e w3 ⟨rfl,Fu⟩;have O_:=hch w3 Fu;go_wp2_with fail;refine O_.mono ?_;rintro e w4 ⟨rfl,hR⟩;go_wp2
  go_end0
  exact⟨rfl,hR⟩
def rE (b c cm k:Nat)(sel:ByteArray)(w w1:World)(P3 R:World->Prop)(hc:w.cell? (VJ c 4)=some (.map (some cm)))
 (lk:(Instr.lookup 99 (.map (some cm)) (.string sel) false).run prog w=.ok (VG k) w)
 (hrun:∀t2 ty,(Builtin.delete_ #[99,t2] ty #[.map (some cm),.string sel]).run prog w=.ok (.tuple #[]) w1)
 (h1:Calls prog 83 #[VG b,VG k] w1 λe w3=>e=.returned (.tuple #[])/\P3 w3)
 (hch:∀w3,P3 w3->Calls prog 84 #[VG b,VG c,.string sel] w3 λe w'=>e=.returned (.tuple #[])/\R w'):
 Calls prog 49 #[VG b,VG c,.string sel] w λe w'=>e=.returned (.tuple #[])/\R w':=by
 go_enter func49,ntmps49;go_wp2_with fail;refine h1.mono ?_;rintro e w2 ⟨rfl,Fu⟩;have hcall:=hch w2 Fu;go_wp2_with fail;refine hcall.mono ?_;rintro e w3 ⟨rfl,hR⟩;go_wp2
 go_end0
 exact⟨rfl,hR⟩
def Td.old {K:Kc}{l:List (ByteArray×Value)}{ps:Nat->List Nat}{pm:Nat->Mm}{R:Nat->U1}{N j:Nat}(h:Td {K with l:=l,ps:=ps,pm:=pm,R:=R} j) (hl:∀s ib,l.lookup s=some (.map (some ib))->K.l.lookup s=some (.map (some ib))\/N<=ib) (ha:∀p q,(pm p).arr=some q->(K.pm p).arr=some q\/N<=q):Td K j\/N<=j:=by
 rcases h with e|⟨s,e⟩|⟨p,s,hps,e|e⟩|e
 . exact .inl (.inl e)
 . rcases hl s j e with e|e
   . exact .inl (.inr (.inl ⟨s,e⟩))
   . exact .inr e
 . exact .inl (.inr (.inr (.inl lT)))
 . rcases ha p j e with e|e
   . exact .inl (.inr (.inr (.inl ⟨p,s,hps,.inr e⟩)))
   . exact .inr e
 . exact .inl aeg
variable {m : Im}
def Qr.vI {b:Nat}{K:Kc}{X:Nat->Prop}{Sd:ByteArray->U1->Prop}{Sr:U1->Prop}(h:Qr w b K X Sd Sr){cb cm:Nat->Nat}(hcl:Cls w m cb cm){c:Nat}(hc:c<m.kl.length):¬Td K (cb c)/\cb c≠b:=by
 have h1:=hcl.at_ c _ (Z8 hc);refine⟨h.other h1 Vz Vz Vz,λe=>?_⟩;obtain⟨cur,V_⟩:=h.img;rw[e,V_]at h1;exact acw
def Cls.meth {cb cm:Nat->Nat}(h:Cls w m cb cm){c:Nat}(hc:c<m.kl.length):w.cell? (VJ (cb c) 4)=some (.map (some (cm c))):=by
 have:=h.at_ c _ (Z8 hc);refine FK ?_;rfl
def Cls.Ut {cb cm:Nat->Nat}{S:Nat->Prop}(h:Cls w m cb cm)(hc:Vt w w' S)(hS:∀c,c<m.kl.length->¬S (cb c)):Cls w' m cb cm:=h.same (λc hcl=>hc.block _ (h.Vb hcl).lt (hS c hcl))
structure Kept (N:Nat)(K:Kc)(l:List (ByteArray×Value))(pm:Nat->Mm):Prop where
 l:∀s ib,l.lookup s=some (.map (some ib))->K.l.lookup s=some (.map (some ib))\/N<=ib
 arr:∀p q,(pm p).arr=some q->(K.pm p).arr=some q\/N<=q
def ru {b:Nat}{K:Kc}{X:Nat->Prop}{Sd:ByteArray->U1->Prop}{Sr:U1->Prop}(h:Qr w b K X Sd Sr)(m:Im)(cb cm:Nat->Nat)(c0 k:Nat)(sel:ByteArray)(lm:List (ByteArray×Value))(had:Option Nat)(hm:U3 m)(hc0:c0<m.kl.length)(hcl:Cls w m cb cm)
 (hlm:SMap w (cm c0) lm) (hcs:cm c0≠K.sb) (Ch:∀s,K.l.lookup s≠some (.map (some (cm c0)))) (hk:K.Mk k)
 (hX:(∀p,¬X p)\/(w.cell? (VJ k 1)=some (VI 0)/\∀p,X p->∃i x,(K.md k).ws[i]?=some x/\UO x.1=true/\p=(K.md k).pl i))
 (AG:lm.lookup sel=had.map (λk=>(VG k))) (cC:∀k0,had=some k0->K.Mk k0) (hQ:∀s r,Sd s r->Nw m cb r/\r.sel=s) (hR:∀r,Sr r->Nw m cb r):
 Calls prog 44 #[VG b,VG (cb c0),.string sel,VG k] w λe w'=>e=.returned (.tuple #[])/\∃l ps pm R,Qr w' b {K with l:=l,ps:=ps,pm:=pm,R:=R} (λ_=>False) (λs r=>Sd s r/\SI m cb c0 sel r=false) (λr=>(Sr r/\SI m cb c0 sel r=false)\/r=noRow)/\
  SMap w' (cm c0) (put lm sel (VG k))/\Kept w.heap.size K l pm/\Vt w w' (λj=>j=b\/j=cm c0\/Td K j)/\UK w w' b:=by
 have lk:=Je w (cm c0) lm hlm sel;have hlk:((lm.lookup sel).getD (.pointer none))=.pointer (Vq had):=by rw[AG];cases had<;>rfl
 rw[hlk]at lk;obtain⟨w1,hrun,hm1,hg1,hsz1⟩:=yj (P:=prog) hlm underlying99 underlying9 sel (VG k);refine ai5 ?_;intro es ck hmb _ Z1 W7 hc1 Sp;have hkm:k≠cm c0:=λe=>Z1 ak8;have hcn:∀c,c<m.kl.length->cb c≠cm c0:=λc hc=>UA (hcl.Vb hc) hlm;have Hn:=hcl.Ut hc1 hcn
 have hX1:(∀p,¬X p)\/(w1.cell? (VJ k 1)=some (VI 0)/\∀p,X p->∃i x,(K.md k).ws[i]?=some x/\UO x.1=true/\p=(K.md k).pl i):=by
  rcases hX with hX|⟨h1,h2⟩
  . exact .inl hX
  . exact .inr ⟨(Z9 (a:=(VJ k 1)) (hc1.block k (h.lt (.inr x9)) hkm)).trans h1,h2⟩
 have hmid:∀W l ps pm,Qr W b {K with l:=l,ps:=ps,pm:=pm} (λ_=>False) Sd Sr->Kept w.heap.size K l pm->Vt w1 W (λj=>Td K j)->Cls W m cb cm/\SMap W (cm c0) (put lm sel (VG k)):=by
  intro W l ps pm hW Z2 OP;exact⟨Hn.Ut OP (λc hc=>(Sp.vI Hn hc).1),hm1.same (OP.block _ hm1.lt Z1)⟩
 refine agm b (cb c0) (cm c0) k had sel w w1
  (λW=>∃l ps,Qr W b {K with l:=l,ps:=ps} (λ_=>False) Sd Sr/\Kept w.heap.size K l K.pm/\Vt w1 W (λj=>Td K j))
  (λW=>∃l ps pm,Qr W b {K with l:=l,ps:=ps,pm:=pm} (λ_=>False) Sd Sr/\Kept w.heap.size K l pm/\Vt w1 W (λj=>Td K j)) _ (hcl.meth hc0) lk hrun ?_ ?_ ?_ ?_
 . refine(uz Sp hk hX1).mono ?_;rintro e W ⟨rfl,l,ps,hW,hl,OP⟩;exact⟨rfl,l,ps,hW,⟨λs ib e=>by rw[<- hsz1];exact hl s ib e,λp q e=>.inl e⟩,OP⟩
 . rintro rfl W ⟨l,ps,hW,Z2,OP⟩;exact⟨l,ps,K.pm,hW,Z2,OP⟩
 . rintro k0 rfl W ⟨l,ps,hW,Z2,OP⟩;refine(IX hW (k:=k0) (cC k0 rfl)).mono ?_;rintro e W3 ⟨rfl,l3,nE,tA,hW3,hl3,Kp,hc3⟩;refine⟨rfl,l3,nE,tA,hW3,⟨λs ib e=>Z2.l s ib (hl3 s ib e),λp q e=>.inl (Kp p q e)⟩,OP.then hc3 (λj hj e=>?_)⟩;have hx:=Td.old (K:=K) (N:=w.heap.size) (l:=l) (ps:=ps) (pm:=K.pm) (R:=K.R) e Z2.l Z2.arr;rcases hx with hx|hx
   . exact hx
   . omega
 . rintro W ⟨l,ps,pm,hW,Z2,OP⟩;obtain⟨ut,pE⟩:=hmid W l ps pm hW Z2 OP;exact an8
def xE {b:Nat}{K:Kc}{Sd:ByteArray->U1->Prop}{Sr:U1->Prop}(h:Qr w b K (λ_=>False) Sd Sr)(m:Im)(cb cm:Nat->Nat)(c0 k:Nat)(sel:ByteArray)(lm:List (ByteArray×Value))(hm:U3 m)(hc0:c0<m.kl.length)(hcl:Cls w m cb cm)
 (hlm:SMap w (cm c0) lm) (hcs:cm c0≠K.sb) (Ch:∀s,K.l.lookup s≠some (.map (some (cm c0)))) (hk:K.Mk k)
 (AG:lm.lookup sel=some (VG k)) (hQ:∀s r,Sd s r->Nw m cb r/\r.sel=s) (hR:∀r,Sr r->Nw m cb r):
 Calls prog 49 #[VG b,VG (cb c0),.string sel] w λe w'=>e=.returned (.tuple #[])/\∃l ps pm R,Qr w' b {K with l:=l,ps:=ps,pm:=pm,R:=R} (λ_=>False) (λs r=>Sd s r/\SI m cb c0 sel r=false) (λr=>(Sr r/\SI m cb c0 sel r=false)\/r=noRow)/\
  SMap w' (cm c0) (del lm sel)/\Kept w.heap.size K l pm/\Vt w w' (λj=>j=b\/j=cm c0\/Td K j)/\UK w w' b:=by
 have lk:=Je w (cm c0) lm hlm sel;rw[AG]at lk;obtain⟨w1,hrun,hm1,hg1,hsz1⟩:=je (P:=prog) hlm underlying99 underlying9 sel 0 0;refine ai5 ?_;intro es ck hmb _ Z1 W7 hc1 Sp;have hcn:∀c,c<m.kl.length->cb c≠cm c0:=λc hc=>UA (hcl.Vb hc) hlm;have Hn:=hcl.Ut hc1 hcn
 refine rE b (cb c0) (cm c0) k sel w w1
  (λW=>∃l ps pm,Qr W b {K with l:=l,ps:=ps,pm:=pm} (λ_=>False) Sd Sr/\Kept w.heap.size K l pm/\Vt w1 W (λj=>Td K j)) _ (hcl.meth hc0) lk (λ_ _=>hrun) ?_ ?_
 . refine(IX Sp hk).mono ?_;rintro e W3 ⟨rfl,l3,nE,tA,hW3,hl3,Kp,hc3⟩;exact⟨rfl,l3,nE,tA,hW3,⟨λs ib e=>.inl (hl3 s ib e),λp q e=>.inl (Kp p q e)⟩,hc3⟩
 . rintro W ⟨l,ps,pm,hW,Z2,OP⟩;have ut:=Hn.Ut OP (λc hc=>(Sp.vI Hn hc).1);have pE:=hm1.same (OP.block _ hm1.lt Z1);exact an8
end Go.Proofs.Rz
namespace Go.Proofs.Rz
open ChangeShapes WideShapes ChangeAt RowKit Kn Iz Tryz
variable {bd : Nat}
def agC {w:World}{p q:Nat}(hp:UL w p)(hq:UL w q):(binOp .neq 57 (VG p) (VG q)).run prog w=.ok (.bool (!decide (p=q))) w:=by
 have hs:=BF
 cases hi:prog.info? 101 with
 | none=>rw[hi]at hs;cases hs
 | some i=>
  exact amy
def agv (q:Nat)(w:World):(binOp .neq 57 (.pointer none) (VG q)).run prog w=.ok (.bool true) w:=VE
noncomputable def Tj (m:Im) (cb:Nat->Nat) (c0:Nat) (r:U1):Bool:=Hg m cb c0 r&&!decide (r.hm=some (VJ (cb c0) 0))
def abn (m:Im)(cb cm:Nat->Nat)(c0:Nat)(x:Nat)(hm:U3 m)(hc0:c0<m.kl.length):
 Ih 103 #[VG x] (Tj m cb c0) (λW=>W.cell? (VJ x 0)=some ((VG (cb c0)))/\Cls W m cb cm) (Nw m cb):=by
 refine⟨λargs W=>lK,λW r hW hr=>?_⟩;obtain⟨hx,hw⟩:=hW;have hxl:=ZE W (VJ x 0) hx;show Calls _ _ #[_,_] _ _;obtain⟨v,hv⟩:∃v,Tj m cb c0 r=v:=Vx;rw[hv];refine ajs ?_;intro hcall
 cases DP:Hg m cb c0 r with
 | false=>
  have vi:v=false:=by rw[<- hv];simp[Tj,DP]
  subst vi;rw[DP]at hcall;unfold U1.val at hcall ⊢;clear hv hw hr DP;go_enter func103,ntmps103;go_wp2_with fail;refine hcall.mono ?_;rintro e w1 ⟨rfl,hb1⟩;have HB:=UQ alz;clear hb1 hcall;go_wp2
  go_ret
  exact agl
 | true=>
  obtain⟨d,hd,Ga⟩:∃d:Option Nat,(∀x,d=some x->x<m.kl.length)/\r.hm=Vq (d.map cb):=by
   rcases hr with h|rfl
   . exact h.hm
   . exact⟨none,λx hx=>(by cases hx),rfl⟩
  rw[DP]at hcall;have hvv:v=!decide (r.hm=some (VJ (cb c0) 0)):=by rw[<- hv];simp[Tj,DP]
  have hcc:=hw.Vb hc0;have sY:∀y,d=some y->UL W (cb y):=λy hy=>hw.Vb (hd y hy);unfold U1.val at hcall ⊢;rw[Ga]at hcall hvv ⊢;have hcx:=(Z4 W (.cells #[.pointer r.fr,.string r.sel,.pointer (Vq (d.map cb)),.pointer r.mt] 64)).1;clear hv hw hr DP Ga;go_enter func103,ntmps103;go_wp2_with fail;refine hcall.mono ?_;rintro e w1 ⟨rfl,hb1⟩;have HB:=UQ alz
  have z2:w1.cell? (VJ W.heap.size 2)=some (.pointer (Vq (d.map cb))):=by
   refine(hb1.cell (p:=(VJ W.heap.size 2)) Vy).trans ?_;simp only[World.cell?,hcx];rfl
  have x1:=(HB.o.cell (p:=(VJ x 0)) hxl).trans hx;have hc1:=hcc.same (HB.o.block _ hcc.lt)
  cases d with
  | none=>
   have hvt:v=true:=by rw[hvv];rfl
   subst hvt;have F2:Vq ((none:Option Nat).map cb)=none:=rfl;rw[F2]at z2 ⊢;clear hb1 hcall hvv hx hcx;have hnn:=agv (cb c0) w1;go_wp2
   go_ret
   exact agl
  | some y=>
   have hy1:=(sY y rfl).same (HB.o.block _ (sY y rfl).lt);have F2:Vq ((some y:Option Nat).map cb)=some (VJ (cb y) 0):=rfl;have n6:=agC hy1 hc1;rw[F2]at z2 hvv ⊢;have cX:v=!decide (cb y=cb c0):=by rw[hvv];simp
   rw[<- cX]at n6;clear hb1 hcall hvv hx hcx cX hc1 hy1 sY;go_wp2
   go_ret
   exact agl
def yU (ib:Nat)(ps:List Nat)(L:List (Nat×ByteArray))(pm:Nat->Mm)(Sd:ByteArray->U1->Prop)(w:World)(h:LX w ib ps)(hL:∀p∈ps,∃s,(p,s)∈L)(hP:Sm bd w L pm Sd):
 Calls prog 69 #[.map (some ib)] w λe w'=>e=.returned (.tuple #[])/\∃T_,Sm bd w' L T_ Sd/\(∀p∈ps,T_ p=.no)/\(∀p,p ∉ ps->T_ p=pm p)/\Vt w w' (Vm L pm):=by
 obtain⟨es,clock,hb,GG,Ww,hnd⟩:=h;have hrg:=Wq (P:=prog) w 138 _ _ ib es clock underlying138 hb;have hnb:=TT hP hb;have hbl:=(Z5.1 hb).1;have eV:Hid _:=hP;have nh:=UQ hP.lt;clear hP;go_enter func69,ntmps69;go_wp2
 go_loopw [5] (λ_ wr=>∃seen T_,wr.heap[w.heap.size]?=some (.mapIter (some ib) clock seen clock)/\Sm bd wr L T_ Sd/\(∀e∈es.toList,∀p,e.key=TM p->seen.contains e.born=true->T_ p=.no)/\(∀p,T_ p=pm p\/(p∈ps/\T_ p=.no))/\Vt w wr (Vm L pm)) (λ_ wr=>(leftOf es (wr.iterSeen w.heap.size)).size)
 case atStart=>
  exact ao8
 case round=>
  obtain⟨seen,T_,hit,hpl,hdone,WK,hch⟩:=hrel;have hbr:=(hch.block ib hbl hnb).trans hb;rcases VO (P:=prog) wr 0 w.heap.size ib clock clock seen es clock hit hbr (λx hx=>Ww.1 x hx) UM with⟨hl0,hnx⟩|⟨en,hen,w1,hw1,hnx⟩
  . have HC:Hid (∃T_,Sm bd wr L T_ Sd/\(∀p∈ps,T_ p=.no)/\(∀p,p ∉ ps->T_ p=pm p)/\Vt w wr (Vm L pm)):=by
     have hx1:∃T_,Sm bd wr L T_ Sd/\(∀p∈ps,T_ p=.no)/\(∀p,p ∉ ps->T_ p=pm p)/\Vt w wr (Vm L pm):=by
      exact aoa
     exact hx1
    clear hpl hdone WK hch hrg;go_wp2
    go_end0
    exact⟨rfl,HC.o⟩
  . refine agV ?_;intro UB q hq Fy s UX i1 i2 i3 i4;obtain⟨W2,hW2⟩:∃W2,W2=ChangeMaps.setBlock w1 w.heap.size (.mapIter (some ib) clock (seen.push en.born) clock):=Vx;rw[<- hW2]at i1 i2 i3 i4 hnx;clear hW2;have hib:ib≠w.heap.size:=VH;have hent:=VX (P:=prog) W2 w.heap.size ib clock seen es clock en i1 ((i2 ib hib).trans hbr) UB Ww.2;rw[Fy,TM]at hnx hent
    have Qt:∀k,Vm L T_ k->Vm L pm k:=by
     rintro k ⟨p,s',hps,e|e⟩
     . exact⟨p,s',hps,.inl e⟩
     . refine⟨p,s',hps,.inr ?_⟩;rcases WK p with h|⟨_,h⟩
       . rw[h]at e;exact e
       . rw[h]at e;cases e
    refine ahC ?_;intro hne HL HS m_ Wz;have FL:=hne q ⟨q,s,UX,.inl rfl⟩;have hat:=m_.at_ q s UX;have c0:W2.cell? (VJ q 0)=some (T_ q).val:=by simp only[World.cell?,hat];rfl
    have cf:=λo=>(m_.Vb UX).free o
    have HF:Hid (∃seen Tb,(W2.setCell (VJ q 0) Mm.no.val).heap[w.heap.size]?=some (.mapIter (some ib) clock seen clock)/\Sm bd (W2.setCell (VJ q 0) Mm.no.val) L Tb Sd/\(∀e∈es.toList,∀p,e.key=TM p->seen.contains e.born=true->Tb p=.no)/\(∀p,Tb p=pm p\/(p∈ps/\Tb p=.no))/\Vt w (W2.setCell (VJ q 0) Mm.no.val) (Vm L pm)):=by
     have hx1:∃seen Tb,(W2.setCell (VJ q 0) Mm.no.val).heap[w.heap.size]?=some (.mapIter (some ib) clock seen clock)/\Sm bd (W2.setCell (VJ q 0) Mm.no.val) L Tb Sd/\(∀e∈es.toList,∀p,e.key=TM p->seen.contains e.born=true->Tb p=.no)/\(∀p,Tb p=pm p\/(p∈ps/\Tb p=.no))/\Vt w (W2.setCell (VJ q 0) Mm.no.val) (Vm L pm):=by
      refine⟨seen.push en.born,λk=>if k=q then .no else T_ k,(ZW _ _ _ _ (λe=>FL e.symm)).trans i1,Sm.store (W3:=W2) m_ UX (m:=.no) (Vt.refl _ _) trivial oV (λr hr=>by cases hr) (λa ha=>by cases ha) (λa ha=>by cases ha),λe he p I1 hc=>?_,λp=>?_,Wz.setCell _ _ (λ_=>⟨q,s,UX,.inl rfl⟩)⟩
      . rw[contains_push]at hc;by_cases e1:p=q
        . simp only[e1,Y6]
        . simp only[e1,Zg];refine hdone e he p I1 ?_
          cases hcs:seen.contains e.born with
          | true=>rfl
          | false=>
           exact amW
      . by_cases e1:p=q
        . simp only[e1,Y6];exact .inr ⟨hq,by trivial⟩
        . simp only[e1,Zg];exact WK p
     exact hx1
    have pT:Hid ((W2.setCell (VJ q 0) Mm.no.val).iterSeen w.heap.size=seen.push en.born):=by
     have hx1:(W2.setCell (VJ q 0) Mm.no.val).iterSeen w.heap.size=seen.push en.born:=by
      unfold World.iterSeen;rw[(ZW _ _ _ _ (λe=>FL e.symm)).trans i1]
     exact hx1
    unfold Mm.val at HF pT;clear hpl hdone WK hch hrg i2 i4 hbr hit hen UB hw1 m_ Wz Qt hne hat Fy;go_wp2
    go_roundw
    case rel=>exact HF.o
    case measure=>
     rw[pT.o,HS.o];exact HL.o
def bU (w:World):Calls prog 69 #[.map none] w λe w'=>e=.returned (.tuple #[])/\Below w.heap.size w w':=by
 have hrg:=run_range_nilMap (P:=prog) w 138 _ _ underlying138;have hnx:=run_next_nilMap (P:=prog) w 0 0 0 #[];go_enter func69,ntmps69;go_wp2;refine wp_loop_rounds 1 ?_;rw[rounds_succ];go_wp2
 go_end0
 exact zt6
structure Done (u:Mm->Mm)(es:Array MapEntry)(l:List (ByteArray×Value))(ps:Nat->List Nat)(pm:Nat->Mm)(seen:Array Nat)(T_:Nat->Mm):Prop where
 all:∀e∈es.toList,∀ib,e.val=.map (some ib)->seen.contains e.born=true->∀p∈ps ib,T_ p=u (pm p)
 each:∀p,T_ p=pm p\/(T_ p=u (pm p)/\∃s,Reg l ps s p)
def Done.start (u:Mm->Mm)(es:Array MapEntry)(l:List (ByteArray×Value))(ps:Nat->List Nat)(pm:Nat->Mm):Done u es l ps pm #[] pm:=⟨λe _ ib _ hc=>by simp at hc,λp=>.inl rfl⟩
def Done.blk {u:Mm->Mm}{es:Array MapEntry}{l:List (ByteArray×Value)}{ps:Nat->List Nat}{pm T_:Nat->Mm}{seen:Array Nat}(h:Done u es l ps pm seen T_)(hu:∀x q,(u x).arr=some q->x.arr=some q){L:List (Nat×ByteArray)}{k:Nat}(hk:Vm L T_ k):Vm L pm k:=by
 obtain⟨p,s,hps,e|e⟩:=hk
 . exact lT
 . refine⟨p,s,hps,.inr ?_⟩;rcases h.each p with h1|⟨h1,_⟩
   . rw[h1]at e;exact e
   . rw[h1]at e;exact hu _ _ e
def Done.step {u:Mm->Mm}{es:Array MapEntry}{clock:Nat}{l:List (ByteArray×Value)}{ps:Nat->List Nat}{pm T_ By:Nat->Mm}{seen:Array Nat}(h:Done u es l ps pm seen T_)(hu:∀x,u (u x)=u x)(Ww:Born es clock){en:MapEntry}(UB:en∈es.toList){s:ByteArray}{ib:Nat}(hv:en.val=.map (some ib))(hl:l.lookup s=some (.map (some ib)))
 (h1:∀p∈ps ib,By p=u (T_ p)) (h2:∀p,p ∉ ps ib->By p=T_ p):Done u es l ps pm (seen.push en.born) By:=by
 have UI:∀p∈ps ib,By p=u (pm p):=λp hp=>by
  rw[h1 p hp];rcases h.each p with e|⟨e,_⟩
  . rw[e]
  . rw[e,hu]
 refine⟨λe he jb yb hc p hp=>?_,λp=>?_⟩
 . by_cases hpi:p∈ps ib
   . exact UI p hpi
   . rw[h2 p hpi];refine h.all e he jb yb ?_ p hp;rw[contains_push]at hc
     cases hcs:seen.contains e.born with
     | true=>rfl
     | false=>
      rw[hcs,WY]at hc;refine ahc ?_;intro Ss tQ;rw[tQ,hv]at yb;injection yb with yb;injection yb with yb;subst yb;exact absurd hp hpi
 . by_cases hpi:p∈ps ib
   . exact .inr ⟨UI p hpi,s,ib,hl,hpi⟩
   . rw[h2 p hpi];exact h.each p
def Done.finish {u:Mm->Mm}{es:Array MapEntry}{l:List (ByteArray×Value)}{ps:Nat->List Nat}{pm T_:Nat->Mm}{seen:Array Nat}(h:Done u es l ps pm seen T_)(hl:Holds es l)(h0:(leftOf es seen).size=0):(∀s p,Reg l ps s p->T_ p=u (pm p))/\(∀p,(∀s,¬Reg l ps s p)->T_ p=pm p):=by
 refine⟨λs p ⟨ib,hs,hp⟩=>?_,λp hp=>?_⟩
 . have hm:=jX hs;have:(Value.string s,Value.map (some ib))∈es.toList.map (λe=>(e.key,e.val)):=by rw[hl];exact Zy.2 ⟨_,hm,rfl⟩
   obtain⟨e,he,hev⟩:=Zy.1 this;injection hev with _ hev;exact h.all e he ib hev (zy h0 he) p hp
 . rcases h.each p with e|⟨_,s,e⟩
   . exact e
   . exact absurd e (hp s)
def yX {w:World}{sb:Nat}{l:List (ByteArray×Value)}{ps:Nat->List Nat}(h:Ux w sb l ps){es:Array MapEntry}(hl:Holds es l)(hu:Uniq l){en:MapEntry}(UB:en∈es.toList):∃s ib,en.key=.string s/\en.val=.map (some ib)/\l.lookup s=some (.map (some ib))/\LX w ib (ps ib):=by
 have:(en.key,en.val)∈l.map (λp=>(Value.string p.1,p.2)):=by rw[<- hl];exact Zy.2 ⟨en,UB,rfl⟩
 obtain⟨⟨s,v⟩,hm,e⟩:=Zy.1 this;injection e with e1 e2;have hlk:=oH hu hm;obtain⟨ib,rfl,h4,_⟩:=h.inn s v hlk;exact⟨s,ib,e1.symm,e2.symm,hlk,h4⟩
def dD (m:Im)(cb cm:Nat->Nat)(b c0 sb n:Nat)(cur:Array Value)(l:List (ByteArray×Value))(ps:Nat->List Nat)(R:Nat->U1)(L:List (Nat×ByteArray))(pm:Nat->Mm)(Sd:ByteArray->U1->Prop)(w:World)(hm:U3 m)(hc0:c0<m.kl.length)
 (S3:w.heap[b]?=some (.cells cur 70)) (hb:w.cell? (VJ b 5)=some (.map (some sb))) (hs:Ux w sb l ps) (ht:TabAt w b n R) (hcl:Cls w m cb cm) (hP:Sm bd w L pm Sd) (q_:∀s p,Reg l ps s p->(p,s)∈L)
 (hQ:∀s r,Sd s r->Nw m cb r) (hr:∀i,i<n->Nw m cb (R i)):
 Calls prog 66 #[VG b,VG (cb c0)] w λe w'=>e=.returned (.tuple #[])/\∃T_,Sm bd w' L T_ Sd/\(∀s p,Reg l ps s p->T_ p=(pm p).forget (Tj m cb c0))/\(∀p,(∀s,¬Reg l ps s p)->T_ p=pm p)/\
  TabAt w' b n (λi=>if i<n/\Tj m cb c0 (R i)=true then noRow else R i)/\Vt w w' (λk=>k=b\/Vm L pm k)/\UK w w' b:=by
 have hbl:=ht.Vb.lt;have Ww:=TK hP S3 Vz Vz
 have DE:∀c,c<m.kl.length->¬Vm L pm (cb c)/\cb c≠b:=λc hc=>by
  exact anY
 have Rr:=hP.lt;obtain⟨es,clock,hmb,uR,Q0,hun⟩:=id hs.map;have hsl:=hs.map.lt;have RE:=TT hP hmb;refine aiF ?_;intro HS HN;clear hs ht hcl hP q_ Ww DE Rr S3;go_enter func66,ntmps66;have hz0:(w.alloc (.cells #[VG (cb c0)] 57)).heap[w.heap.size]?=some (.cells #[VG (cb c0)] 57):=(Z4 w _).1;have hb0:(w.alloc (.cells #[VG (cb c0)] 57)).cell? (VJ b 5)=some (.map (some sb)):=UG;have hsz0:(w.alloc (.cells #[VG (cb c0)] 57)).heap.size=w.heap.size+1:=Vy;have rx:(w.alloc (.cells #[VG (cb c0)] 57)).heap[sb]?=some (.map es clock):=(ZV _ _ _ hsl).trans hmb;have hrg:=Wq (P:=prog) (w.alloc (.cells #[VG (cb c0)] 57)) 56 _ _ sb es clock underlying56 rx;rw[hsz0]at hrg;have sy:Hid (Vt w ((w.alloc (.cells #[VG (cb c0)] 57)).alloc (.mapIter (some sb) clock #[] clock)) (Vm L pm)):=((Vt.refl w _).alloc _).alloc _
 have aM:Hid (((w.alloc (.cells #[VG (cb c0)] 57)).alloc (.mapIter (some sb) clock #[] clock)).heap[w.heap.size+1]?=some (.mapIter (some sb) clock #[] clock)):=by
  have hx1:=(Z4 (w.alloc (.cells #[VG (cb c0)] 57)) (.mapIter (some sb) clock #[] clock)).1;rw[hsz0]at hx1;exact hx1
 have FO:Hid (((w.alloc (.cells #[VG (cb c0)] 57)).alloc (.mapIter (some sb) clock #[] clock)).cell? (VJ w.heap.size 0)=some ((VG (cb c0)))):=by
  have hx1:((w.alloc (.cells #[VG (cb c0)] 57)).alloc (.mapIter (some sb) clock #[] clock)).cell? (VJ w.heap.size 0)=some ((VG (cb c0))):=by
   refine(Z9 (a:=(VJ w.heap.size 0)) aj8).trans ?_;simp only[World.cell?,hz0];rfl
  exact hx1
 clear hz0 hsz0 rx;go_wp2;have huu:∀x,Mm.forget (Tj m cb c0) (Mm.forget (Tj m cb c0) x)=Mm.forget (Tj m cb c0) x:=Mm.Ig _
 have Bt:∀x q,(Mm.forget (Tj m cb c0) x).arr=some q->x.arr=some q:=λx q e=>by
  rcases Mm.QH (Tj m cb c0) x with h1|h1
  . rw[h1]at e;cases e
  . rw[h1]at e;exact e
 clear hrg hb0
 go_loopw [13] (λ_ wr=>∃seen T_,wr.heap[w.heap.size+1]?=some (.mapIter (some sb) clock seen clock)/\Sm bd wr L T_ Sd/\Done (Mm.forget (Tj m cb c0)) es l ps pm seen T_/\Vt w wr (Vm L pm)/\wr.cell? (VJ w.heap.size 0)=some ((VG (cb c0)))) (λ_ wr=>(leftOf es (wr.iterSeen (w.heap.size+1))).size)
 case atStart=>
  exact⟨#[],pm,aM.o,HS.o.2.2.2.1.same (λk hk=>(ZV _ _ _ (by simp;have:=HN.o.2.2 k hk;omega)).trans (ZV _ _ _ (HN.o.2.2 k hk))),Done.start _ _ _ _ _,sy.o,FO.o⟩
 case round=>
  obtain⟨seen,T_,hit,hpl,ZS,hch,hx0⟩:=hrel;have hbr:=(hch.block sb hsl RE).trans hmb
  have H_:∀W,Vt wr W (λk=>k=b\/Vm L pm k\/k=w.heap.size+1)->W.cell? (VJ w.heap.size 0)=some ((VG (cb c0)))/\Cls W m cb cm:=by
   intro W hW;have hxl:=ZE wr (VJ w.heap.size 0) hx0;refine⟨(Z9 (a:=(VJ w.heap.size 0)) (hW.block _ hxl (λe=>?_))).trans hx0,?_⟩
   . rcases e with e|e|e
     . simp only at e;omega
     . have:=HN.o.2.2 _ e;simp only at this;omega
     . simp only at e;omega
   . refine HS.o.2.2.1.same (λc hc=>?_);have hlt:=(HS.o.2.2.1.Vb hc).lt;refine(hW.block _ (ZY hlt hch.size) (λe=>?_)).trans (hch.block _ hlt (HN.o.2.1 c hc).1);rcases e with e|e|e
     . exact(HN.o.2.1 c hc).2 e
     . exact(HN.o.2.1 c hc).1 e
     . omega
  rcases VO (P:=prog) wr 0 (w.heap.size+1) sb clock clock seen es clock hit hbr (λx hx=>Q0.1 x hx) UM with⟨hl0,hnx⟩|⟨en,hen,w1,hw1,hnx⟩
  . have htr:=HS.o.2.1.same (hch.block b hbl HN.o.1);have htab:=GX b n _ _ _ _ (Nw m cb) R wr (abn m cb cm c0 w.heap.size hm hc0) hr (λW hW=>H_ W (hW.mono jJ)) htr
    have HC:Hid (Sm bd wr L T_ Sd/\Done (Mm.forget (Tj m cb c0)) es l ps pm seen T_/\Vt w wr (Vm L pm)/\(leftOf es seen).size=0):=⟨hpl,ZS,hch,hl0⟩
    clear hpl ZS hch H_ htr hit hbr hx0;go_wp2_with fail;refine htab.mono ?_;rintro e w3 ⟨rfl,Ks,hc3,hd3⟩
    have HE:Hid (TabAt w3 b n (λi=>if i<n/\Tj m cb c0 (R i)=true then noRow else R i)/\Vt wr w3 (λk=>k=b)/\UK wr w3 b):=⟨Ks,hc3,hd3⟩
    clear Ks hc3 hd3 htab;go_wp2
    go_end0
    obtain⟨hpl,ZS,hch,hl0⟩:=HC.o;obtain⟨Ks,hc3,hd3⟩:=HE.o;obtain⟨hf1,hf2⟩:=ZS.finish uR hl0;refine⟨rfl,T_,hpl.same (λk hk=>hc3.block k (ZY (HN.o.2.2 k (ZS.blk Bt hk)) hch.size) (λe=>?_)),hf1,hf2,Ks,(hch.mono lF).then hc3 jJ,(UK.of_block (hch.block b hbl HN.o.1)).trans hd3⟩;subst e;exact HN.o.1 (ZS.blk Bt hk)
  . have UB:=(mem_left hen).1;obtain⟨s,ib,zP,hev,hls,Wb⟩:=yX HS.o.1 uR hun UB;obtain⟨i1,i2,i3,i4⟩:=Gw (o':=.mapIter (some sb) clock (seen.push en.born) clock) hw1 hit;obtain⟨W2,hW2⟩:∃W2,W2=ChangeMaps.setBlock w1 (w.heap.size+1) (.mapIter (some sb) clock (seen.push en.born) clock):=Vx;rw[<- hW2]at i1 i2 i3 i4 hnx;clear hW2;have hent:=VX (P:=prog) W2 (w.heap.size+1) sb clock seen es clock en i1 ((i2 sb VH).trans hbr) UB Q0.2;rw[zP,hev]at hnx hent;have m_:=hpl.same (λk hk=>i2 k (λe=>by have:=HN.o.2.2 k (ZS.blk Bt hk);omega))
    have B_:LX W2 ib (ps ib):=by
     obtain⟨es',db,hx,_⟩:=id Wb;refine Wb.same ((i2 ib (λe=>by have:=Wb.lt;omega)).trans (hch.block ib Wb.lt (TT HS.o.2.2.2.1 hx)))
    have hcall:=Fb ib 103 #[VG w.heap.size] (ps ib) (Tj m cb c0) _ (Nw m cb) L T_ Sd W2 B_ (λp hp=>⟨s,HS.o.2.2.2.2 s p ⟨ib,hls,hp⟩⟩) m_ (abn m cb cm c0 w.heap.size hm hc0) hQ (λW hW=>H_ W ((i4.mono (λk _ e=>.inr (.inr e))).then hW (λk _ e=>.inr (.inl (ZS.blk Bt e)))));have HL:=UQ akj
    have Fo:Hid (wr.iterSeen (w.heap.size+1)=seen):=by
     have hx1:wr.iterSeen (w.heap.size+1)=seen:=alW;exact hx1
    have HC:Hid (Done (Mm.forget (Tj m cb c0)) es l ps pm seen T_/\Vt w W2 (Vm L pm)/\W2.heap[w.heap.size+1]?=some (.mapIter (some sb) clock (seen.push en.born) clock)/\en∈es.toList/\en.val=.map (some ib)/\l.lookup s=some (.map (some ib))/\(∀W,Vt wr W (λk=>k=b\/Vm L pm k\/k=w.heap.size+1)->W.cell? (VJ w.heap.size 0)=some ((VG (cb c0)))/\Cls W m cb cm)/\Vt wr W2 (λk=>k=w.heap.size+1)):=⟨ZS,hch.then i4 aK,i1,UB,hev,hls,H_,i4⟩
    clear hpl ZS hch H_ hit hbr hx0 i1 i2 i3 i4 m_ B_ hen UB hw1 hev hls zP Wb;go_wp2_with fail;refine hcall.mono ?_;rintro e w3 ⟨rfl,By,hp2,hf1,hf2,hc3⟩
    have HE:Hid (∃seen T_,w3.heap[w.heap.size+1]?=some (.mapIter (some sb) clock seen clock)/\Sm bd w3 L T_ Sd/\Done (Mm.forget (Tj m cb c0)) es l ps pm seen T_/\Vt w w3 (Vm L pm)/\w3.cell? (VJ w.heap.size 0)=some ((VG (cb c0)))):=by
     obtain⟨ZS,Wz,i1,UB,hev,hls,H_,i4⟩:=HC.o
     have hx1:∃seen T_,w3.heap[w.heap.size+1]?=some (.mapIter (some sb) clock seen clock)/\Sm bd w3 L T_ Sd/\Done (Mm.forget (Tj m cb c0)) es l ps pm seen T_/\Vt w w3 (Vm L pm)/\w3.cell? (VJ w.heap.size 0)=some ((VG (cb c0))):=⟨seen.push en.born,By,(hc3.block _ (Z5.1 i1).1 (λe=>by have:=HN.o.2.2 _ (ZS.blk Bt e);omega)).trans i1,hp2,ZS.step huu Q0 UB hev hls hf1 hf2,Wz.then hc3 (λk _ e=>ZS.blk Bt e),(H_ w3 ((i4.mono (λk _ e=>.inr (.inr e))).then hc3 (λk _ e=>.inr (.inl (ZS.blk Bt e))))).1⟩
     exact hx1
    have od:Hid (w3.iterSeen (w.heap.size+1)=seen.push en.born):=by
     have hx1:w3.iterSeen (w.heap.size+1)=seen.push en.born:=by
      obtain⟨ZS,Wz,i1,_⟩:=HC.o;unfold World.iterSeen;rw[(hc3.block _ (Z5.1 i1).1 (λe=>by have:=HN.o.2.2 _ (ZS.blk Bt e);omega)).trans i1]
     exact hx1
    clear hp2 hf1 hf2 hc3 hcall hnx hent;go_wp2
    go_roundw
    case rel=>exact HE.o
    case measure=>
     rw[od.o,Fo.o];exact HL.o
end Go.Proofs.Rz
namespace Go.Proofs.Rz
open ChangeShapes WideShapes ChangeAt RowKit Kn Iz Tryz
variable {bd : Nat}
def dw (w:World)(b n:Nat)(R:Nat->U1)(cur:Array Value)(ty:TypeId)(h:TabAt w b n R)(h1:w.heap[b]?=some (.cells cur 70)):
 ∃w',(Builtin.clear_ #[139] ty #[.slice (some (VJ b 6)) n 64]).run prog w=.ok (.tuple #[]) w'/\TabAt w' b n (λi=>if i<n then noRow else R i)/\Vt w w' (λk=>k=b)/\UK w w' b:=by
 have Z1:=h.n1;have gv:=h.n64
 have hsz:262<cur.size:=by
  have:=h.sz;simp only[World.cell?,h1]at this;simp at this;exact(Z5.1 this).1
 obtain⟨m,hm⟩:∃m,n=m+1:=⟨n-1,VH⟩
 have hzl:(Builtin.zeroCells #[Value.pointer none,.string ⟨#[]⟩,.pointer none,.pointer none] n).toList.length=n*4:=by simp[Builtin.zeroCells]
 have cK:∀k,k<n*4->(Builtin.zeroCells #[Value.pointer none,.string ⟨#[]⟩,.pointer none,.pointer none] n).toList[k]?=some (#[Value.pointer none,.string ⟨#[]⟩,.pointer none,.pointer none][k % 4]!):=λk hk=>by
  simp[Builtin.zeroCells,hk]
 have hst:=Wv (P:=prog) b 6 70 (Builtin.zeroCells #[Value.pointer none,.string ⟨#[]⟩,.pointer none,.pointer none] n).toList 0 cur w h1 (by rw[hzl];omega) (by
  intro v hv;simp only[Builtin.zeroCells,Array.toList_map,Zy]at hv;obtain⟨k,_,rfl⟩:=hv;refine aiH ?_;intro hk
  rcases hk with e|e|e|e<;>rw[e]<;>rfl)
 obtain⟨zs,hzs⟩:∃zs,(Builtin.zeroCells #[Value.pointer none,.string ⟨#[]⟩,.pointer none,.pointer none] n).toList=zs:=Vx;rw[hzs]at hst hzl cK;rw[Yt,hzl]at hst;have hheap:=VP w b cur (cur.toList.take 6++zs++cur.toList.drop (6+n*4)).toArray 70 (0,0) h1
 have hlo:∀o,o<6\/6+n*4<=o->(cur.toList.take 6++zs++cur.toList.drop (6+n*4)).toArray[o]?=cur[o]?:=λo ho=>by
  simp only[YF];by_cases h6:o<6
  . rw[Y1,ZH Vo,Zl h6,Zf]
  . rw[ZP (by simp[hzl];omega),Zn];simp only[Zw,Za,hzl,Xt];rw[show 6+n*4+(o-(min 6 cur.size+n*4))=o from VH,Zf]
 have Vn:∀k,k<n*4->(cur.toList.take 6++zs++cur.toList.drop (6+n*4)).toArray[6+k]?=some (#[Value.pointer none,.string ⟨#[]⟩,.pointer none,.pointer none][k % 4]!):=λk hk=>by
  simp only[YF];rw[Y1,ZP Vo,ZH (by simp[hzl];omega)];simp only[Za,Xt];rw[show 6+k-min 6 cur.size=k from VH];exact cK k hk
 have Km:∀o,o<6\/6+n*4<=o->(w.setRow b (cur.toList.take 6++zs++cur.toList.drop (6+n*4)).toArray).cell? (VJ b o)=w.cell? (VJ b o):=λo ho=>by
  simp only[World.cell?,hheap,h1];simpa using hlo o ho
 have Ev:∀k,k<n*4->(w.setRow b (cur.toList.take 6++zs++cur.toList.drop (6+n*4)).toArray).cell? (VJ b (6+k))=some (#[Value.pointer none,.string ⟨#[]⟩,.pointer none,.pointer none][k % 4]!):=λk hk=>by
  simp only[World.cell?,hheap];simpa using Vn k hk
 refine⟨w.setRow b (cur.toList.take 6++zs++cur.toList.drop (6+n*4)).toArray,?_,⟨⟨_,_,hheap⟩,Z1,gv,?_,λj hj=>?_,λj hj=>?_,λj hj=>?_,λj hj=>?_⟩,⟨rfl,rfl,rfl,agL,λk _ hk=>setRow_other _ _ _ _ hk⟩,⟨λo ho=>Km o (.inl ho),λt ⟨cs,hcs⟩=>?_⟩⟩
 . exact amF
 . rw[Km _ VH];exact h.sz
 . by_cases e:j<n
   . rw[show 6+j*4=6+(j*4) from rfl,Ev _ VH,show j*4 % 4=0 from VH];simp[e,noRow]
   . rw[Km _ VH,h.c0 j hj];simp[e]
 . by_cases e:j<n
   . rw[show 6+j*4+1=6+(j*4+1) from rfl,Ev _ VH,show (j*4+1) % 4=1 from VH];simp[e,noRow]
   . rw[Km _ VH,h.c1 j hj];simp[e]
 . by_cases e:j<n
   . rw[show 6+j*4+2=6+(j*4+2) from rfl,Ev _ VH,show (j*4+2) % 4=2 from VH];simp[e,noRow]
   . rw[Km _ VH,h.c2 j hj];simp[e]
 . by_cases e:j<n
   . rw[show 6+j*4+3=6+(j*4+3) from rfl,Ev _ VH,show (j*4+3) % 4=3 from VH];simp[e,noRow]
   . rw[Km _ VH,h.c3 j hj];simp[e]
 . rw[h1]at hcs;injection hcs with hcs;injection hcs with _ hcs _;subst hcs;exact⟨_,hheap⟩
def aay:∀(x:Mm) (q:Nat),((λ_=>Mm.no) x).arr=some q->x.arr=some q:=λx q e=>EO
def Aw (b sb n:Nat)(cur:Array Value)(l:List (ByteArray×Value))(ps:Nat->List Nat)(R:Nat->U1)(L:List (Nat×ByteArray))(pm:Nat->Mm)(Sd:ByteArray->U1->Prop)(w:World)
 (S3:w.heap[b]?=some (.cells cur 70)) (hb:w.cell? (VJ b 5)=some (.map (some sb))) (hs:Ux w sb l ps) (ht:TabAt w b n R) (hP:Sm bd w L pm Sd) (q_:∀s p,Reg l ps s p->(p,s)∈L):
 Calls prog 35 #[VG b] w λe w'=>e=.returned (.tuple #[])/\∃T_,Sm bd w' L T_ Sd/\(∀s p,Reg l ps s p->T_ p=.no)/\(∀p,(∀s,¬Reg l ps s p)->T_ p=pm p)/\
  TabAt w' b n (λi=>if i<n then noRow else R i)/\Vt w w' (λk=>k=b\/Vm L pm k)/\UK w w' b:=by
 have hbl:=ht.Vb.lt;have Ww:=TK hP S3 Vz Vz;have Rr:=hP.lt;obtain⟨es,clock,hmb,uR,Q0,hun⟩:=id hs.map;have hsl:=hs.map.lt;have RE:=TT hP hmb
 have HS:Hid (Ux w sb l ps/\TabAt w b n R/\Sm bd w L pm Sd/\(∀s p,Reg l ps s p->(p,s)∈L)/\w.heap[b]?=some (.cells cur 70)):=⟨hs,ht,hP,q_,S3⟩
 have HN:Hid (¬Vm L pm b/\(∀k,Vm L pm k->k<w.heap.size)):=⟨Ww,Rr⟩
 clear hs ht hP q_ Ww Rr S3;have hrg:=Wq (P:=prog) w 56 _ _ sb es clock underlying56 hmb;go_enter func35,ntmps35;go_wp2;clear hrg
 go_loopw [9] (λ_ wr=>∃seen T_,wr.heap[w.heap.size]?=some (.mapIter (some sb) clock seen clock)/\Sm bd wr L T_ Sd/\Done (λ_=>.no) es l ps pm seen T_/\Vt w wr (Vm L pm)) (λ_ wr=>(leftOf es (wr.iterSeen w.heap.size)).size)
 case atStart=>
  exact⟨#[],pm,(Z4 w _).1,HS.o.2.2.1.same (λk hk=>ZV _ _ _ (HN.o.2 k hk)),Done.start _ _ _ _ _,(Vt.refl w _).alloc _⟩
 case round=>
  obtain⟨seen,T_,hit,hpl,ZS,hch⟩:=hrel;have hbr:=(hch.block sb hsl RE).trans hmb;rcases VO (P:=prog) wr 0 w.heap.size sb clock clock seen es clock hit hbr (λx hx=>Q0.1 x hx) UM with⟨hl0,hnx⟩|⟨en,hen,w1,hw1,hnx⟩
  . have hbb:=hch.block b hbl HN.o.1;have htr:=HS.o.2.1.same hbb;obtain⟨w3,Cn,Ks,hc3,hd3⟩:=dw wr.drew b n R cur 0 (htr.same rfl) (hbb.trans HS.o.2.2.2.2);have ix:∀ty,(Builtin.clear_ #[139] ty #[.slice (some (VJ b 6)) n 64]).run prog wr.drew=.ok (.tuple #[]) w3:=λty=>Cn;have hcall:=LK b n R wr htr
    have HC:Hid (Sm bd wr L T_ Sd/\Done (λ_=>.no) es l ps pm seen T_/\Vt w wr (Vm L pm)/\(leftOf es seen).size=0):=⟨hpl,ZS,hch,hl0⟩
    have HE:Hid (TabAt w3 b n (λi=>if i<n then noRow else R i)/\Vt wr w3 (λk=>k=b)/\UK wr w3 b):=⟨Ks,(Vt.refl wr _).drew.trans hc3,(UK.of_block (w:=wr) (w':=wr.drew) rfl).trans hd3⟩
    clear hpl ZS hch htr hit hbr Ks hc3 hd3 Cn;go_wp2_with fail;refine hcall.mono ?_;rintro e w2 ⟨rfl,rfl⟩;go_wp2
    go_end0
    obtain⟨hpl,ZS,hch,hl0⟩:=HC.o;obtain⟨Ks,hc3,hd3⟩:=HE.o;obtain⟨hf1,hf2⟩:=ZS.finish uR hl0;refine⟨rfl,T_,hpl.same (λk hk=>hc3.block k (ZY (HN.o.2 k (ZS.blk aay hk)) hch.size) (λe=>?_)),hf1,hf2,Ks,(hch.mono lF).then hc3 jJ,(UK.of_block (hch.block b hbl HN.o.1)).trans hd3⟩;subst e;exact HN.o.1 (ZS.blk aay hk)
  . have UB:=(mem_left hen).1;obtain⟨s,ib,zP,hev,hls,Wb⟩:=yX HS.o.1 uR hun UB;obtain⟨i1,i2,i3,i4⟩:=Gw (o':=.mapIter (some sb) clock (seen.push en.born) clock) hw1 hit;obtain⟨W2,hW2⟩:∃W2,W2=ChangeMaps.setBlock w1 w.heap.size (.mapIter (some sb) clock (seen.push en.born) clock):=Vx;rw[<- hW2]at i1 i2 i3 i4 hnx;clear hW2;have hent:=VX (P:=prog) W2 w.heap.size sb clock seen es clock en i1 ((i2 sb VH).trans hbr) UB Q0.2;rw[zP,hev]at hnx hent;have m_:=hpl.same (λk hk=>i2 k (λe=>by have:=HN.o.2 k (ZS.blk aay hk);omega))
    have B_:LX W2 ib (ps ib):=by
     obtain⟨es',db,hx,_⟩:=id Wb;refine Wb.same ((i2 ib (λe=>by have:=Wb.lt;omega)).trans (hch.block ib Wb.lt (TT HS.o.2.2.1 hx)))
    have hcall:=yU ib (ps ib) L T_ Sd W2 B_ (λp hp=>⟨s,HS.o.2.2.2.1 s p ⟨ib,hls,hp⟩⟩) m_;have HL:=UQ akj
    have Fo:Hid (wr.iterSeen w.heap.size=seen):=by
     exact ag9
    have HC:Hid (Done (λ_=>.no) es l ps pm seen T_/\Vt w W2 (Vm L pm)/\W2.heap[w.heap.size]?=some (.mapIter (some sb) clock (seen.push en.born) clock)/\en∈es.toList/\en.val=.map (some ib)/\l.lookup s=some (.map (some ib))/\Vt wr W2 (λk=>k=w.heap.size)):=⟨ZS,hch.then i4 aK,i1,UB,hev,hls,i4⟩
    clear hpl ZS hch hit hbr i1 i2 i3 i4 m_ B_ hen UB hw1 hev hls zP Wb;go_wp2_with fail;refine hcall.mono ?_;rintro e w3 ⟨rfl,By,hp2,hf1,hf2,hc3⟩
    have HE:Hid (∃seen T_,w3.heap[w.heap.size]?=some (.mapIter (some sb) clock seen clock)/\Sm bd w3 L T_ Sd/\Done (λ_=>.no) es l ps pm seen T_/\Vt w w3 (Vm L pm)):=by
     obtain⟨ZS,Wz,i1,UB,hev,hls,i4⟩:=HC.o
     have hx1:∃seen T_,w3.heap[w.heap.size]?=some (.mapIter (some sb) clock seen clock)/\Sm bd w3 L T_ Sd/\Done (λ_=>.no) es l ps pm seen T_/\Vt w w3 (Vm L pm):=⟨seen.push en.born,By,(hc3.block _ (Z5.1 i1).1 (λe=>by have:=HN.o.2 _ (ZS.blk aay e);omega)).trans i1,hp2,ZS.step (λ_=>rfl) Q0 UB hev hls hf1 hf2,Wz.then hc3 (λk _ e=>ZS.blk aay e)⟩
     exact hx1
    have od:Hid (w3.iterSeen w.heap.size=seen.push en.born):=by
     have hx1:w3.iterSeen w.heap.size=seen.push en.born:=by
      obtain⟨ZS,Wz,i1,_⟩:=HC.o;unfold World.iterSeen;rw[(hc3.block _ (Z5.1 i1).1 (λe=>by have:=HN.o.2 _ (ZS.blk aay e);omega)).trans i1]
     exact hx1
    clear hp2 hf1 hf2 hc3 hcall hnx hent;go_wp2
    go_roundw
    case rel=>exact HE.o
    case measure=>
     rw[od.o,Fo.o];exact HL.o
def FX (sel:ByteArray)(r:U1):Bool:=decide (r.sel=sel)
def akM (sel:ByteArray)(x:Nat):Ih 72 #[VG x] (FX sel) (λW=>W.cell? (VJ x 0)=some (.string sel)) (λ_=>True):=by
 refine⟨λargs W=>lK,λW r hx _=>?_⟩;have hxl:=ZE W (VJ x 0) hx;show Calls _ _ #[_,_] _ _;by_cases he:r.sel=sel
 . have htl:r.sel.toList=sel.toList:=by rw[he]
   rw[show FX sel r=true from by simp[FX,he]];unfold U1.val;clear he;go_enter func72,ntmps72;go_wp2
   go_ret
   exact⟨bF,(ZR _ _).alloc UM _⟩
 . have hne:=IJ he;rw[show FX sel r=false from by simp[FX,he]];unfold U1.val;clear he;go_enter func72,ntmps72;go_wp2
   go_ret
   exact zt6
def AQ (b sb n:Nat)(cur:Array Value)(l:List (ByteArray×Value))(ps:Nat->List Nat)(R:Nat->U1)(L:List (Nat×ByteArray))(pm:Nat->Mm)(Sd:ByteArray->U1->Prop)(sel:ByteArray)(w:World)
 (S3:w.heap[b]?=some (.cells cur 70)) (hb:w.cell? (VJ b 5)=some (.map (some sb))) (hs:Ux w sb l ps) (ht:TabAt w b n R) (hP:Sm bd w L pm Sd) (q_:∀s p,Reg l ps s p->(p,s)∈L):
 Calls prog 36 #[VG b,.string sel] w λe w'=>e=.returned (.tuple #[])/\∃T_,Sm bd w' L T_ Sd/\(∀p,Reg l ps sel p->T_ p=.no)/\(∀p,¬Reg l ps sel p->T_ p=pm p)/\
  TabAt w' b n (λi=>if i<n/\FX sel (R i)=true then noRow else R i)/\Vt w w' (λk=>k=b\/Vm L pm k)/\UK w w' b:=by
 have hbl:=ht.Vb.lt;have Ww:=TK hP S3 Vz Vz;have Rr:=hP.lt
 have HS:Hid (Ux w sb l ps/\TabAt w b n R/\Sm bd w L pm Sd/\(∀s p,Reg l ps s p->(p,s)∈L)):=⟨hs,ht,hP,q_⟩
 have HN:Hid (¬Vm L pm b/\(∀k,Vm L pm k->k<w.heap.size)):=⟨Ww,Rr⟩
 clear hs ht hP q_ Ww Rr S3;go_enter func36,ntmps36;go_wp2_with fail;have hz0:(w.alloc (.cells #[.string sel] 9)).heap[w.heap.size]?=some (.cells #[.string sel] 9):=(Z4 w _).1;have hb0:(w.alloc (.cells #[.string sel] 9)).cell? (VJ b 5)=some (.map (some sb)):=UG;have US:Vt w (w.alloc (.cells #[.string sel] 9)) (λ_=>False):=(Vt.refl w _).alloc _;revert hz0 hb0 US;generalize w.alloc (.cells #[.string sel] 9)=W0;intro hz0 hb0 US;have zl:=(Z5.1 hz0).1;have zc:W0.cell? (VJ w.heap.size 0)=some (.string sel):=by simp only[World.cell?,hz0];rfl
 have hs0:=HS.o.1.Ut US EZ Nh aap;have pA:=HS.o.2.2.1.same (λk hk=>US.block k (HN.o.2 k hk) EZ);refine ahO ?_;intro L0 Sb;have HZC:Hid _:=zc
 have NN:∀(w2:World) (T_:Nat->Mm),Sm bd w2 L T_ Sd->(∀p,Reg l ps sel p->T_ p=.no)->(∀p,¬Reg l ps sel p->T_ p=pm p)->Vt W0 w2 (Vm L pm)->
  Calls prog 71 #[.pointer (some (VJ b 6)),.func (.func 72) #[] #[VG w.heap.size]] w2 λe w'=>e=.returned (.tuple #[])/\∃T_,Sm bd w' L T_ Sd/\(∀p,Reg l ps sel p->T_ p=.no)/\(∀p,¬Reg l ps sel p->T_ p=pm p)/\
   TabAt w' b n (λi=>if i<n/\FX sel (R i)=true then noRow else R i)/\Vt w w' (λk=>k=b\/Vm L pm k)/\UK w w' b:=by
  intro w2 T_ Fu hf1 hf2 hc2;obtain⟨_,_,Mi,Sh⟩:=L0.o;have Sh:=Sh.same (hc2.block b Sb HN.o.1);refine(GX b n _ _ _ _ _ R w2 (akM sel w.heap.size) (λ_ _=>trivial) (λW hW=>?_) Sh).mono ?_
  . refine(Z9 (a:=(VJ w.heap.size 0)) ((hW.block _ (ZY zl hc2.size) (λe=>?_)).trans (hc2.block _ zl (λe=>?_)))).trans HZC.o
    . omega
    . have:=HN.o.2 _ e;omega
  . rintro e w3 ⟨rfl,Sh,hc3,hd3⟩
    have hblk:∀k,Vm L T_ k->Vm L pm k:=by
     rintro k ⟨p,s,hps,e|e⟩
     . exact lT
     . refine⟨p,s,hps,.inr ?_⟩;by_cases q_:Reg l ps sel p
       . rw[hf1 p q_]at e;cases e
       . rw[hf2 p q_]at e;exact e
    refine⟨rfl,T_,Fu.same (λk hk=>hc3.block k ?_ (λe=>?_)),hf1,hf2,Sh,?_,(UK.of_block ((hc2.block b Sb HN.o.1).trans (Mi.block b hbl EZ))).trans hd3⟩
    . exact ZY (HN.o.2 k (hblk k hk)) (ZC Mi.size hc2.size)
    . subst e;exact HN.o.1 (hblk _ hk)
    . exact((Mi.mono (λ_ _ h=>h.elim)).then hc2 lF).then hc3 jJ
 have p8:Hid _:=NN;clear hz0 hs0 pA US NN hb
 cases hl:l.lookup sel with
 | none=>
  refine ajA ?_;intro lk rz;clear hl;refine Uy ?_;refine ahS ?_;intro hHeld;refine ado ?_;intro hHeld;refine Ul 6 λY_ Z_=>?_;go_simp;refine(bU _).mono ?_;rintro e w2 ⟨rfl,hb2⟩;have hb3:=(hb2.cell (p:=(VJ b 5)) Sb).trans hb0;have fd:=(hb2.cell (p:=(VJ w.heap.size 0)) zl).trans zc
  try go_wp2_with fail
  refine Z_.go λhHeld=>?_;clear Z_ Y_;refine Um ?_;have MD:Hid (Vt W0 w2 (Vm L pm)):=(Vt.refl W0 _).drew.trans (Vt.of_below hb2 _);have htab:=p8.o w2 pm (L0.o.2.1.same (λk hk=>hb2.block k (ZY (HN.o.2 k hk) L0.o.2.2.1.size))) (λp h=>absurd h (rz.o p)) (λp _=>rfl) MD.o;clear hb2 hb0 zc lk;clear hHeld;clear hHeld;clear hHeld;go_wp2_with fail;refine htab.mono ?_;rintro e w3 ⟨rfl,hres⟩;go_wp2
  go_end0
  exact⟨rfl,hres⟩
 | some v=>
  obtain⟨ib,rfl,B_,_⟩:=L0.o.1.inn sel v hl;have lk:(Instr.lookup 56 (.map (some sb)) (.string sel) false).run prog W0.drew=.ok (.map (some ib)) W0.drew:=akt;have hcall:=yU ib (ps ib) L pm Sd W0.drew (B_.same rfl) (λp hp=>⟨sel,HS.o.2.2.2 sel p ⟨ib,hl,hp⟩⟩) (L0.o.2.1.same Ji)
  have ii:Hid (∀p,Reg l ps sel p↔p∈ps ib):=by
   exact aoS
  have mH:¬Vm L pm w.heap.size:=λe=>by have:=HN.o.2 _ e;omega
  have Ww:=HN.o.1;clear B_ hl;refine Uy ?_;refine ahS ?_;intro hHeld;refine ado ?_;intro hHeld;refine Ul 6 λY_ Z_=>?_;go_simp;refine hcall.mono ?_;rintro e w2 ⟨rfl,T_,hp2,hf1,hf2,hb2⟩;have hb3:=(Z9 (a:=(VJ b 5)) (hb2.block b Sb Ww)).trans hb0;have fd:=(Z9 (a:=(VJ w.heap.size 0)) (hb2.block _ zl mH)).trans zc
  try go_wp2_with fail
  refine Z_.go λhHeld=>?_;clear Z_ Y_;refine Um ?_;refine ahv ?_;intro MD htab;clear hb2 hb0 zc lk hp2 hf1 hf2 hcall;clear hHeld;clear hHeld;clear hHeld;go_wp2_with fail;refine htab.mono ?_;rintro e w3 ⟨rfl,hres⟩;go_wp2
  go_end0
  exact⟨rfl,hres⟩
def ak {w:World}{b:Nat}{K:Kc}{Sd:ByteArray->U1->Prop}{Sr:U1->Prop}(h:Qr w b K (λ_=>False) Sd Sr)(m:Im)(cb cm:Nat->Nat)(c0:Nat)(hm:U3 m)(hc0:c0<m.kl.length)(hcl:Cls w m cb cm)
 (hQ:∀s r,Sd s r->Nw m cb r) (hR:∀r,Sr r->Nw m cb r):
 Calls prog 66 #[VG b,VG (cb c0)] w λe w'=>e=.returned (.tuple #[])/\∃pm R,Qr w' b {K with pm:=pm,R:=R} (λ_=>False) (λs r=>Sd s r/\Tj m cb c0 r=false) (λr=>(Sr r/\Tj m cb c0 r=false)\/r=noRow)/\
  (∀p q,(pm p).arr=some q->(K.pm p).arr=some q)/\Vt w w' (λk=>k=b\/Vm K.L K.pm k)/\UK w w' b:=by
 obtain⟨cur,V_⟩:=h.img;refine(dD m cb cm b c0 K.sb K.n cur K.l K.ps K.R K.L K.pm Sd w hm hc0 V_ h.b5 h.snd h.tab hcl h.Ru h.reg hQ (λi hi=>hR _ (h.rows i hi))).mono ?_;rintro e w' ⟨rfl,T_,hP,hf1,hf2,hT,hch,hd⟩
 have ZD:∀p,(∃s,Reg K.l K.ps s p/\T_ p=(K.pm p).forget (Tj m cb c0))\/((∀s,¬Reg K.l K.ps s p)/\T_ p=K.pm p):=λp=>by
  by_cases e:∃s,Reg K.l K.ps s p
  . obtain⟨s,e⟩:=e;exact .inl ⟨s,e,hf1 s p e⟩
  . exact .inr ⟨λs e'=>e ⟨s,e'⟩,hf2 p (λs e'=>e ⟨s,e'⟩)⟩
 have ha:∀p q,(T_ p).arr=some q->(K.pm p).arr=some q:=λp q e=>by
  rcases ZD p with⟨s,_,h1⟩|⟨_,h1⟩
  . rw[h1]at e;rcases Mm.QH (Tj m cb c0) (K.pm p) with h1|h1
    . rw[h1]at e;cases e
    . rw[h1]at e;exact e
  . rw[h1]at e;exact e
 refine⟨rfl,T_,_,h.forgot (hP.weaken (λp s r hps hr w_=>⟨w_,?_⟩)) hT (λi hi=>?_) (λp s hps e=>.inr ?_) ha hch hd,ha,hch,hd⟩
 . rcases ZD p with⟨s,_,h1⟩|⟨h0,h1⟩
   . rw[h1]at hr;exact(Mm.KR hr).2
   . rw[h1]at hr;rcases h.told p s hps with e|e|e
     . exact absurd e (h0 s)
     . rw[e]at hr;cases hr
     . exact e.elim
 . by_cases e:i<K.n/\Tj m cb c0 (K.R i)=true
   . rw[ZU e];exact .inr rfl
   . rw[ZX e];refine .inl ⟨h.rows i hi,?_⟩
     cases hl:Tj m cb c0 (K.R i) with
     | false=>rfl
     | true=>exact absurd ⟨hi,hl⟩ e
 . rcases ZD p with⟨s,_,h1⟩|⟨_,h1⟩
   . rw[h1];exact Mm.Oq.2 e
   . rw[h1];exact e
def AB {w:World}{b:Nat}{K:Kc}{Sd:ByteArray->U1->Prop}{Sr:U1->Prop}(h:Qr w b K (λ_=>False) Sd Sr)(hR:Sr noRow):
 Calls prog 35 #[VG b] w λe w'=>e=.returned (.tuple #[])/\∃pm R,Qr w' b {K with pm:=pm,R:=R} (λ_=>False) Sd Sr/\
  (∀p q,(pm p).arr=some q->(K.pm p).arr=some q)/\Vt w w' (λk=>k=b\/Vm K.L K.pm k)/\UK w w' b:=by
 obtain⟨cur,V_⟩:=h.img;refine(Aw b K.sb K.n cur K.l K.ps K.R K.L K.pm Sd w V_ h.b5 h.snd h.tab h.Ru h.reg).mono ?_;rintro e w' ⟨rfl,T_,hP,hf1,hf2,hT,hch,hd⟩
 have ZD:∀p,(∃s,Reg K.l K.ps s p/\T_ p=.no)\/T_ p=K.pm p:=λp=>by
  by_cases e:∃s,Reg K.l K.ps s p
  . obtain⟨s,e⟩:=e;exact .inl ⟨s,e,hf1 s p e⟩
  . exact .inr (hf2 p (λs e'=>e ⟨s,e'⟩))
 have ha:∀p q,(T_ p).arr=some q->(K.pm p).arr=some q:=λp q e=>by
  rcases ZD p with⟨s,_,h1⟩|h1
  . rw[h1]at e;cases e
  . rw[h1]at e;exact e
 refine⟨rfl,T_,_,h.forgot hP hT (λi hi=>by rw[ZU hi];exact hR) (λp s hps e=>?_) ha hch hd,ha,hch,hd⟩;by_cases hr:Reg K.l K.ps s p
 . exact .inl hr
 . rcases ZD p with⟨t,ht,h1⟩|h1
   . have:=h.Ru.one hps (h.reg t p ht);subst this;exact absurd ht hr
   . exact .inr (h1.trans e)
def AA {w:World}{b:Nat}{K:Kc}{Sd:ByteArray->U1->Prop}{Sr:U1->Prop}(h:Qr w b K (λ_=>False) Sd Sr)(hR:Sr noRow)(sel:ByteArray):
 Calls prog 36 #[VG b,.string sel] w λe w'=>e=.returned (.tuple #[])/\∃pm R,Qr w' b {K with pm:=pm,R:=R} (λ_=>False) Sd Sr/\
  (∀p q,(pm p).arr=some q->(K.pm p).arr=some q)/\Vt w w' (λk=>k=b\/Vm K.L K.pm k)/\UK w w' b:=by
 obtain⟨cur,V_⟩:=h.img;refine(AQ b K.sb K.n cur K.l K.ps K.R K.L K.pm Sd sel w V_ h.b5 h.snd h.tab h.Ru h.reg).mono ?_;rintro e w' ⟨rfl,T_,hP,hf1,hf2,hT,hch,hd⟩
 have ha:∀p q,(T_ p).arr=some q->(K.pm p).arr=some q:=λp q e=>by
  by_cases hr:Reg K.l K.ps sel p
  . rw[hf1 p hr]at e;cases e
  . rw[hf2 p hr]at e;exact e
 refine⟨rfl,T_,_,h.forgot hP hT (λi hi=>?_) (λp s hps e=>?_) ha hch hd,ha,hch,hd⟩
 . by_cases e:i<K.n/\FX sel (K.R i)=true
   . rw[ZU e];exact hR
   . rw[ZX e];exact h.rows i hi
 . by_cases hr:Reg K.l K.ps sel p
   . have:=h.Ru.one hps (h.reg sel p hr);subst this;exact .inl hr
   . exact .inr ((hf2 p hr).trans e)
end Go.Proofs.Rz
