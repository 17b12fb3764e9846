import Derived.Defers
import Derived.Recover
import Derived.Test.YtkghmgoefiepeaaGreatDoorM
set_option linter.all false
set_option maxHeartbeats 4000000
set_option maxRecDepth 100000
namespace Kn
open Go
def oO {l:List (ByteArray×Value)}{s:ByteArray}(v:Value)(h:l.lookup s=none):(put l s v).length=l.length+1:=by
 induction l with
 | nil=>rfl
 | cons p r ih=>
  obtain⟨k,x⟩:=p
  cases hs:(s==k) with
  | true=>simp[List.lookup,hs]at h
  | false=>
   simp only[List.lookup,hs]at h;simp[put,hs,ih h]
variable {m : Im}
def abO {k:Kl}(hn:m.cls k.name=none)(t:ByteArray):({m with kl:=m.kl++[k]}:Im).cls t=if t=k.name then some m.kl.length else m.cls t:=by
 unfold Im.cls at hn ⊢;simp only[List.findIdx?_append];by_cases e:t=k.name
 . subst e;rw[hn,ZU rfl];simp[Tq]
 . rw[ZX e]
   have:([k]:List Kl).findIdx? (λx=>x.name==t)=none:=by
    simp[WC,(Vf k.name t).2 JR]
   rw[this];cases m.kl.findIdx? (λk=>k.name==t)<;>rfl
def adW {k:Kl}(hk:k.ms=[])(c:Nat)(s:ByteArray):({m with kl:=m.kl++[k]}:Im).own c s=m.own c s:=by
 unfold Im.own;simp only;by_cases h:c<m.kl.length
 . rw[ZH h]
 . rw[Y8 (by omega:m.kl.length<=c)];by_cases e:c=m.kl.length
   . subst e;rw[ZP UM,Y0];simp[Kl.own,hk]
   . rw[Y8 Vo]
def afx {k:Kl}{c:Nat}(h:c<m.kl.length):({m with kl:=m.kl++[k]}:Im).ab c=m.ab c:=by
 unfold Im.ab;simp only;rw[ZH h]
end Kn
namespace Go.Proofs.Rz
open ChangeShapes WideShapes ChangeAt RowKit Kn Iz Tryz
def Kd.more (K:Kd)(n Ty:Nat)(s:ByteArray):Kd:=
 {K with cb:=λc=>if c=n then Ty+1 else K.cb c,cm:=λc=>if c=n then Ty else K.cm c,lc:=put K.lc s ((VG (Ty+1))),lm:=λc=>if c=n then [] else K.lm c}
variable {w w' : World}
variable {m : Im}
variable {K : Kd}
def Ud.aeG (h:Ud w m K){s:ByteArray}{a Ty n:Nat}(hno:m.cls s=none)(ha:a<m.kl.length)(hm':U3 {m with kl:=m.kl++[⟨s,some a,m.tot a+n,[]⟩]}) (hlo:w.heap.size<=Ty)
 (hsm:SMap w' K.mb (put K.lc s ((VG (Ty+1))))) (hcm:w'.heap[Ty]?=some (.map #[] 0)) (hcb:w'.heap[Ty+1]?=some (.cells #[.string s,VI (m.kl.length:Nat),VG (K.cb a),VI ((m.tot a:Nat)+(n:Nat)),.map (some Ty)] 101)) (hch:Vt w w' (λk=>k=K.mb)):
 Step w w' m K {m with kl:=m.kl++[⟨s,some a,m.tot a+n,[]⟩]} (K.more m.kl.length Ty s):=by
 have hlen:({m with kl:=m.kl++[⟨s,some a,m.tot a+n,[]⟩]}:Im).kl.length=m.kl.length+1:=Vy;have hlen':(m.kl++[(⟨s,some a,m.tot a+n,[]⟩:Kl)]).length=m.kl.length+1:=Vy;obtain⟨es,ck,hx,_⟩:=id h.lc;have hmn:=h.Uc.dO hx h.ap.Bc h.ap.Bo
 have SJ:∀c,c<m.kl.length->(K.more m.kl.length Ty s).cb c=K.cb c:=λc hc=>by
  show (if c=m.kl.length then Ty+1 else K.cb c)=_;rw[ZX VH]
 have RL:∀c,c<m.kl.length->(K.more m.kl.length Ty s).cm c=K.cm c:=λc hc=>by
  show (if c=m.kl.length then Ty else K.cm c)=_;rw[ZX VH]
 have GJ:(K.more m.kl.length Ty s).cb m.kl.length=Ty+1:=by
  show (if m.kl.length=m.kl.length then Ty+1 else _)=_;rw[ZU rfl]
 have NB:(K.more m.kl.length Ty s).cm m.kl.length=Ty:=by
  show (if m.kl.length=m.kl.length then Ty else _)=_;rw[ZU rfl]
 have Ms:∀r,Ans m K.cb K.mid r->Ans {m with kl:=m.kl++[⟨s,some a,m.tot a+n,[]⟩]} (K.more m.kl.length Ty s).cb K.mid r:=λr hr=>hr.more h.ok hm' (λc hc=>afx hc) aaD SJ (λ_ _ _=>rfl);have XX:∀k,UL w k->w'.heap[k]?=w.heap[k]?:=λk hk=>hch.block k hk.lt (λe=>UA hk h.lc e);have ui:=h.Uc.Ut hch (λe=>hmn.2 e.symm) (λk e e'=>hmn.1 (by rw[<- e'];exact e)) (λk hk h1 e=>UA ((h.Uc.mt k hk).LV.Vb h1) h.lc e)
 have V':∀k,U2 {m with kl:=m.kl++[⟨s,some a,m.tot a+n,[]⟩]} (K.more m.kl.length Ty s) k->U2 m K k\/w.heap.size<=k:=λk e=>by
  rcases e with e|e|⟨c,hc,e⟩|e|e|e
  . exact .inl (.inl e)
  . exact .inl vJ
  . by_cases hcl:c<m.kl.length
    . rw[SJ c hcl,RL c hcl]at e;exact .inl (.inr (.inr (.inl ⟨c,hcl,e⟩)))
    . have:c=m.kl.length:=by rw[hlen]at hc;omega
      subst this;rw[GJ,NB]at e;exact .inr VH
  . exact .inl adf
  . exact .inl mM
  . exact .inl aaN
 have Wa:Vt w w' (U2 m K):=hch.mono (λk _ e=>.inr (.inl e));have hb:=XX K.b h.Uc.tab.Vb;have hh:=h.hd.same hb
 have hkl:∀c k,(m.kl++[(⟨s,some a,m.tot a+n,[]⟩:Kl)])[c]?=some k->(c<m.kl.length/\m.kl[c]?=some k)\/(c=m.kl.length/\k=⟨s,some a,m.tot a+n,[]⟩):=λc k hk=>by
  by_cases hc:c<m.kl.length
  . rw[ZH hc]at hk;exact .inl ⟨hc,hk⟩
  . have hc2:=(Z7.1 hk).1;have:c=m.kl.length:=by rw[hlen']at hc2;omega
    subst this;rw[ZP UM,Y0]at hk;injection hk with hk;exact .inr ⟨rfl,hk.symm⟩
 refine⟨⟨hm',ui.weaken (λs r hr=>⟨hr.1,Ms r hr.2⟩) (λr hr=>?_),⟨hh.c0,hh.c1,hh.c2,hh.c3,hh.c4⟩,h.np6,h.cll,hsm,λt=>?_,?_,⟨λc k hk=>?_,λc d hc hd e=>?_⟩,λc hc=>?_,λc t hc=>?_,λc t=>?_,h.yZ,⟨h.ap.Bc,h.ap.Bo,λc hc=>?_,λc hc=>?_,λc t hc=>?_,λc d hc hd e=>?_⟩,?_,h.J7.Ut Wa dY,λk hk hg=>?_⟩,rfl,rfl,Wa,V',aaD,SJ,λk hk=>yg⟩
 . rcases hr with hr|hr
   . exact .inl (Ms r hr)
   . exact .inr hr
 . show (put K.lc s ((VG (Ty+1)))).lookup t=_;rw[S9,abO (k:=⟨s,some a,m.tot a+n,[]⟩) hno t];by_cases e:t=s
   . rw[ZU e,ZU e];simp only[ZG];rw[GJ]
   . rw[ZX e,ZX e,h.iW t]
     cases hcl:m.cls t with
     | none=>rfl
     | some c=>
      simp only[ZG];rw[SJ c (OO hcl)]
 . show (put K.lc s _).length=_;rw[oO _ (by rw[h.iW s,hno];rfl),hlen,h.lcn]
 . rcases hkl c k hk with⟨hc,hk'⟩|⟨rfl,rfl⟩
   . have h1:=h.cls.at_ c k hk';rw[SJ c hc,RL c hc]
     have hab:k.above.map (K.more m.kl.length Ty s).cb=k.above.map K.cb:=by
      cases hka:k.above with
      | none=>rfl
      | some p=>
       simp only[ZG];rw[SJ p (CS h.ok (c:=c) (by unfold Im.ab;rw[hk'];exact hka))]
     rw[hab];exact(XX _ (h.cls.Vb hc)).trans h1
   . rw[GJ,NB];simp only[ZG];rw[SJ a ha];have e1:((m.tot a+n:Nat):Int)=(m.tot a:Int)+(n:Int):=VH;rw[e1];exact hcb
 . rw[hlen]at hc hd;by_cases hc':c<m.kl.length
   . by_cases hd':d<m.kl.length
     . rw[SJ c hc',SJ d hd']at e;exact h.cls.inj c d hc' hd' e
     . have:d=m.kl.length:=by omega
       subst this;rw[SJ c hc',GJ]at e;have:=(h.cls.Vb hc').lt;omega
   . have:c=m.kl.length:=by omega
     subst this;by_cases hd':d<m.kl.length
     . rw[SJ d hd',GJ]at e;have:=(h.cls.Vb hd').lt;omega
     . omega
 . rw[hlen]at hc;by_cases hc':c<m.kl.length
   . rw[RL c hc'];show SMap w' (K.cm c) (if c=m.kl.length then [] else K.lm c);rw[ZX VH];exact(h.lm c hc').same (hch.block _ (h.lm c hc').lt (h.ap.zF c hc'))
   . have:c=m.kl.length:=by omega
     subst this;rw[NB];show SMap w' Ty (if m.kl.length=m.kl.length then [] else K.lm m.kl.length);rw[ZU rfl];exact OL hcm
 . rw[hlen]at hc;show (if c=m.kl.length then [] else K.lm c).lookup t=(K.mid c t).map _;by_cases hc':c<m.kl.length
   . rw[ZX VH];exact h.mid c t hc'
   . have:c=m.kl.length:=by omega
     subst this;rw[ZU rfl];have w9:m.own m.kl.length t=none:=by unfold Im.own;rw[Y8 UM];rfl
     rw[h.own]at w9;rw[Option.map_eq_none_iff]at w9;rw[w9];rfl
 . rw[adW rfl];exact h.own c t
 . rw[hlen]at hc;show (K.more m.kl.length Ty s).cm c≠K.mb;by_cases hc':c<m.kl.length
   . rw[RL c hc'];exact h.ap.zF c hc'
   . have:c=m.kl.length:=by omega
     subst this;rw[NB];have:=h.lc.lt;omega
 . rw[hlen]at hc;show (K.more m.kl.length Ty s).cm c≠K.k.sb;by_cases hc':c<m.kl.length
   . rw[RL c hc'];exact h.ap.IQ c hc'
   . have:c=m.kl.length:=by omega
     subst this;rw[NB];have:=h.Uc.snd.map.lt;omega
 . rw[hlen]at hc;show K.k.l.lookup t≠some (.map (some ((K.more m.kl.length Ty s).cm c)));by_cases hc':c<m.kl.length
   . rw[RL c hc'];exact h.ap.yQ c t hc'
   . have:c=m.kl.length:=by omega
     subst this;rw[NB];intro e;have:=h.Uc.lt (.inr (.inl ⟨t,e⟩));omega
 . rw[hlen]at hc hd;by_cases hc':c<m.kl.length
   . by_cases hd':d<m.kl.length
     . rw[RL c hc',RL d hd']at e;exact h.ap.DU c d hc' hd' e
     . have:d=m.kl.length:=by omega
       subst this;rw[RL c hc',NB]at e;have:=(h.lm c hc').lt;omega
   . have:c=m.kl.length:=by omega
     subst this;by_cases hd':d<m.kl.length
     . rw[RL d hd',NB]at e;have:=(h.lm d hd').lt;omega
     . omega
 . have ho:=h.obs.same (w':=w') (λk hk=>by
    obtain⟨cs,hcs⟩:=h.obs.kind hk
    exact XX k (by rcases hcs with e|e<;>exact⟨_,_,e⟩))
   refine⟨?_,ho.at_,ho.inj,ho.nil⟩
   have e1:ER (K.more m.kl.length Ty s).cb K.ob 0 m.obs=ER K.cb K.ob 0 m.obs:=Kv m.obs m.obs 0 rfl (λi o o' h1 h2=>by
    rw[h1]at h2;injection h2 with h2;subst h2
    exact⟨SJ _ (h.ok.obj o (ZK h1)).1,rfl,rfl⟩)
   show w'.ownsRow 0 105 2 K.ov m.obs.length (ER (K.more m.kl.length Ty s).cb K.ob 0 m.obs);rw[e1];exact ho.own
 . exact zx
def bQ (h:Ud w m K)(s t:ByteArray)(n:Int)(hs:s.size<=140737488355328):
 Calls prog 15 #[VG K.b,.string s,.string t,VI n] w λe w'=>e=.returned (VI (m.TR s t n).1)/\∃K',Step w w' m K (m.TR s t n).2 K':=by
 have hok:=(Kn.H9 h.ok s t n).1;obtain⟨cr,hcr⟩:∃cr,m.TR s t n=cr:=Vx;rw[hcr]at hok ⊢;unfold Im.TR at hcr;by_cases hbad:className (bl s)=false\/n<0
 . rw[ZU hbad]at hcr;subst hcr;refine(dR s t n K.b w hs hbad).mono ?_;rintro e w' ⟨rfl,hb⟩;exact⟨rfl,K,Step.below h hb⟩
 . rw[ZX hbad]at hcr
   have hcn:className (bl s)=true:=by
    cases hx:className (bl s) with
    | true=>rfl
    | false=>exact absurd (.inl hx) hbad
   have hn:0<=n:=by
    apply Zt;intro hx;exact hbad (.inr VH)
   have err:∀r:Int,cr=(r,m)->(((∃p,K.lc.lookup s=some (.pointer (some p)))/\r=3)\/(K.lc.lookup s=none/\K.lc.lookup t=none/\r=2)\/
    (∃a tot,K.lc.lookup s=none/\K.lc.lookup t=some (VG a)/\w.cell? (VJ a 3)=some (VI tot)/\0<=tot/\tot<=10/\((10-tot<n/\r=9)\/(n<=10-tot/\K.lc.length=12/\r=10))))->
    Calls prog 15 #[VG K.b,.string s,.string t,VI n] w λe w'=>e=.returned (VI cr.1)/\∃K',Step w w' m K cr.2 K':=by
    intro r hr hh;subst hr;refine(bY s t n K.b K.mb K.lc w hs hcn hn h.hd.c0 h.lc r hh).mono ?_;rintro e w' ⟨rfl,hb⟩;exact⟨rfl,K,Step.below h hb⟩
   cases hcs:m.cls s with
   | some c=>
    rw[hcs]at hcr;exact err 3 hcr.symm (.inl ⟨⟨_,by rw[h.iW s,hcs];rfl⟩,rfl⟩)
   | none=>
    rw[hcs]at hcr;simp only at hcr;have hls:K.lc.lookup s=none:=by rw[h.iW s,hcs];rfl
    cases hct:m.cls t with
    | none=>
     rw[hct]at hcr;exact err 2 hcr.symm (.inr (.inl ⟨hls,by rw[h.iW t,hct];rfl,rfl⟩))
    | some a=>
     rw[hct]at hcr;simp only at hcr;have ha:=OO hct;have hlt:K.lc.lookup t=some ((VG (K.cb a))):=by rw[h.iW t,hct];rfl
     have h3:=h.cls.tot ha;have htot:=mP h.ok a;by_cases h9:10<(m.tot a:Int)+n
     . rw[ZU h9]at hcr;exact err 9 hcr.symm (.inr (.inr ⟨K.cb a,_,hls,hlt,h3,VH,VH,.inl ⟨VH,rfl⟩⟩))
     . rw[ZX h9]at hcr;by_cases h10:12<=m.kl.length
       . rw[ZU h10]at hcr;have:=h.ok.few;exact err 10 hcr.symm (.inr (.inr ⟨K.cb a,_,hls,hlt,h3,VH,VH,.inr ⟨VH,by rw[h.lcn];omega,rfl⟩⟩))
       . rw[ZX h10]at hcr;subst hcr;obtain⟨n',rfl⟩:∃n':Nat,n=(n':Int):=Dv;refine(H9 s t (n':Int) (m.tot a:Int) K.b K.mb (K.cb a) K.lc w hs hcn hn h.hd.c0 h.lc hls hlt h3 VH VH VH (by rw[h.lcn];omega)).mono ?_;rintro e w' ⟨rfl,Ty,hlo,hsm,hcm,hcb,hch⟩;rw[h.lcn]at hcb;rw[Zp]at hok ⊢;exact⟨rfl,_,h.aeG hcs ha hok hlo hsm hcm hcb hch⟩
def Oh (a0 a1:Int):Prop:=0<=a0/\a0<=6/\1<=a1/\a1<=64/\(bits BinOp.and IntKind.i64 a1 (a1-1)==0)=true
def Kd.new (s j np n:Nat):Kd where
 b:=s+2
 mb:=s
 cb:=λc=>if c=0 then s+4 else j+1
 cm:=λc=>if c=0 then s+3 else j
 lc:=[(JI,(VG (s+4))),(NH,(VG (j+1)))]
 lm:=λ_=>[]
 mid:=λ_ _=>none
 UC:=0
 k:={np:=np,sb:=s+1,n:=n,l:=[],ps:=λ_=>[],L:=[],pm:=λ_=>.no,R:=λ_=>noRow,Mk:=λ_=>False,md:=λ_=>⟨[],none,0,0,λ_=>0⟩}
 ov:=.slice none 0 0
 ob:=λ_=>0
def wJ:im0.kl.length=2:=rfl
def af5 {j:Nat}{a0 a1:Int}(hg:Qv w)(h:Oh a0 a1)(hn:NewAt w' w.heap.size j a0 a1)(hb:Below w.heap.size w w'):Ud w' im0 (Kd.new w.heap.size j a0.toNat a1.toNat)/\∀k,U2 im0 (Kd.new w.heap.size j a0.toNat a1.toNat) k->w.heap.size<=k:=by
 obtain⟨h0,h0,h2,h3,h3⟩:=h
 obtain⟨n0,rfl⟩:∃n0:Nat,a0=(n0:Int):=⟨a0.toNat,VH⟩
 obtain⟨n1,rfl⟩:∃n1:Nat,a1=(n1:Int):=⟨a1.toNat,VH⟩
 rw[Zp,Zp];have hlo:=hn.lo;obtain⟨i0,i1,i2,i3,i4,i5⟩:=aam hn.img
 have V':∀k,U2 im0 (Kd.new w.heap.size j n0 n1) k->w.heap.size<=k:=λk e=>by
  rcases e with e|e|⟨c,hc,e|e⟩|e|e|⟨i,hi,_⟩
  . have e:k=w.heap.size+2:=e;omega
  . have e:k=w.heap.size:=e;omega
  . have e:k=if c=0 then w.heap.size+4 else j+1:=e
    split at e<;>omega
  . have e:k=if c=0 then w.heap.size+3 else j:=e
    split at e<;>omega
  . rcases e with e|⟨s,e⟩|⟨p,s,hps,_⟩|e
    . have e:k=w.heap.size+1:=e;omega
    . cases e
    . cases hps
    . exact e.elim
  . rcases e with e|⟨i,hi,_⟩
    . cases e
    . exact absurd hi (by show ¬i<0;omega)
  . exact hi.elim
 have AW:=hg.same hb.size (λk hk=>hb.block k (hg.lt hk));refine⟨⟨acd,⟨⟨_,hn.img⟩,i5,afw hn.snd,⟨by show n0<=6;omega,by simp[Kd.new],λp s hps=>(by cases hps),λp s hps=>(by cases hps),λp s r hps=>(by cases hps),λp s p' s' q hps=>(by cases hps)⟩,λs p ⟨ib,e,_⟩=>(by cases e),λp s hps=>(by cases hps),agp hn.img (by show 1<=n1;omega) (by show n1<=64;omega),λi _=>.inr rfl,λk hk=>hk.elim,λk hk=>hk.elim⟩,⟨i0,i1,?_,?_,i4⟩,by show n0<=6;omega,ZN _,hn.cls,λs=>?_,rfl,⟨λc k hk=>?_,λc d hc hd e=>?_⟩,λc hc=>?_,λc s hc=>rfl,λc s=>?_,λc s k hk=>(by cases hk),⟨?_,λs e=>(by cases e),λc hc=>?_,λc hc=>?_,λc s hc e=>(by cases e),λc d hc hd e=>?_⟩,⟨YW _ _ _ _,λi o ho=>(by cases ho),λi k hi=>absurd hi (by show ¬i<0;omega),λ_=>rfl⟩,AW,λk hk hgl=>?_⟩,V'⟩
 . rw[show Go.RowKit.wrap64 ((im0.looks:Nat):Int)=0 from by unfold Go.RowKit.wrap64;simp[im0]];exact i2
 . rw[show Go.RowKit.wrap64 (((Kd.new w.heap.size j n0 n1).UC:Nat):Int)=0 from by unfold Go.RowKit.wrap64;simp[Kd.new]];exact i3
 . show List.lookup s [(JI,_),(NH,_)]=_;by_cases e0:s=JI
   . subst e0;have:im0.cls JI=some 0:=Vz;rw[this];simp[List.lookup,Tq,Kd.new]
   . by_cases e1:s=NH
     . subst e1;have:im0.cls NH=some 1:=Vz;rw[this];have:(NH==JI)=false:=Vz;simp[List.lookup,this,Tq,Kd.new]
     . have h0':=(Vf _ _).2 e0;have h1':=(Vf _ _).2 e1;have iu:((⟨#[65,110,121]⟩:ByteArray)==s)=false:=(Vf _ _).2 (λe=>e0 e.symm);have fl:((⟨#[73,110,116]⟩:ByteArray)==s)=false:=(Vf _ _).2 (λe=>e1 e.symm);have:im0.cls s=none:=by unfold Im.cls im0;simp[WC,iu,fl]
       rw[this];simp[List.lookup,h0',h1']
 . match c,hk with
   | 0,hk=>
    have hk:(⟨⟨#[65,110,121]⟩,none,0,[]⟩:Kl)=k:=by simpa[im0]using hk
    subst hk;exact hn.apj
   | 1,hk=>
    have hk:(⟨⟨#[73,110,116]⟩,some 0,0,[]⟩:Kl)=k:=by simpa[im0]using hk
    subst hk;exact hn.apP
   | c+2,hk=>simp[im0]at hk
 . have e:(if c=0 then w.heap.size+4 else j+1)=(if d=0 then w.heap.size+4 else j+1):=e;rw[wJ]at hc hd;split at e<;>split at e<;>omega
 . rw[wJ]at hc;show SMap w' (if c=0 then w.heap.size+3 else j) [];by_cases e:c=0
   . rw[ZU e];exact OL hn.anyM
   . rw[ZX e];exact OL hn.apg
 . show im0.own c s=none;unfold Im.own
   match c with
   | 0=>rfl
   | 1=>rfl
   | c+2=>simp[im0]
 . show w.heap.size≠w.heap.size+1;omega
 . show (if c=0 then w.heap.size+3 else j)≠w.heap.size;split<;>omega
 . show (if c=0 then w.heap.size+3 else j)≠w.heap.size+1;split<;>omega
 . have e:(if c=0 then w.heap.size+3 else j)=(if d=0 then w.heap.size+3 else j):=e;rw[wJ]at hc hd;split at e<;>split at e<;>omega
 . have h0:=V' k hk;have h2:=hg.lt hgl;omega
def new_any (a0 a1:Int)(w:World)(hg:Qv w)(h:Oh a0 a1):
 Calls prog 7 #[VI a0,VI a1] w λe w'=>∃K,e=.returned (.tuple #[VG K.b,VI 0])/\Ud w' im0 K/\(∀k,U2 im0 K k->w.heap.size<=k)/\Below w.heap.size w w':=by
 refine(akD a0 a1 w h.1 h.2.1 h.2.2.1 h.2.2.2.1 h.2.2.2.2).mono ?_;rintro e w' ⟨rfl,⟨j,hn⟩,hb⟩;obtain⟨h1,h2⟩:=af5 hg h hn hb;exact⟨_,rfl,h1,h2,hb⟩
def alo (a0 a1:Int)(w:World)(h:¬Oh a0 a1):
 Calls prog 7 #[VI a0,VI a1] w λe w'=>e=.returned (.tuple #[.pointer none,VI 1])/\w'=w:=by
 by_cases h0:0<=a0
 . by_cases h1:a0<=6
   . by_cases h2:1<=a1
     . by_cases h3:a1<=64
       . have h4:(bits BinOp.and IntKind.i64 a1 (a1-1)==0)=false:=by
          simpa[Oh,h0,h1,h2,h3]using h
         exact qH
       all_goals
        exact qH
     all_goals
      exact qH
   all_goals
    exact qH
 all_goals
  exact qH
structure ObF (w:World)(cb ob:Nat->Nat)(p:Option Addr)(obs:List Ob)(i:Nat)(o:Ob)(g:Nat):Prop where
 p:p=some (VJ g 0)
 c0:w.cell? (VJ g (i*2))=some ((VG (cb o.cls)))
 c1:w.cell? (VJ g (i*2+1))=some (.slice (some (VJ (ob i) 0)) o.slots.length o.slots.length)
 fz:∀k,w.frozen? (VJ g k)=false
 typ:∃cs,w.heap[g]?=some (.cells cs 105)
def OQ.form {cb ob:Nat->Nat}{v:Value}{obs:List Ob}(h:OQ w cb ob v obs):∃p cap,v=.slice p obs.length cap/\∀i o,obs[i]?=some o->∃g,v.ownBlock=some g/\ObF w cb ob p obs i o g:=by
 have hown:=h.own;rcases h.own.2 with⟨e,hn⟩|⟨g,cap,cur,e,h1,h1,h3⟩
 . refine⟨none,0,by rw[e,hn],λi o ho=>?_⟩;have:=(Z7.1 ho).1;omega
 . refine⟨some (VJ g 0),cap,e,λi o ho=>⟨g,Sv,rfl,?_,?_,λk=>UL.free ⟨_,_,h1⟩ k,⟨cur,h1⟩⟩⟩
   . have hi:=(Z7.1 ho).1;rw[e]at hown;rw[hown.cellAt (i*2) VH];exact(xR cb ob obs 0 i o ho).1
   . have hi:=(Z7.1 ho).1;rw[e]at hown;rw[hown.cellAt (i*2+1) VH];have:=(xR cb ob obs 0 i o ho).2;rw[YU]at this;exact this
def yB {b:Nat}{p:Option Addr}{n cap:Nat}(hn:n<=40)(h1:w.cell? (VJ b 1)=some (.slice p n cap))(o:Int):
 Calls prog 52 #[VG b,VI o] w λe w'=>e=.returned (.bool (decide (0<=o)&&decide (o<(n:Int))))/\w'=w:=by
 by_cases h0:0<=o
 . by_cases hl:o<(n:Int)
   . rw[show (decide (0<=o)&&decide (o<(n:Int)))=true from by simp[h0,hl]];go_enter func52,ntmps52;go_wp2
     go_ret
     exact⟨bF,rfl⟩
   . rw[show (decide (0<=o)&&decide (o<(n:Int)))=false from by simp[hl]];go_enter func52,ntmps52;go_wp2
     go_ret
     exact⟨bF,rfl⟩
 . rw[show (decide (0<=o)&&decide (o<(n:Int)))=false from by simp[h0]];go_enter func52,ntmps52;go_wp2
   go_ret
   exact⟨bF,rfl⟩
def af9 (h:U3 m)(s:ByteArray):m.made s=if s=⟨#[73,110,116]⟩ then none else m.cls s:=by
 unfold Im.made
 by_cases e:s=⟨#[73,110,116]⟩
 . rw[ZU e]
   cases hc:m.cls s with
   | none=>rfl
   | some c=>
    have:=(xZ h hc).2.2 e;subst this;rfl
 . rw[ZX e]
   cases hc:m.cls s with
   | none=>rfl
   | some c=>
    have:c≠1:=λe1=>e ((xZ h hc).2.1 e1)
    match c,this with
    | 0,_=>rfl
    | 1,h=>exact absurd rfl h
    | c+2,_=>rfl
def Dp (h:Ud w m K)(s:ByteArray):
 Calls prog 39 #[VG K.b,.string s] w λe w'=>e=.returned (.pointer (Vq ((m.made s).map K.cb)))/\w'=w:=by
 have lk:=h.look s;have c0:=h.hd.c0;have Wm:=af9 h.ok s
 by_cases e:s=⟨#[73,110,116]⟩
 . rw[ZU e]at Wm;rw[Wm];subst e;clear h Wm;go_enter func39,ntmps39;go_wp2
   go_ret
   exact KP
 . have n1:(s.toList==[73,110,116])=false:=ZF.2 (vO e);rw[ZX e]at Wm;rw[Wm];clear h Wm;go_enter func39,ntmps39;go_wp2
   go_ret
   exact KP
def Cls.name {cb cm:Nat->Nat}(h:Cls w m cb cm){c:Nat}{k:Kl}(hk:m.kl[c]?=some k):w.cell? (VJ (cb c) 0)=some (.string k.name):=by
 have:=h.at_ c k hk;refine FK ?_;rfl
def alE (h:Ud w m K)(o:Int):
 Calls prog 25 #[VG K.b,VI o] w λe w'=>e=.returned (.tuple #[.string (m.nP o).1,VI (m.nP o).2])/\w'=w:=by
 refine aji ?_;intro p cap hv hf c1 hn hcall;obtain⟨r,hr⟩:∃r,m.nP o=r:=Vx;rw[hr]
 cases ht:m.there o with
 | false=>
  have hdr:r=(⟨#[]⟩,4):=by rw[<- hr];unfold Im.nP;rw[ht];rfl
  subst hdr;rw[ht]at hcall;clear h hr ht hf hv;go_enter func25,ntmps25;go_wp2_with fail;refine hcall.mono ?_;rintro e w' ⟨rfl,rfl⟩;go_wp2
  go_ret2
  exact KP
 | true=>
  obtain⟨i,x,rfl,hx,hi,hil⟩:=Rj ht;obtain⟨g,hg,hF⟩:=hf i x hx;have hxo:=h.ok.obj x (ZK hx)
  obtain⟨kc,hk⟩:∃kc,m.kl[x.cls]?=some kc:=⟨_,Z8 hxo.1⟩
  have hdr:r=(kc.name,0):=amm;subst hdr;have n0:=h.cls.name hk;obtain⟨rfl⟩:=hF.p;have o0:=hF.c0;rw[ht]at hcall;refine Jz ?_;intro R6;clear h hr ht hf hv hF hg hxo hk hx;go_enter func25,ntmps25;go_wp2_with fail;refine hcall.mono ?_;rintro e w' ⟨rfl,rfl⟩;go_wp2
  go_ret2
  exact KP
def Lc {fn:Func}{p k:Tmp}(h:fn.results=#[.cell p 33,.tmp k]){tmps:Array Value}{z:Nat}(v0 v1 v:Value)(hp:tmps.getD p undef=(VG z))(hk:tmps.getD k undef=v)(z0:w.cell? (VJ z 0)=some v0)(z1:w.cell? (VJ z 1)=some v1):
 (results fn tmps).run prog w=.ok (.tuple #[.agg #[v0,v1],v]) w:=by
 exact alm
def OQ.val {cb ob:Nat->Nat}{v:Value}{obs:List Ob}(h:OQ w cb ob v obs){i:Nat}{o:Ob}(ho:obs[i]?=some o){j:Nat}{x:Vl}(hx:o.slots[j]?=some x):w.cell? (VJ (ob i) (j*2))=some (.bool x.obj)/\w.cell? (VJ (ob i) (j*2+1))=some (VI x.n):=by
 have hb:=h.at_ i o ho;have:=PV o.slots j x hx;refine Iq ?_;simpa using this
def aev (h:Ud w m K)(o j:Int):
 Calls prog 23 #[VG K.b,VI o,VI j] w λe w'=>e=.returned (.tuple #[(m.slot o j).1.val,VI (m.slot o j).2])/\Below w.heap.size w w':=by
 obtain⟨p,cap,hv,hf⟩:=h.obs.form;have c1:=h.hd.c1;rw[hv]at c1;have hn:=h.ok.objs;have c1':(w.alloc (.cells #[.bool false,VI 0] 33)).cell? (VJ K.b 1)=some (.slice p m.obs.length cap):=UG;have hcall:=yB hn c1' o;rw[show (decide (0<=o)&&decide (o<(m.obs.length:Int)))=m.there o from rfl]at hcall;obtain⟨r,hr⟩:∃r,m.slot o j=r:=Vx;rw[hr];refine aja ?_;intro hz z0 z1;have HB:Hid (Below w.heap.size w (w.alloc (.cells #[.bool false,VI 0] 33))):=(ZR _ w).alloc UM _
 cases ht:m.there o with
 | false=>
  have hdr:r=(Vl.zero,4):=by rw[<- hr];unfold Im.slot;rw[ht];rfl
  subst hdr;rw[ht]at hcall;clear h hr ht hf hv;go_enter func23,ntmps23;go_wp2_with fail;refine hcall.mono ?_;rintro e w' ⟨rfl,rfl⟩;go_wp2;refine aaZ ?_;exact⟨rfl,HB.o⟩
 | true=>
  obtain⟨i,x,rfl,hx,hi,hil⟩:=Rj ht;obtain⟨g,hg,hF⟩:=hf i x hx;have hxo:=h.ok.obj x (ZK hx)
  have hsl:m.slot (i:Int) j=(if 0<=j then (match x.slots[j.toNat]? with
   | some v=>(v,(0:Int))
   | none=>(Vl.zero,(4:Int))) else (Vl.zero,(4:Int))):=by unfold Im.slot;rw[ht,ZU rfl,hi,hx];rfl
  obtain⟨rfl⟩:=hF.p;have hgl:=ZE w (VJ g (i*2+1)) hF.c1;have o1:(w.alloc (.cells #[.bool false,VI 0] 33)).cell? (VJ g (i*2+1))=some (.slice (some (VJ (K.ob i) 0)) x.slots.length x.slots.length):=(Z9 (a:=(VJ g (i*2+1))) (ZV w _ g hgl)).trans hF.c1;rw[ht]at hcall;refine Jz ?_;intro R6
  have HO:Hid (OQ w K.cb K.ob K.ov m.obs/\m.obs[i]?=some x):=⟨h.obs,hx⟩
  clear h ht hf hv hF hg hxo hx;by_cases hj:0<=j
  . by_cases hjl:j<(x.slots.length:Int)
    . obtain⟨jn,rfl⟩:∃jn:Nat,j=(jn:Int):=⟨j.toNat,VH⟩
      obtain⟨u,hu⟩:∃u,x.slots[jn]?=some u:=⟨_,Z8 VH⟩
      have hdr:r=(u,0):=by rw[<- hr,hsl,ZU hj,Zp,hu]
      subst hdr;have Q0:=HO.o.1.at_ i x HO.o.2;have hol:=(Z5.1 Q0).1;obtain⟨u0,u1⟩:=HO.o.1.val HO.o.2 hu;have s0:(w.alloc (.cells #[.bool false,VI 0] 33)).cell? (VJ (K.ob i) (jn*2))=some (.bool u.obj):=(Z9 (a:=(VJ (K.ob i) (jn*2))) (ZV w _ _ hol)).trans u0;have s0:(w.alloc (.cells #[.bool false,VI 0] 33)).cell? (VJ (K.ob i) (jn*2+1))=some (VI u.n):=(Z9 (a:=(VJ (K.ob i) (jn*2+1))) (ZV w _ _ hol)).trans u1;have hz':=(Z4 w (.cells #[.bool u.obj,VI u.n] 33)).1;have y0:(w.alloc (.cells #[.bool u.obj,VI u.n] 33)).cell? (VJ w.heap.size 0)=some (.bool u.obj):=by simp only[World.cell?,hz'];rfl
      have y1:(w.alloc (.cells #[.bool u.obj,VI u.n] 33)).cell? (VJ w.heap.size 1)=some (VI u.n):=by simp only[World.cell?,hz'];rfl
      have cE:Hid (Below w.heap.size w (w.alloc (.cells #[.bool u.obj,VI u.n] 33))):=(ZR _ w).alloc UM _;clear hr hsl Q0 u0 u1 hu hz hz';go_enter func23,ntmps23;go_wp2_with fail;refine hcall.mono ?_;rintro e w' ⟨rfl,rfl⟩;go_wp2;refine ZQ (Lc rfl _ _ _ rfl rfl y0 y1) rfl ?_;exact⟨rfl,cE.o⟩
    . have hdr:r=(Vl.zero,4):=by rw[<- hr,hsl,ZU hj,Y8 VH]
      exact anS
  . have hdr:r=(Vl.zero,4):=by rw[<- hr,hsl,ZX hj]
    exact anS
def Ud.aa3 (h:Ud w m K){obs:List Ob}{ov:Value}{ob:Nat->Nat}(hm':U3 {m with obs:=obs}) (ho:OQ w' K.cb ob ov obs) (Ra:∀k,KF ob ov obs.length k->KF K.ob K.ov m.obs.length k\/w.heap.size<=k)
 (hch:Vt w w' (λk=>k=K.b\/KF K.ob K.ov m.obs.length k)) (Cz:∃cur,w'.heap[K.b]?=some (.cells cur 70)) (hcell:∀o,o≠1->w'.cell? (VJ K.b o)=w.cell? (VJ K.b o)) (hc1:w'.cell? (VJ K.b 1)=some ov):
 Step w w' m K {m with obs:=obs} {K with ov:=ov,ob:=ob}:=by
 have w9:∀k,KF K.ob K.ov m.obs.length k->UL w k/\(∀cs t fz,w.heap[k]?=some (.cells cs t fz)->t=105\/t=33):=λk hk=>by
  obtain⟨cs,hcs⟩:=h.obs.kind hk;rcases hcs with e|e
  . exact⟨⟨_,_,e⟩,λcs' t fz e'=>by rw[e]at e';injection e' with e';injection e' with _ e' _;exact .inl e'.symm⟩
  . exact⟨⟨_,_,e⟩,λcs' t fz e'=>by rw[e]at e';injection e' with e';injection e' with _ e' _;exact .inr e'.symm⟩
 have hty:∀k cs t fz,w.heap[k]?=some (.cells cs t fz)->t≠105->t≠33->¬KF K.ob K.ov m.obs.length k:=λk cs t fz hk h1 h2 e=>by
  rcases (w9 k e).2 cs t fz hk with e|e
  . exact h1 e
  . exact h2 e
 have hmp:∀k l,SMap w k l->¬(k=K.b\/KF K.ob K.ov m.obs.length k):=λk l hs e=>by
  rcases e with e|e
  . exact UA h.Uc.tab.Vb hs e.symm
  . exact UA (w9 k e).1 hs rfl
 have hcl:∀c,c<m.kl.length->¬(K.cb c=K.b\/KF K.ob K.ov m.obs.length (K.cb c)):=λc hc e=>by
  rcases e with e|e
  . exact(h.Uc.vI h.cls hc).2 e
  . exact hty _ _ _ _ (h.cls.at_ c _ (Z8 hc)) Vz Vz e
 have hcb:∀k,Td K.k k->¬(k=K.b\/KF K.ob K.ov m.obs.length k):=λk hk e=>by
  rcases e with e|e
  . exact h.Uc.bn (by rw[<- e];exact hk)
  . obtain⟨cs,hcs⟩:=h.obs.kind e;rcases hcs with hc|hc
    . exact h.Uc.other hc Vz Vz Vz hk
    . exact h.Uc.other hc Vz Vz Vz hk
 have hg:∀j,K.k.Mk j->1<=(K.k.md j).ws.length->¬((K.k.md j).g=K.b\/KF K.ob K.ov m.obs.length (K.k.md j).g):=λj hj h1 e=>by
  rcases e with e|e
  . exact(h.Uc.gn hj h1).2 e
  . obtain⟨x,hx⟩:∃x,(K.k.md j).ws[0]?=some x:=⟨_,Z8 VH⟩
    have c0:=(h.Uc.mt j hj).LV.c0 0 x hx;rw[Yu]at c0;rcases e with e|⟨i,hi,e⟩
    . obtain⟨p,cap,hv,hf⟩:=h.obs.form;by_cases hn:0<m.obs.length
      . obtain⟨g',hg',hF⟩:=hf 0 _ (Z8 hn);rw[hg']at e;injection e with e;have:=hF.c0;rw[e,Yu,c0]at this;cases this
      . have hnil:=h.obs.nil (Yq VH);rw[hnil]at e;cases e
    . have hb:=h.obs.at_ i _ (Z8 hi);rw[e]at c0;simp only[World.cell?,hb]at c0
      cases hsl:(m.obs[i]).slots with
      | nil=>rw[hsl]at c0;simp[vcs]at c0
      | cons a l=>rw[hsl]at c0;simp[vcs]at c0
 have V':∀k,U2 {m with obs:=obs} {K with ov:=ov,ob:=ob} k->U2 m K k\/w.heap.size<=k:=λk e=>by
  rcases e with e|e|e|e|e|e
  . exact .inl (.inl e)
  . exact .inl vJ
  . exact .inl EP
  . exact .inl adf
  . rcases Ra k e with e|e
    . exact .inl mM
    . exact .inr e
  . exact .inl aaN
 have Wa:Vt w w' (U2 m K):=hch.mono (λk _ e=>by
  rcases e with e|e
  . exact .inl e
  . exact .inr adf)
 have E':Qr w' K.b K.k (λ_=>False) (o8 m K) (SrI m K):=by
  have hcc:=h.Uc;have hblk:∀k,Td K.k k->w'.heap[k]?=w.heap[k]?:=λk e=>hch.block k (hcc.lt e) (hcb k e);have ht:=hcc.tab;refine⟨Cz,(hcell 5 VH).trans hcc.b5,⟨hcc.snd.map.same (hblk _ NP),λs v hv=>?_,hcc.snd.inj,λs ib p hs hp=>(hcc.snd.Vb s ib p hs hp).same (hblk p (.inr (.inr (.inl ⟨p,s,hcc.reg s p ⟨ib,hs,hp⟩,.inl rfl⟩))))⟩,hcc.Ru.same (λk e=>hblk k EP),hcc.reg,hcc.told,⟨?_,ht.n1,ht.n64,(hcell _ VH).trans ht.sz,λi hi=>(hcell _ VH).trans (ht.c0 i hi),λi hi=>(hcell _ VH).trans (ht.c1 i hi),λi hi=>(hcell _ VH).trans (ht.c2 i hi),λi hi=>(hcell _ VH).trans (ht.c3 i hi)⟩,hcc.rows,λk e=>(hcc.mt k e).same (hblk k aeg) (λh1=>hch.block _ ((hcc.mt k e).LV.Vb h1).lt (hg k e h1)),hcc.gq⟩
  . obtain⟨ib,rfl,h4,h5⟩:=hcc.snd.inn s v hv;exact⟨ib,rfl,h4.same (hblk _ (.inr (.inl ⟨s,hv⟩))),h5⟩
  . obtain⟨cur,V_⟩:=Cz;exact⟨_,_,V_⟩
 have hh:=h.hd;refine⟨⟨hm',E',⟨(hcell 0 VH).trans hh.c0,hc1,(hcell 2 VH).trans hh.c2,(hcell 3 VH).trans hh.c3,(hcell 4 VH).trans hh.c4⟩,h.np6,h.cll,h.lc.same (hch.block _ h.lc.lt (hmp _ _ h.lc)),h.iW,h.lcn,⟨(h.cls.Ut hch hcl).at_,h.cls.inj⟩,λc hc=>(h.lm c hc).same (hch.block _ (h.lm c hc).lt (hmp _ _ (h.lm c hc))),h.mid,h.own,h.yZ,agD,ho,h.J7.Ut Wa dY,λk hk hgl=>?_⟩,rfl,rfl,Wa,V',ZN _,λ_ _=>rfl,λk hk=>yg⟩;rcases V' k hk with e|e
 . exact h.gl k e hgl
 . have:=h.J7.lt hgl;omega
end Go.Proofs.Rz
namespace Go.Proofs.Rz
open ChangeShapes WideShapes ChangeAt RowKit Kn Iz Tryz
variable {w : World}
variable {m : Im}
variable {K : Kd}
def Ud.apL (h:Ud w m K){i c g:Nat}{x:Ob}(hx:m.obs[i]?=some x)(hg:K.ov.ownBlock=some g)(hm':U3 {m with obs:=m.obs.set i {x with cls:=c} }):
 Step w (w.setCell (VJ g (i*2)) ((VG (K.cb c)))) m K {m with obs:=m.obs.set i {x with cls:=c} } K:=by
 have hi:=(Z7.1 hx).1;obtain⟨p,cap,hv,hf⟩:=h.obs.form;obtain⟨g',hg',hF⟩:=hf i x hx;rw[hg']at hg;injection hg with hg;subst hg;obtain⟨rfl⟩:=hF.p;have hgO:KF K.ob K.ov m.obs.length g':=.inl hg';obtain⟨cs0,vj⟩:=hF.typ;have B_:∀j,j≠g'->(w.setCell (VJ g' (i*2)) ((VG (K.cb c)))).heap[j]?=w.heap[j]?:=λj hj=>ZW _ _ _ _ hj
 have hb:K.b≠g':=λe=>by
  obtain⟨cur,V_⟩:=h.Uc.img;rw[e,vj]at V_;injection V_ with V_;injection V_ with _ V_ _;revert V_;decide
 have hlen:(m.obs.set i {x with cls:=c}).length=m.obs.length:=Vy;have hown:=h.obs.own;rw[hv]at hown
 have hst:=(hown.stored (i*2) ((VG (K.cb c))))
 refine Ud.aa3 (ov:=K.ov) (ob:=K.ob) h hm' ⟨?_,λj o ho=>?_,λa b ha hb=>h.obs.inj a b (by rw[<- hlen];exact ha) (by rw[<- hlen];exact hb),λe=>?_⟩ (λk hk=>.inl (by rw[<- hlen];exact hk)) ((Vt.refl w _).setCell _ _ (λ_=>.inr hgO)) ?_ (λo _=>Z9 (a:=(VJ K.b o)) (B_ _ hb)) ((Z9 (a:=(VJ K.b 1)) (B_ _ hb)).trans h.hd.c1)
 . rw[hlen,hv,iE K.cb K.ob m.obs 0 i x {x with cls:=c} hx rfl];exact hst.1
 . have hne:K.ob j≠g':=λe=>by
    have hj:j<m.obs.length:=by rw[<- hlen];exact(Z7.1 ho).1
    have:=h.obs.at_ j _ (Z8 hj);rw[e,vj]at this;injection this with this;injection this with _ this _;revert this;decide
   refine(B_ _ hne).trans ?_;by_cases e:i=j
   . subst e;rw[List.getElem?_set_self hi]at ho;injection ho with ho;subst ho;exact h.obs.at_ i x hx
   . rw[List.getElem?_set_ne e]at ho;exact h.obs.at_ j o ho
 . have:(m.obs.set i {x with cls:=c}).length=0:=by rw[e];rfl
   omega
 . obtain⟨cur,V_⟩:=h.Uc.img;exact⟨cur,(B_ _ hb).trans V_⟩
def acP (h:Ud w m K)(o:Int)(cn:ByteArray):
 Calls prog 33 #[VG K.b,VI o,.string cn] w λe w'=>e=.returned (VI (m.be o cn).1)/\∃K',Step w w' m K (m.be o cn).2 K':=by
 refine aji ?_;intro p cap hv hf c1 hn hcall;have O_:=Dp h cn;have hok:=(adH h.ok o cn).1;obtain⟨r,hr⟩:∃r,m.be o cn=r:=Vx;rw[hr]at hok ⊢;unfold Im.be at hr
 cases ht:m.there o with
 | false=>
  rw[ht,ZU rfl]at hr;subst hr;rw[ht]at hcall;have HS:=UQ (Step.refl h);clear h O_ hf hv hok ht;go_enter func33,ntmps33;go_wp2_with fail;refine hcall.mono ?_;rintro e w' ⟨rfl,rfl⟩;go_wp2
  go_ret
  exact Ou
 | true=>
  rw[ht,ZX Vy]at hr;obtain⟨i,x,rfl,hx,hi,hil⟩:=Rj ht;obtain⟨g,hg,hF⟩:=hf i x hx;rw[ht]at hcall
  cases Wm:m.made cn with
  | none=>
   rw[Wm]at hr O_;simp only at hr;subst hr;simp only[Zm,Vq]at O_;have HS:=UQ (Step.refl h);clear h hf hv hok ht hF hx Wm;go_enter func33,ntmps33;go_wp2_with fail;refine hcall.mono ?_;rintro e w' ⟨rfl,rfl⟩;go_wp2_with fail;refine O_.mono ?_;rintro e w' ⟨rfl,rfl⟩;go_wp2
   go_ret
   exact Ou
  | some c=>
   rw[Wm]at hr O_;simp only[hi,hx]at hr;simp only[ZG,Vq]at O_;have hc:=OO (O7 Wm).2;have t3:=h.cls.tot hc;have hxo:=h.ok.obj x (ZK hx);have o1:=hF.c1;have o1:=hF.c0;have ofz:=hF.fz;obtain⟨rfl⟩:=hF.p;refine Jz ?_;intro R6
   have HH:Hid (Ud w m K/\m.obs[i]?=some x/\K.ov.ownBlock=some g):=⟨h,hx,hg⟩
   by_cases hne:m.tot c≠x.slots.length
   . rw[ZU hne]at hr;subst hr;have hnb:((m.tot c:Int) != (x.slots.length:Int))=true:=Vo;clear h hf hv hok ht hF hx Wm hg hxo;go_enter func33,ntmps33;go_wp2_with fail;refine hcall.mono ?_;rintro e w' ⟨rfl,rfl⟩;go_wp2_with fail;refine O_.mono ?_;rintro e w' ⟨rfl,rfl⟩;go_wp2_with fail
     go_region
     go_wp2
     go_ret
     exact⟨rfl,K,O9 HH.o.1⟩
   . rw[ZX hne]at hr;subst hr;have heq:m.tot c=x.slots.length:=VH;rw[heq]at t3;have HO:Hid _:=hok;clear h hf hv hok ht hF hx Wm hg hxo;go_enter func33,ntmps33;go_wp2_with fail;refine hcall.mono ?_;rintro e w' ⟨rfl,rfl⟩;go_wp2_with fail;refine O_.mono ?_;rintro e w' ⟨rfl,rfl⟩;go_wp2_with fail
     go_region
     go_wp2
     go_ret
     obtain⟨h,hx,hg⟩:=HH.o;exact⟨rfl,K,(O9 h).trans (h.drew.apL hx hg HO.o)⟩
def JF {b o:Nat}{cs:Array Value}{t:TypeId}(v:Value)(h:w.heap[b]?=some (.cells cs t)):(w.setCell (VJ b o) v).heap[b]?=some (.cells (cs.setIfInBounds o v) t):=by
 exact uX
def Ud.restore (h:Ud w m K){i j:Nat}{x:Ob}{v:Vl}(hx:m.obs[i]?=some x)(hj:j<x.slots.length)(hm':U3 {m with obs:=m.obs.modify i (λo=>{o with slots:=o.slots.set j v})}):
 Step w ((w.setCell (VJ (K.ob i) (j*2)) (.bool v.obj)).setCell (VJ (K.ob i) (j*2+1)) (VI v.n)) m K {m with obs:=m.obs.modify i (λo=>{o with slots:=o.slots.set j v})} K:=by
 have hi:=(Z7.1 hx).1;have hb0:=h.obs.at_ i x hx;have B_:∀k,k≠K.ob i->((w.setCell (VJ (K.ob i) (j*2)) (.bool v.obj)).setCell (VJ (K.ob i) (j*2+1)) (VI v.n)).heap[k]?=w.heap[k]?:=λk hk=>(ZW _ (VJ (K.ob i) (j*2+1)) _ _ hk).trans (ZW _ (VJ (K.ob i) (j*2)) _ _ hk)
 have hb:K.b≠K.ob i:=λe=>by
  obtain⟨cur,V_⟩:=h.Uc.img;rw[e,hb0]at V_;injection V_ with V_;injection V_ with _ V_ _;revert V_;decide
 have hlen:(m.obs.modify i (λo=>{o with slots:=o.slots.set j v})).length=m.obs.length:=Vy
 have hget:∀k o,(m.obs.modify i (λo=>{o with slots:=o.slots.set j v}))[k]?=some o->(k=i/\o={x with slots:=x.slots.set j v})\/(k≠i/\m.obs[k]?=some o):=λk o ho=>by
  rw[Y4]at ho;by_cases e:i=k
  . subst e;rw[hx]at ho;simp at ho;exact .inl ⟨rfl,ho.symm⟩
  . simp only[e,Zg]at ho;refine .inr ⟨λe'=>e e'.symm,?_⟩;simpa using ho
 refine Ud.aa3 (ov:=K.ov) (ob:=K.ob) h hm' ⟨?_,λk o ho=>?_,λa b ha hb=>h.obs.inj a b (by rw[<- hlen];exact ha) (by rw[<- hlen];exact hb),λe=>?_⟩ (λk hk=>.inl (by rw[<- hlen];exact hk)) (((Vt.refl w _).setCell _ _ (λ_=>.inr (.inr ⟨i,hi,rfl⟩))).setCell _ _ (λ_=>.inr (.inr ⟨i,hi,rfl⟩))) ?_ (λo _=>Z9 (a:=(VJ K.b o)) (B_ _ hb)) ((Z9 (a:=(VJ K.b 1)) (B_ _ hb)).trans h.hd.c1)
 . have e1:ER K.cb K.ob 0 (m.obs.modify i (λo=>{o with slots:=o.slots.set j v}))=ER K.cb K.ob 0 m.obs:=Kv _ _ 0 hlen (λk o o' ho ho'=>by
    rcases hget k o' ho' with⟨rfl,rfl⟩|⟨_,ho2⟩
    . rw[hx]at ho;injection ho with ho;subst ho;exact⟨rfl,rfl,Vy⟩
    . rw[ho]at ho2;injection ho2 with ho2;subst ho2
      exact vg)
   rw[hlen,e1];refine⟨h.obs.own.1,?_⟩;rcases h.obs.own.2 with e|⟨g,cap,cur,e,h1,h2,h3⟩
   . exact .inl e
   . refine .inr ⟨g,cap,cur,e,h1,(B_ g (λe'=>?_)).trans h2,h3⟩;rw[e',hb0]at h2;injection h2 with h2;injection h2 with _ h2 _;revert h2;decide
 . rcases hget k o ho with⟨rfl,rfl⟩|⟨hne,ho2⟩
   . have h1:=JF (w:=w) (b:=K.ob k) (o:=j*2) (.bool v.obj) hb0;have h2:=JF (w:=w.setCell (VJ (K.ob k) (j*2)) (.bool v.obj)) (b:=K.ob k) (o:=j*2+1) (VI v.n) h1;rw[h2,Ej x.slots j v hj];simp
   . exact(B_ _ (λe=>hne (h.obs.inj k i (by have:=(Z7.1 ho2).1;exact this) hi e))).trans (h.obs.at_ k o ho2)
 . have:(m.obs.modify i (λo=>{o with slots:=o.slots.set j v})).length=0:=by rw[e];rfl
   omega
 . obtain⟨cur,V_⟩:=h.Uc.img;exact⟨cur,(B_ _ hb).trans V_⟩
def Ho:(prog.info? 33).map (λi=>(i.zero,i.size,i.bytes))=some (some (.agg #[.bool false,VI 0]),2,16):=VE
def adM:(prog.info? 105).map (λi=>(i.zero,i.size,i.bytes))=some (some (.agg #[.pointer none,.slice none 0 0]),2,32):=VE
theorem ah:∀n,n<=10->madeCells #[.bool false,VI 0] (n*2)=(vcs (List.replicate n Vl.zero)).toArray
 | 0,_=>VE
 | 1,_=>VE
 | 2,_=>VE
 | 3,_=>VE
 | 4,_=>VE
 | 5,_=>VE
 | 6,_=>VE
 | 7,_=>VE
 | 8,_=>VE
 | 9,_=>VE
 | 10,_=>VE
 | n+11,h=>VH
def agn (n:Nat)(hn:n<=10)(w:World):(Instr.makeSlice 34 (VI (n:Int)) (VI (n:Int))).run prog w=.ok (.slice (some (VJ w.heap.size 0)) n n) (w.alloc (.cells (vcs (List.replicate n Vl.zero)).toArray 33)):=by
 obtain⟨i0,hi,h0,h1,h2⟩:=YQ Ho;have h:=VN (P:=prog) w 34 33 i0 _ underlying34 hi h0 .i64 .i64 (n:Int) (n:Int) VH VH (by rw[h2];omega) VH;refine ajb ?_;rw[ah n hn]
def Jg {fn:Func}{p:Tmp}(h:fn.results=#[.cell p 33]){tmps:Array Value}{z:Nat}(v0 v1:Value)(hp:tmps.getD p undef=(VG z))(z0:w.cell? (VJ z 0)=some v0)(z1:w.cell? (VJ z 1)=some v1):
 (results fn tmps).run prog w=.ok (.agg #[v0,v1]) w:=by
 exact aa8
structure Un (w:World)(fb:Nat)(mp kp:Option Addr)(sf:Vl)(args:List Vl)(pc:Nat)(st:List Vl)(snd:Option Nat):Prop where
 blk:∃cs:Array Value,w.heap[fb]?=some (.cells cs 212)/\cs.size=45
 c0:w.cell? (VJ fb 0)=some (.pointer mp)
 c1:w.cell? (VJ fb 1)=some (.pointer kp)
 c2:w.cell? (VJ fb 2)=some (.bool sf.obj)
 c3:w.cell? (VJ fb 3)=some (VI sf.n)
 ca:∀i v,args[i]?=some v->w.cell? (VJ fb (4+i*2))=some (.bool v.obj)/\w.cell? (VJ fb (4+i*2+1))=some (VI v.n)
 a3:args.length<=3
 cp:w.cell? (VJ fb 10)=some (VI (pc:Nat))
 cs:∀i v,st.reverse[i]?=some v->w.cell? (VJ fb (11+i*2))=some (.bool v.obj)/\w.cell? (VJ fb (11+i*2+1))=some (VI v.n)
 s16:st.length<=16
 ch:w.cell? (VJ fb 43)=some (VI (st.length:Nat))
 cn:w.cell? (VJ fb 44)=some (.pointer (Vq snd))
def Un.Vb {fb:Nat}{mp kp:Option Addr}{sf:Vl}{args:List Vl}{pc:Nat}{st:List Vl}{snd:Option Nat}(h:Un w fb mp kp sf args pc st snd):UL w fb:=by
 obtain⟨cs,e,_⟩:=h.blk;exact⟨_,_,e⟩
def Un.some {fb:Nat}{mp kp:Option Addr}{sf:Vl}{args:List Vl}{pc:Nat}{st:List Vl}{snd:Option Nat}(h:Un w fb mp kp sf args pc st snd){o:Nat}(ho:o<45):∃v,w.cell? (VJ fb o)=some v:=by
 exact amg
variable {w' : World}
def Un.same {fb:Nat}{mp kp:Option Addr}{sf:Vl}{args:List Vl}{pc:Nat}{st:List Vl}{snd:Option Nat}(h:Un w fb mp kp sf args pc st snd)(e:w'.heap[fb]?=w.heap[fb]?):Un w' fb mp kp sf args pc st snd:=by
 have hc:∀o,w'.cell? (VJ fb o)=w.cell? (VJ fb o):=λo=>Z9 e;obtain⟨cs,e1,hz⟩:=h.blk;exact⟨⟨cs,e.trans e1,hz⟩,(hc _).trans h.c0,(hc _).trans h.c1,(hc _).trans h.c2,(hc _).trans h.c3,λi v hv=>⟨(hc _).trans (h.ca i v hv).1,(hc _).trans (h.ca i v hv).2⟩,h.a3,(hc _).trans h.cp,λi v hv=>⟨(hc _).trans (h.cs i v hv).1,(hc _).trans (h.cs i v hv).2⟩,h.s16,(hc _).trans h.ch,(hc _).trans h.cn⟩
def I4 {fb:Nat}(h:∃cs:Array Value,w.heap[fb]?=some (.cells cs 212)/\cs.size=45)(o:Nat)(v:Value):∃cs:Array Value,(w.setCell (VJ fb o) v).heap[fb]?=some (.cells cs 212)/\cs.size=45:=by
 exact al3
def fo {fb:Nat}(W:World)(v:Value)(o p:Nat)(hne:o≠p):(W.setCell (VJ fb p) v).cell? (VJ fb o)=W.cell? (VJ fb o):=VD PO
def Un.goto {fb:Nat}{mp kp:Option Addr}{sf:Vl}{args:List Vl}{pc:Nat}{st:List Vl}{snd:Option Nat}(h:Un w fb mp kp sf args pc st snd)(eQ:Nat):Un (w.setCell (VJ fb 10) (VI (eQ:Nat))) fb mp kp sf args eQ st snd:=by
 have h3:=h.a3;refine⟨I4 h.blk _ _,(fo _ _ _ _ VH).trans h.c0,(fo _ _ _ _ VH).trans h.c1,(fo _ _ _ _ VH).trans h.c2,(fo _ _ _ _ VH).trans h.c3,λi v hv=>?_,h.a3,Vr h.cp,λi v hv=>⟨(fo _ _ _ _ VH).trans (h.cs i v hv).1,(fo _ _ _ _ VH).trans (h.cs i v hv).2⟩,h.s16,(fo _ _ _ _ VH).trans h.ch,(fo _ _ _ _ VH).trans h.cn⟩;exact anu
def Un.lay {fb:Nat}{mp kp:Option Addr}{sf:Vl}{args:List Vl}{pc:Nat}{st:List Vl}{snd:Option Nat}(h:Un w fb mp kp sf args pc st snd)(hs:st.length<16)(v:Vl):
 Un (((w.setCell (VJ fb (11+st.length*2)) (.bool v.obj)).setCell (VJ fb (11+st.length*2+1)) (VI v.n)).setCell (VJ fb 43) (VI ((st.length+1:Nat):Int))) fb mp kp sf args pc (v::st) snd:=by
 have h3:=h.a3;obtain⟨o0,h3⟩:=h.some (o:=11+st.length*2) VH;obtain⟨o0,h1⟩:=h.some (o:=11+st.length*2+1) VH
 have key:∀o,(o<11\/44<=o\/(11<=o/\o<11+st.length*2))->(((w.setCell (VJ fb (11+st.length*2)) (.bool v.obj)).setCell (VJ fb (11+st.length*2+1)) (VI v.n)).setCell (VJ fb 43) (VI ((st.length+1:Nat):Int))).cell? (VJ fb o)=w.cell? (VJ fb o):=λo ho=>by
  rw[fo _ _ _ _ VH,fo _ _ _ _ VH,fo _ _ _ _ VH]
 refine⟨I4 (I4 (I4 h.blk _ _) _ _) _ _,(key _ VH).trans h.c0,(key _ VH).trans h.c1,(key _ VH).trans h.c2,(key _ VH).trans h.c3,λi x hx=>?_,h.a3,(key _ VH).trans h.cp,λi x hx=>?_,Vo,?_,(key _ VH).trans h.cn⟩
 . have:=(Z7.1 hx).1;exact⟨(key _ VH).trans (h.ca i x hx).1,(key _ VH).trans (h.ca i x hx).2⟩
 . rw[Xf]at hx;by_cases e:i<st.length
   . rw[ZH (by simpa using e)]at hx;exact⟨(key _ VH).trans (h.cs i x hx).1,(key _ VH).trans (h.cs i x hx).2⟩
   . have hi:i=st.length:=by have:=(Z7.1 hx).1;simp at this;omega
     subst hi;rw[ZP Vy]at hx;simp at hx;subst hx;constructor
     . rw[fo _ _ _ _ VH,fo _ _ _ _ VH];exact Vr h3
     . rw[fo _ _ _ _ VH];exact Vr ((fo _ _ _ _ VH).trans h1)
 . exact Vr (((fo _ _ _ _ VH).trans agc).trans h.ch)
def Un.take {fb:Nat}{mp kp:Option Addr}{sf:Vl}{args:List Vl}{pc:Nat}{st:List Vl}{snd:Option Nat}(h:Un w fb mp kp sf args pc st snd){k:Nat}(hk:k<=st.length):
 Un (w.setCell (VJ fb 43) (VI ((st.length-k:Nat):Int))) fb mp kp sf args pc (st.drop k) snd:=by
 have h3:=h.a3;have h3:=h.s16;refine⟨I4 h.blk _ _,(fo _ _ _ _ VH).trans h.c0,(fo _ _ _ _ VH).trans h.c1,(fo _ _ _ _ VH).trans h.c2,(fo _ _ _ _ VH).trans h.c3,λi v hv=>?_,h.a3,(fo _ _ _ _ VH).trans h.cp,λi v hv=>?_,Vo,?_,(fo _ _ _ _ VH).trans h.cn⟩
 . exact anu
 . have hl:=(Z7.1 hv).1;simp at hl
   have hv':st.reverse[i]?=Option.some v:=by
    rw[<- hv,List.reverse_drop,Zl VH]
   exact⟨(fo _ _ _ _ VH).trans (h.cs i v hv').1,(fo _ _ _ _ VH).trans (h.cs i v hv').2⟩
 . rw[Vr h.ch];simp
def Jc (e:Int):List PanicEntry:=[{v:=.iface 167 (VI e),recovered:=false}]
def RX {fb:Nat}{mp kp:Option Addr}{sf:Vl}{args:List Vl}{pc:Nat}{st:List Vl}{snd:Option Nat}(h:Un w fb mp kp sf args pc st snd)(hs:st.length<16)(v:Vl):
 Calls prog 143 #[VG fb,v.val] w λe w'=>e=.returned (.tuple #[])/\Un w' fb mp kp sf args pc (v::st) snd/\Vt w w' (λk=>k=fb):=by
 obtain⟨W1,hW1⟩:∃W1,W1=w.alloc (.cells #[.bool v.obj,VI v.n] 33):=Vx;have Hp:Vt w W1 (λk=>k=fb):=by rw[hW1];exact(Vt.refl w _).alloc _
 have v0:W1.cell? (VJ w.heap.size 0)=some (.bool v.obj):=by rw[hW1];exact Ug w _ _ _ 0 rfl
 have v0:W1.cell? (VJ w.heap.size 1)=some (VI v.n):=by rw[hW1];exact Ug w _ _ _ 1 rfl
 have hfl:=h.Vb.lt;have h:Un W1 fb mp kp sf args pc st snd:=h.same (by rw[hW1];exact ZV _ _ _ hfl);have HF:Hid _:=h;obtain⟨o0,h0⟩:=h.some (o:=11+st.length*2) VH;obtain⟨o0,h0⟩:=h.some (o:=11+st.length*2+1) VH;have ch:=h.ch;have ya:¬fb=w.heap.size:=VH;have Z1:¬43=11+st.length*2:=VH;have W7:¬43=11+st.length*2+1:=VH;have hfz:=λo=>h.Vb.free o;have hs':(st.length:Int)<16:=VH;have k43:((W1.setCell (VJ fb (11+st.length*2)) (.bool v.obj)).setCell (VJ fb (11+st.length*2+1)) (VI v.n)).cell? (VJ fb 43)=some (VI (st.length:Nat)):=by rw[fo _ _ _ _ W7,fo _ _ _ _ Z1];exact ch
 clear h;unfold Vl.val;go_enter func143,ntmps143;go_wp2_with fail;rw[<- hW1];clear hW1;refine Uy ?_;refine ZT (S:=(λw'=>w'.cell? (VJ w.heap.size 0)=some (.bool v.obj)/\w'.cell? (VJ w.heap.size 1)=some (VI v.n)/\w'.cell? (VJ fb 43)=some (VI (st.length:Nat)))) VE UG (λhHeld=>?_);refine Il ?_;intro Y_ Z_;refine Vg ?_;intro hHeld;clear Z_ Y_;refine tZ ?_;intro hHeld;go_wp2
 go_end0
 exact⟨rfl,(HF.o.lay hs v).same rfl,(((Hp.setCell _ _ (λ_=>rfl)).setCell _ _ (λ_=>rfl)).setCell _ _ (λ_=>rfl)).drew⟩
def qU {fb:Nat}{mp kp:Option Addr}{sf:Vl}{args:List Vl}{pc:Nat}{v:Vl}{st:List Vl}{snd:Option Nat}(h:Un w fb mp kp sf args pc (v::st) snd):
 Calls prog 144 #[VG fb] w λe w'=>e=.returned v.val/\Un w' fb mp kp sf args pc st snd/\Vt w w' (λk=>k=fb)/\∀o,o≠43->w'.cell? (VJ fb o)=w.cell? (VJ fb o):=by
 have hfl:=h.Vb.lt;have h_:=h.s16;simp only[ZI]at h_;obtain⟨x0,x1⟩:=h.cs st.length v (by rw[Xf,ZP Vy];simp);obtain⟨W2,hW2⟩:∃W2,W2=(w.setCell (VJ fb 43) (VI (st.length:Nat))).alloc (.cells #[.bool false,VI 0] 33):=Vx
 have hfr:Un W2 fb mp kp sf args pc st snd:=by
  have:=h.take (k:=1) Vy;simp only[ZI,Nat.add_sub_cancel,X8,X5]at this;rw[hW2];exact this.same (ZV _ _ _ (by simpa[World.setCell]using hfl))
 have HF:Hid _:=hfr;have hC2:Vt w W2 (λk=>k=fb):=by rw[hW2];exact((Vt.refl w (λk=>k=fb)).setCell _ _ (λ_=>rfl)).alloc _
 have hzs:(w.setCell (VJ fb 43) (VI (st.length:Nat))).heap.size=w.heap.size:=zb4
 have hb:W2.heap[w.heap.size]?=some (.cells #[.bool false,VI 0] 33):=by
  rw[hW2];have:=(Z4 (w.setCell (VJ fb 43) (VI (st.length:Nat))) (.cells #[.bool false,VI 0] 33)).1;rw[hzs]at this;exact this
 have ch:=h.ch;simp only[ZI,XK,WS]at ch;have fz:=λo=>h.Vb.free o;have z0:W2.cell? (VJ w.heap.size 0)=some (.bool false):=by simp only[World.cell?,hb];rfl
 have z1:W2.cell? (VJ w.heap.size 1)=some (VI 0):=by simp only[World.cell?,hb];rfl
 have zf:∀o,W2.frozen? (VJ w.heap.size o)=false:=λo=>UL.free ⟨_,_,hb⟩ o;have ch2:=hfr.ch;have hblk:W2.heap[fb]?=(w.setCell (VJ fb 43) (VI (st.length:Nat))).heap[fb]?:=by rw[hW2];exact ZV _ _ _ (by rw[hzs];exact hfl)
 have y0:=(Z9 (a:=(VJ fb (11+st.length*2))) hblk).trans ((fo _ _ _ _ VH).trans x0);have y0:=(Z9 (a:=(VJ fb (11+st.length*2+1))) hblk).trans ((fo _ _ _ _ VH).trans x1);have T':¬w.heap.size=fb:=VH;have T':¬fb=w.heap.size:=VH;have hs':(st.length:Int)<16:=VH;have Ca:Hid _:=hblk;clear h hfr hb hblk x0 x1;unfold Vl.val;go_enter func144,ntmps144;go_wp2_with fail;rw[<- hW2];clear hW2 ch fz;refine Uy ?_;refine ZT (S:=(λw'=>w'.cell? (VJ fb (11+st.length*2))=some (.bool v.obj)/\w'.cell? (VJ fb (11+st.length*2+1))=some (VI v.n)/\w'.cell? (VJ fb 43)=some (VI (st.length:Nat)))) VE UG (λhHeld=>?_);refine zr3 ?_;refine Ur 6 ?_;refine Ul 7 λY_ Z_=>?_;refine Vg ?_;intro hHeld;clear Z_ Y_
 try refine UE ?_
 refine Ur 8 ?_;refine Ul 9 λY_ Z_=>?_;refine Vg ?_;intro hHeld;clear Z_ Y_;refine Um ?_;go_wp2;have hfb:((W2.setCell (VJ w.heap.size 0) (.bool v.obj)).setCell (VJ w.heap.size 1) (VI v.n)).heap[fb]?=W2.heap[fb]?:=(ZW _ _ _ _ T').trans (ZW _ _ _ _ T');refine ZQ (Jg (z:=w.heap.size) results144 (.bool v.obj) (VI v.n) rfl ?_ ?_) rfl ⟨rfl,HF.o.same hfb,(hC2.then ((((Vt.refl W2 (λk=>k=w.heap.size)).setCell _ _ (λ_=>rfl)).setCell _ _ (λ_=>rfl))) aK).drew,λo ho=>(Z9 (a:=(VJ fb o)) hfb).trans ((Z9 (a:=(VJ fb o)) Ca.o).trans (fo _ _ _ _ ho))⟩
 . show ((W2.setCell (VJ w.heap.size 0) (.bool v.obj)).setCell (VJ w.heap.size 1) (VI v.n)).cell? (VJ w.heap.size 0)=_;rw[fo _ _ _ _ VH];exact Vr z0
 . exact Vr ((fo _ _ _ _ VH).trans z1)
def take_any {fb:Nat}{mp kp:Option Addr}{sf:Vl}{args:List Vl}{pc:Nat}{v:Vl}{st:List Vl}{snd:Option Nat}(h:Un w fb mp kp sf args pc (v::st) snd):
 Calls prog 144 #[VG fb] w λe w'=>e=.returned v.val/\Un w' fb mp kp sf args pc st snd/\Vt w w' (λk=>k=fb):=
 (qU h).mono (λe w' ⟨h1,h2,h3,_⟩=>⟨h1,h2,h3⟩)
def Lu {fb:Nat}{mp kp:Option Addr}{sf:Vl}{args:List Vl}{pc:Nat}{n:Int}{st:List Vl}{snd:Option Nat}(h:Un w fb mp kp sf args pc (⟨false,n⟩::st) snd):
 Calls prog 147 #[VG fb] w λe w'=>e=.returned (VI n)/\Un w' fb mp kp sf args pc st snd/\Vt w w' (λk=>k=fb):=by
 have hcall:=take_any h;unfold Vl.val at hcall;clear h;go_enter func147,ntmps147;go_wp2_with fail;refine hcall.mono ?_;rintro e w' ⟨rfl,hf,hc⟩
 have HF:Hid (Un (w'.alloc (.cells #[.bool false,VI n] 33)) fb mp kp sf args pc st snd/\Vt w (w'.alloc (.cells #[.bool false,VI n] 33)) (λk=>k=fb)):=⟨hf.same (ZV _ _ _ hf.Vb.lt),hc.alloc _⟩
 clear hf hc hcall;go_wp2
 go_ret
 exact⟨rfl,HF.o⟩
def BL {fb:Nat}{mp kp:Option Addr}{sf:Vl}{args:List Vl}{pc:Nat}{n:Int}{st:List Vl}{snd:Option Nat}(h:Un w fb mp kp sf args pc (⟨true,n⟩::st) snd):
 Calls prog 147 #[VG fb] w λe w'=>e=.panicked (Jc 3)/\Vt w w' (λk=>k=fb):=by
 have hcall:=take_any h;unfold Vl.val at hcall;clear h;go_enter func147,ntmps147;go_wp2_with fail;refine hcall.mono ?_;rintro e w' ⟨rfl,hf,hc⟩;have HF:Hid (Vt w (w'.alloc (.cells #[.bool true,VI n] 33)) (λk=>k=fb)):=hc.alloc _;clear hf hc hcall;go_wp2;exact⟨rfl,rfl,HF.o⟩
def dB {fb:Nat}{mp kp:Option Addr}{sf:Vl}{args:List Vl}{pc:Nat}{a b:Int}{st:List Vl}{snd:Option Nat}(h:Un w fb mp kp sf args pc (⟨false,b⟩::⟨false,a⟩::st) snd):
 Calls prog 145 #[VG fb] w λe w'=>e=.returned (.tuple #[VI a,VI b])/\Un w' fb mp kp sf args pc st snd/\Vt w w' (λk=>k=fb):=by
 have hcall:=Lu h;clear h;go_enter func145,ntmps145;go_wp2_with fail;refine hcall.mono ?_;rintro e w' ⟨rfl,hf,hc⟩;have O_:=Lu hf;clear hf hcall;go_wp2_with fail;refine O_.mono ?_;rintro e w2 ⟨rfl,hf,hc2⟩
 have HF:Hid (Un w2 fb mp kp sf args pc st snd/\Vt w w2 (λk=>k=fb)):=⟨hf,hc.then hc2 Qi⟩
 clear hf hc O_ hc2;go_wp2
 go_ret2
 exact⟨rfl,HF.o⟩
def bP {fb:Nat}{mp kp:Option Addr}{sf:Vl}{args:List Vl}{pc:Nat}{a b:Vl}{st:List Vl}{snd:Option Nat}(h:Un w fb mp kp sf args pc (b::a::st) snd)(ho:(a.obj||b.obj)=true):
 Calls prog 145 #[VG fb] w λe w'=>e=.panicked (Jc 3)/\Vt w w' (λk=>k=fb):=by
 obtain⟨bo,bn⟩:=b;obtain⟨ao,an⟩:=a
 cases bo with
 | true=>
  have hcall:=BL h;clear h;go_enter func145,ntmps145;go_wp2_with fail;refine hcall.mono ?_;rintro e w' ⟨rfl,hc⟩;have HF:Hid _:=hc;clear hc hcall;go_wp2;exact⟨rfl,rfl,HF.o⟩
 | false=>
  simp at ho;subst ho;have hcall:=Lu h;clear h;go_enter func145,ntmps145;go_wp2_with fail;refine hcall.mono ?_;rintro e w' ⟨rfl,hf,hc⟩;have O_:=BL hf;clear hf hcall;go_wp2_with fail;refine O_.mono ?_;rintro e w2 ⟨rfl,hc2⟩;have HF:=UQ (hc.then hc2 Qi);clear hc O_ hc2;go_wp2;exact⟨rfl,rfl,HF.o⟩
variable {w1 w2 : World}
def _root_.Go.RowKit.Below.then (h:Below w.heap.size w w1)(h':Below w1.heap.size w1 w2):Below w.heap.size w w2:=h.trans (h'.mono h.size)
def RD {fn:Func}{p:Tmp}(h:fn.results=#[.cell p 62]){tmps:Array Value}{z:Nat}(v0 v1:Value)(hp:tmps.getD p undef=(VG z))(z0:w.cell? (VJ z 0)=some v0)(z1:w.cell? (VJ z 1)=some v1):
 (results fn tmps).run prog w=.ok (.agg #[v0,v1]) w:=by
 exact aa8
def rH {fn:Func}{p:Tmp}(h:fn.results=#[.cell p 64]){tmps:Array Value}{z:Nat}(v0 v1 v2 v3:Value)(hp:tmps.getD p undef=(VG z))(z0:w.cell? (VJ z 0)=some v0)(z1:w.cell? (VJ z 1)=some v1)(z2:w.cell? (VJ z 2)=some v2)(z3:w.cell? (VJ z 3)=some v3):
 (results fn tmps).run prog w=.ok (.agg #[v0,v1,v2,v3]) w:=by
 have hp2:tmps[p]?.getD undef=(VG z):=adi;simp[results,h,hp2,go_sem,z0,z1,z2,z3]
theorem jQ {α:Type}(ab:Nat->Option Nat)(ow:Nat->Option α)(f c:Nat):UJ ab ow (f+1) (some c)=match ow c with
 | some x=>some (c,x)
 | none=>UJ ab ow f (ab c):=rfl
def Kd.says (K:Kd)(m:Im)(s:ByteArray)(c:Option Nat):Option (Nat×Nat):=UJ m.ab (λc=>K.mid c s) (m.kl.length+1) c
def EX (K:Kd)(r:Option (Nat×Nat)):Value:=.agg #[.pointer (Vq (r.map (λx=>K.cb x.1))),.pointer (Vq (r.map (·.2)))]
def aP (h:Ud w m K)(c:Option Nat)(hc:∀x,c=some x->x<m.kl.length)(s:ByteArray):
 Calls prog 163 #[.pointer (Vq (c.map K.cb)),.string s] w λe w'=>e=.returned (EX K (K.says m s c))/\Below w.heap.size w w':=by
 obtain⟨r,hr1,hr2⟩:=Io h.ok;unfold Kd.says;obtain⟨b,hb⟩:∃b,UJ m.ab (λc=>K.mid c s) (m.kl.length+1) c=b:=Vx;rw[hb];have HB:Hid _:=hb;have HA:Hid (Below w.heap.size w (w.alloc (.cells #[.pointer none,.pointer none] 62))):=(ZR _ w).alloc UM _;have HK:=UQ (h.below HA.o);have HN:∀(v0 v1:Value) (k:Nat),(w.alloc (.cells #[v0,v1] 62)).cell? (VJ w.heap.size k)=#[v0,v1][k]?:=λv0 v1 k=>Ug w _ _ _ k rfl;clear hb h;go_enter func163,ntmps163;go_wp2
 go_loopg [0] (m.kl.length+1) (λgk v wr=>∃e:Option Nat,v=.pointer (Vq (e.map K.cb))/\(∀x,e=some x->x<m.kl.length/\r x<gk)/\UJ m.ab (λc=>K.mid c s) gk e=b/\wr=w.alloc (.cells #[.pointer none,.pointer none] 62))
 case atStart=>exact⟨c,rfl,λx hx=>⟨hc x hx,agw⟩,HB.o,rfl⟩
 case round=>
  obtain⟨e,rfl,he,hu,rfl⟩:=hrel
  cases e with
  | none=>
   have pB:b=none:=by rw[<- hu];exact Ja _ _ _
   subst pB;simp only[Zm,Vq];clear hu he;go_wp2;refine ZQ (RD (z:=w.heap.size) results163 (.pointer none) (.pointer none) rfl (HN _ _ 0) (HN _ _ 1)) rfl ⟨rfl,HA.o⟩
  | some x=>
   obtain⟨hx,hrx⟩:=he x rfl
   obtain⟨g,rfl⟩:∃g,gk=g+1:=⟨gk-1,VH⟩
   have hab:=HK.o.cls.above hx;have hcm:=HK.o.cls.meth hx;have lk:=HK.o.iK hx s;rw[jQ]at hu;simp only[ZG,Vq]at hab lk ⊢
   cases Wm:K.mid x s with
   | some k=>
    rw[Wm]at lk;simp only[Wm,ZG]at lk hu;subst hu;clear he;go_wp2;refine ZQ (RD (z:=w.heap.size) results163 ((VG (K.cb x))) (VG k) rfl (HN _ _ 0) (HN _ _ 1)) rfl alR
   | none=>
    rw[Wm]at lk;simp only[Wm,Zm]at lk hu;have HU:Hid _:=hu;clear hu he;go_wp2
    go_roundg g
    case measure=>omega
    case rel=>
     exact⟨m.ab x,by simp[Vq],λy hy=>⟨CS HK.o.ok hy,by have:=hr2 x y hy;omega⟩,HU.o,rfl⟩
def TabAt.put {b n:Nat}{R:Nat->U1}(h:TabAt w b n R){i:Nat}(hi:i<64)(r:U1):
 TabAt ((((w.setCell (VJ b (6+i*4)) (.pointer r.fr)).setCell (VJ b (6+i*4+1)) (.string r.sel)).setCell (VJ b (6+i*4+2)) (.pointer r.hm)).setCell (VJ b (6+i*4+3)) (.pointer r.mt)) b n (λj=>if j=i then r else R j):=by
 refine aiX ?_;intro ho;refine⟨(((h.Vb.setCell _ _).setCell _ _).setCell _ _).setCell _ _,h.n1,h.n64,?_,λj hj=>?_,λj hj=>?_,λj hj=>?_,λj hj=>?_⟩
 . rw[ho _ _ _ _ VH,ho _ _ _ _ VH,ho _ _ _ _ VH,ho _ _ _ _ VH];exact h.sz
 . exact anm
 . exact am4
 . exact aoi
 . exact aom
def Ae (s:ByteArray)(cap k:Nat)(hk:k<s.size):∃n:Nat,n<256/\(bytesRow s cap)[k]?=some (.int .u8 n):=by
 refine⟨(s.data[k]'hk).toNat,(s.data[k]'hk).toNat_lt,?_⟩;unfold bytesRow;rw[Yh (by simpa using hk)];rw[Array.getElem?_map,Xx hk];rfl
def acD (h:Ud w m K){c:Nat}(hc:c<m.kl.length)(s:ByteArray)(hs:s.size<=1000):
 Calls prog 166 #[.agg #[VG (K.cb c),.string s]] w λe w'=>(∃n:Nat,e=.returned (.int .u32 n))/\Below w.heap.size w w':=by
 have hcv:=λW=>run_bytes_of_string (P:=prog) W 9 200 5 s underlying9 underlying200 underlying5
 have cn:w.cell? (VJ (K.cb c) 1)=some (VI (c:Nat)):=by
  have:=h.cls.at_ c _ (Z8 hc);refine FK ?_;rfl
 have hcl:=(h.cls.Vb hc).lt;have Lw:=h.ok.few;clear h;go_enter func166,ntmps166;go_wp2;obtain⟨W1,hW1⟩:∃W1,W1=((w.alloc (.cells #[VG (K.cb c),.string s] 59)).drew.alloc (.cells (bytesRow s (grownCap (w.alloc (.cells #[VG (K.cb c),.string s] 59)) s.size 0 5)) 5 ((bytesRow s (grownCap (w.alloc (.cells #[VG (K.cb c),.string s] 59)) s.size 0 5)).size,(bytesRow s (grownCap (w.alloc (.cells #[VG (K.cb c),.string s] 59)) s.size 0 5)).size+1))):=Vx;have hB1:Below w.heap.size w W1:=by rw[hW1];exact((ZR _ w).alloc UM _).drew.alloc Vy _
 have q0:W1.cell? (VJ w.heap.size 0)=some ((VG (K.cb c))):=by
  rw[hW1];refine(Z9 (a:=(VJ w.heap.size 0)) aj8).trans ?_;exact Ug w _ _ _ 0 rfl
 have hby:∀k,k<s.size->∃n:Nat,n<256/\W1.cell? (VJ (w.heap.size+1) k)=some (.int .u8 n):=λk hk=>by
  obtain⟨n,h1,h2⟩:=Ae s (grownCap (w.alloc (.cells #[VG (K.cb c),.string s] 59)) s.size 0 5) k hk;refine⟨n,h1,?_⟩;rw[hW1];have:=(Z4 (w.alloc (.cells #[VG (K.cb c),.string s] 59)).drew (.cells (bytesRow s (grownCap (w.alloc (.cells #[VG (K.cb c),.string s] 59)) s.size 0 5)) 5 ((bytesRow s (grownCap (w.alloc (.cells #[VG (K.cb c),.string s] 59)) s.size 0 5)).size,(bytesRow s (grownCap (w.alloc (.cells #[VG (K.cb c),.string s] 59)) s.size 0 5)).size+1))).1;simp only[World.size_drew,ZJ]at this;refine FK ?_;exact h2
 have cn1:=(hB1.cell (p:=(VJ (K.cb c) 1)) hcl).trans cn;have Rv:=ZY hcl hB1.size;have SM:Hid _:=hB1
 go_loopw [3,10] (λx i wr=>∃(k:Nat) (n:Int),i=VI k/\k<=s.size/\x=.int .u32 n/\wr=W1) (λ_ i _=>s.size-(intOf i).toNat)
 case atStart=>exact⟨0,_,rfl,Yy _,rfl,hW1.symm⟩
 case round=>
  obtain⟨k,n,rfl,hk,rfl,rfl⟩:=hrel;clear hW1 cn hcl hB1;by_cases hlt:k<s.size
  . obtain⟨x,hx,fN⟩:=hby k hlt;clear hby;go_wp2
    go_roundw
    case measure=>simp[intOf]<;>omega
    case rel=>exact⟨k+1,_,Uu,VH,rfl,trivial⟩
  . have Id:k=s.size:=by omega
    subst Id;clear hby;go_wp2
    go_ret
    exact⟨⟨((n+(c:Int)) % 4294967296).toNat,YV (λx=>Ending.returned (Value.int IntKind.u32 x)) (by show (n+(c:Int)) % 4294967296=_;omega)⟩,SM.o⟩
def xO (h:Ud w m K){c:Nat}(hc:c<m.kl.length)(s:ByteArray)(hs:s.size<=1000):
 Calls prog 161 #[.pointer (some (VJ K.b 6)),.agg #[VG (K.cb c),.string s]] w λe w'=>(∃i,i<K.k.n/\e=.returned (.pointer (some (VJ K.b (6+i*4)))))/\Below w.heap.size w w':=by
 have hB0:Below w.heap.size w (w.alloc (.cells #[VG (K.cb c),.string s] 59)):=(ZR _ w).alloc UM _;have h0:=h.below hB0;have h1:=h0.drew;have hen:=LK K.b K.k.n K.k.R _ h0.Uc.tab;have eJ:=acD h1 hc s hs;have n1:=h.Uc.tab.n1;have n1:=h.Uc.tab.n64;have B5:Hid _:=hB0;clear h h0 h1 hB0;go_enter func161,ntmps161;go_wp2_with fail;refine hen.mono ?_;rintro e w' ⟨rfl,rfl⟩;go_wp2_with fail;refine eJ.mono ?_;rintro e w2 ⟨⟨x,rfl⟩,hb2⟩;have Uv:Hid _:=hb2;clear hb2 eJ hen;have hn0:¬((K.k.n:Int)=0):=VH;have hi1:0<=(x:Int) % (K.k.n:Int):=Int.emod_nonneg _ hn0;have hi1:(x:Int) % (K.k.n:Int)<(K.k.n:Int):=Int.emod_lt_of_pos _ VH;go_wp2
 go_ret
 exact⟨⟨x % K.k.n,Nat.mod_lt _ VH,rfl⟩,B5.o.then (RH Uv.o)⟩
def adC (fr hm mt:Option Addr)(s:ByteArray)(hs:s.size<=1000)(w:World):
 Calls prog 162 #[.agg #[.pointer fr,.string s],.agg #[.pointer hm,.pointer mt]] w λe w'=>e=.returned (U1.val ⟨fr,s,hm,mt⟩)/\Below w.heap.size w w':=by
 obtain⟨W1,hW1⟩:∃W1,W1=((w.alloc (.cells #[.pointer fr,.string s] 59)).alloc (.cells #[.pointer hm,.pointer mt] 62)).alloc (.cells #[.pointer none,.string ⟨#[]⟩,.pointer none,.pointer none] 64):=Vx;have hB1:Below w.heap.size w W1:=by rw[hW1];exact below3 _ _ _ _
 have hcl:=clone_any s W1 VH;unfold U1.val;go_enter func162,ntmps162;go_wp2_with fail;rw[<- hW1];refine hcl.mono ?_;rintro e w2 ⟨rfl,hb2⟩
 have b0:w2.heap[w.heap.size]?=some (.cells #[.pointer fr,.string s] 59):=by
  rw[hb2.block _ (by rw[hW1];simp;omega),hW1,ZV _ _ _ Vo,ZV _ _ _ Vy];exact(Z4 w _).1
 have b1:w2.heap[w.heap.size+1]?=some (.cells #[.pointer hm,.pointer mt] 62):=by
  rw[hb2.block _ acn,hW1,ZV _ _ _ Vy];have:=(Z4 (w.alloc (.cells #[.pointer fr,.string s] 59)) (.cells #[.pointer hm,.pointer mt] 62)).1;rw[ZJ]at this;exact this
 have b2:w2.heap[w.heap.size+1+1]?=some (.cells #[.pointer none,.string ⟨#[]⟩,.pointer none,.pointer none] 64):=by
  rw[hb2.block _ acn,hW1];have:=(Z4 ((w.alloc (.cells #[.pointer fr,.string s] 59)).alloc (.cells #[.pointer hm,.pointer mt] 62)) (.cells #[.pointer none,.string ⟨#[]⟩,.pointer none,.pointer none] 64)).1;exact ady
 have q0:w2.cell? (VJ w.heap.size 0)=some (.pointer fr):=by simp only[World.cell?,b0];rfl
 have q0:w2.cell? (VJ w.heap.size 1)=some (.string s):=by simp only[World.cell?,b0];rfl
 have f0:w2.cell? (VJ (w.heap.size+1) 0)=some (.pointer hm):=by simp only[World.cell?,b1];rfl
 have f0:w2.cell? (VJ (w.heap.size+1) 1)=some (.pointer mt):=by simp only[World.cell?,b1];rfl
 have r0:w2.cell? (VJ (w.heap.size+1+1) 0)=some (.pointer none):=by simp only[World.cell?,b2];rfl
 have r1:w2.cell? (VJ (w.heap.size+1+1) 1)=some (.string ⟨#[]⟩):=by simp only[World.cell?,b2];rfl
 have r2:w2.cell? (VJ (w.heap.size+1+1) 2)=some (.pointer none):=by simp only[World.cell?,b2];rfl
 have r3:w2.cell? (VJ (w.heap.size+1+1) 3)=some (.pointer none):=by simp only[World.cell?,b2];rfl
 have fz0:∀o,w2.frozen? (VJ w.heap.size o)=false:=λo=>(UL.free ⟨_,_,b0⟩ o)
 have fz0:∀o,w2.frozen? (VJ (w.heap.size+1+1) o)=false:=λo=>(UL.free ⟨_,_,b2⟩ o)
 have HB:=UQ (hB1.then hb2);clear hb2 hB1 b0 b1 b2 hW1 hcl;go_wp2;refine ZQ (rH (z:=w.heap.size+1+1) results162 (.pointer fr) (.string s) (.pointer hm) (.pointer mt) rfl ?_ ?_ ?_ ?_) rfl ⟨rfl,?_⟩
 . rw[VD PO,VD PO,VD PO];exact Vr ((VD PO).trans r0)
 . rw[VD PO,VD PO];exact Vr ((VD PO).trans ((VD PO).trans r1))
 . rw[VD PO];exact Vr ((VD PO).trans ((VD PO).trans ((VD PO).trans r2)))
 . exact Vr ((VD PO).trans ((VD PO).trans ((VD PO).trans ((VD PO).trans r3))))
 . exact((((HB.o.setCell UM _).setCell afc _).setCell (by show w.heap.size<=w.heap.size+1+1;omega) _).setCell (by show w.heap.size<=w.heap.size+1+1;omega) _).setCell (by show w.heap.size<=w.heap.size+1+1;omega) _
def aaA (v:Value)(w:World):(Instr.typeAssert (.iface 167 v) 20 167 true).run prog w=.ok (.tuple #[v,.bool true]) w:=by
 simp[Instr.typeAssert,Zu underlying167]
def caught (p:Addr)(x n:Int)(Cd:List PanicEntry)(w:World)(hc:w.cell? p=some (VI x))(hz:w.frozen? p=false):
 CallsD prog 87 #[.pointer (some p)] (.panicking ({v:=.iface 167 (VI n),recovered:=false}::Cd)) w λe u' w'=>
  e=.returned (.tuple #[])/\u'=.panicking ({v:=.iface 167 (VI n),recovered:=true}::Cd)/\w'=w.setCell p (VI n):=by
 refine callsD_of_wpS func87 rfl λc₀ cs hu=>?_;apply wpS_seq;apply wpS_region;simp[wpOpsS,go_sem,recoverD,hu,ntmps87,Exit.thenS];refine wpS_of_wp ?_;rw[show #[Value.pointer (some p)]++(Array.replicate 10 undef).setIfInBounds 3 (.iface 167 (VI n))=#[.pointer (some p),undef,undef,undef,(.iface 167 (VI n)),undef,undef,undef,undef,undef,undef] from rfl];have Mr:=aaA (VI n);go_wp2;simp[bodyPostS,results,results87]
def idle (p:Addr)(w:World):
 CallsD prog 87 #[.pointer (some p)] .returning w λe u' w'=>e=.returned (.tuple #[])/\u'=.returning/\w'=w:=by
 refine callsD_of_wpS func87 rfl λc₀ cs hu=>?_;apply wpS_seq;apply wpS_region;simp[wpOpsS,go_sem,recoverD,hu,ntmps87,Exit.thenS];refine wpS_of_wp ?_;rw[show #[Value.pointer (some p)]++(Array.replicate 10 undef).setIfInBounds 3 .nilIface=#[.pointer (some p),undef,undef,undef,.nilIface,undef,undef,undef,undef,undef,undef] from rfl];go_wp2;cases c₀;simp_all[bodyPostS,results,results87]
end Go.Proofs.Rz
namespace Go.Proofs.Rz
open ChangeShapes WideShapes ChangeAt RowKit Kn Iz Tryz
variable {w w' w0 : World}
variable {m m0 : Im}
variable {K K0 : Kd}
def Step.aside {S:Nat->Prop}(h:Step w0 w m0 K0 m K)(hc:Vt w w' S)(hS:∀k,S k->w0.heap.size<=k/\¬U2 m K k)(hg:∀k,Gl k->k<w0.heap.size):Step w0 w' m0 K0 m K:=
 ⟨h.Ub.Ut hc (λk e e'=>(hS k e').2 e) (λk e e'=>by have:=(hS k e').1;have:=hg k e;omega),h.b,h.np,h.Ut.then hc (λk hk e=>by have:=(hS k e).1;omega),h.foot,h.len,h.cb,h.md⟩
def Ud.rmb (h:Ud w m K){looks UC:Nat}{pm:Nat->Mm}{R:Nat->U1}(hl:UC<=looks)
 (hP:Sm K.k.np w' K.k.L pm (o8 m K)) (hT:TabAt w' K.b K.k.n R) (hr:∀i,i<K.k.n->SrI m K (R i))
 (ho:∀p s,(p,s)∈K.k.L->K.k.pm p=.only->pm p=.only) (ha:∀p s q,(p,s)∈K.k.L->(pm p).arr=some q->(K.k.pm p).arr=some q\/w.heap.size<=q)
 (hch:Vt w w' (λk=>k=K.b\/Vm K.k.L K.k.pm k)) (Cz:∃cur,w'.heap[K.b]?=some (.cells cur 70))
 (hc:∀o,o<6->o≠2->o≠3->w'.cell? (VJ K.b o)=w.cell? (VJ K.b o)) (c2:w'.cell? (VJ K.b 2)=some (VI (Go.RowKit.wrap64 (looks:Nat)))) (c3:w'.cell? (VJ K.b 3)=some (VI (Go.RowKit.wrap64 (UC:Nat)))):
 Step w w' m K {m with looks:=looks} {K with UC:=UC,k:={K.k with pm:=pm,R:=R} }:=by
 obtain⟨n1,n2,n3,n4⟩:=h.Ko;have hcc:=h.Uc
 have hmap:∀(k:Nat) (es:Array MapEntry) (ck:Nat),w.heap[k]?=some (.map es ck)->w'.heap[k]?=w.heap[k]?:=λk es ck hk=>hch.block k (Z5.1 hk).1 (λe=>by
  rcases e with e|e
  . obtain⟨cur,V_⟩:=hcc.img;rw[<- e,hk]at V_;cases V_
  . exact TT hcc.Ru hk e)
 have hpb:∀j,Vm K.k.L pm j->Vm K.k.L K.k.pm j\/w.heap.size<=j:=by
  rintro j ⟨p,s,hps,e|e⟩
  . exact .inl lT
  . rcases ha p s j hps e with e|e
    . exact .inl ⟨p,s,hps,.inr e⟩
    . exact .inr e
 have E':Qr w' K.b {K.k with pm:=pm,R:=R} (λ_=>False) (o8 m K) (SrI m K):=by
  refine⟨Cz,(hc 5 VH VH VH).trans hcc.b5,⟨?_,λs v hv=>?_,hcc.snd.inj,λs ib p hs hp=>hP.Vb (hcc.reg s p ⟨ib,hs,hp⟩)⟩,hP,hcc.reg,λp s hps=>?_,hT,hr,λk hk=>?_,λk hk h1 e=>?_⟩
  . obtain⟨es,ck,hm,_⟩:=hcc.snd.map;exact hcc.snd.map.same (hmap _ _ _ hm)
  . obtain⟨ib,rfl,h4,h5⟩:=hcc.snd.inn s v hv;obtain⟨es,ck,hm,hx⟩:=id h4;exact⟨ib,rfl,h4.same (hmap _ _ _ hm),h5⟩
  . rcases hcc.told p s hps with e|e|e
    . exact .inl e
    . exact .inr (.inl (ho p s hps e))
    . exact e.elim
  . have hm:=hcc.mt k hk;obtain⟨n,hb⟩:=hm.blk;refine hm.same (hch.block k hm.Vb.lt (λe=>?_)) (λh1=>hch.block _ (hm.LV.Vb h1).lt (λe=>?_))
    . rcases e with e|e
      . exact hcc.bn ak8
      . exact TK hcc.Ru hb Vz Vz e
    . rcases e with e|e
      . exact(hcc.gn hk h1).2 e
      . exact hcc.gq k hk h1 e
  . rcases hpb _ e with e|e
    . exact hcc.gq k hk h1 e
    . have:=((hcc.mt k hk).LV.Vb h1).lt;have e:w.heap.size<=(K.k.md k).g:=e;omega
 have V':∀k,U2 {m with looks:=looks} {K with UC:=UC,k:={K.k with pm:=pm,R:=R} } k->U2 m K k\/w.heap.size<=k:=λk e=>by
  exact aoD
 have Wa:Vt w w' (U2 m K):=hch.mono (λk _ e=>h.Jd e);have hh:=h.hd;refine⟨⟨h.ok.looks _,E',⟨(hc 0 VH VH VH).trans hh.c0,(hc 1 VH VH VH).trans hh.c1,c2,c3,(hc 4 VH VH VH).trans hh.c4⟩,h.np6,hl,h.lc.same (hch.block _ h.lc.lt n3),h.iW,h.lcn,⟨(h.cls.Ut hch n1).at_,h.cls.inj⟩,λc hc=>(h.lm c hc).same (hch.block _ (h.lm c hc).lt (n2 c hc)),h.mid,h.own,h.yZ,agD,h.obs.same (λk hk=>hch.block k (h.obs.lt hk) (n4 k hk)),h.J7.Ut Wa dY,λk hk hg=>?_⟩,rfl,rfl,Wa,V',ZN _,λ_ _=>rfl,λk hk=>yg⟩;exact zx
def Ud.looked (h:Ud w m K):Step w (w.setCell (VJ K.b 2) (VI (Go.RowKit.wrap64 ((m.looks+1:Nat):Int)))) m K {m with looks:=m.looks+1} K:=by
 have hP:=h.Uc.Ru;have hb:∀k,k≠K.b->(w.setCell (VJ K.b 2) (VI (Go.RowKit.wrap64 ((m.looks+1:Nat):Int)))).heap[k]?=w.heap[k]?:=λk hk=>ZW _ _ _ _ hk;have ho:∀o,o≠2->(w.setCell (VJ K.b 2) (VI (Go.RowKit.wrap64 ((m.looks+1:Nat):Int)))).cell? (VJ K.b o)=w.cell? (VJ K.b o):=λo hne=>VD abA;have hT:=h.Uc.tab;refine h.rmb (looks:=m.looks+1) (UC:=K.UC) (pm:=K.k.pm) (R:=K.k.R) (Nat.le_succ_of_le h.cll) (hP.same (λk hk=>hb k (λe=>h.Uc.bn aj1))) ?_ h.Uc.rows (λ_ _ _ e=>e) (λ_ _ _ _ e=>.inl e) akQ ?_ (λo _ h2 _=>ho o h2) (Vr h.hd.c2) ((ho 3 VH).trans h.hd.c3)
 . exact⟨hT.Vb.setCell _ _,hT.n1,hT.n64,(ho _ VH).trans hT.sz,λi hi=>(ho _ VH).trans (hT.c0 i hi),λi hi=>(ho _ VH).trans (hT.c1 i hi),λi hi=>(ho _ VH).trans (hT.c2 i hi),λi hi=>(ho _ VH).trans (hT.c3 i hi)⟩
 . obtain⟨cur,V_⟩:=h.Uc.img;exact⟨_,by simp only[World.setCell,Zz,ZU,V_];rfl⟩
def II {b:Nat}(o:Nat)(v:Value)(h:∃cur,w.heap[b]?=some (.cells cur 70)):∃cur,(w.setCell (VJ b o) v).heap[b]?=some (.cells cur 70):=by
 obtain⟨cur,V_⟩:=h;exact⟨_,by simp only[World.setCell,Zz,ZU,V_];rfl⟩
def Ud.afv (h:Ud w m K)(hl:K.UC<m.looks):Step w (w.setCell (VJ K.b 3) (VI (Go.RowKit.wrap64 ((K.UC+1:Nat):Int)))) m K m {K with UC:=K.UC+1}:=by
 have hP:=h.Uc.Ru;have hT:=h.Uc.tab;have ho1:∀o,o≠3->(w.setCell (VJ K.b 3) (VI (Go.RowKit.wrap64 ((K.UC+1:Nat):Int)))).cell? (VJ K.b o)=w.cell? (VJ K.b o):=λo hne=>VD abA
 have g_:TabAt (w.setCell (VJ K.b 3) (VI (Go.RowKit.wrap64 ((K.UC+1:Nat):Int)))) K.b K.k.n K.k.R:=
  ⟨hT.Vb.setCell _ _,hT.n1,hT.n64,(ho1 _ VH).trans hT.sz,λi hi=>(ho1 _ VH).trans (hT.c0 i hi),λi hi=>(ho1 _ VH).trans (hT.c1 i hi),λi hi=>(ho1 _ VH).trans (hT.c2 i hi),λi hi=>(ho1 _ VH).trans (hT.c3 i hi)⟩
 exact h.rmb (looks:=m.looks) (UC:=K.UC+1) (pm:=K.k.pm) (R:=K.k.R) hl (hP.same (λk hk=>ZW _ _ _ _ (λe:k=K.b=>h.Uc.bn aj1))) g_ h.Uc.rows (λ_ _ _ e=>e) (λ_ _ _ _ e=>.inl e) akQ (II _ _ h.Uc.img) (λo h6 _ h3=>ho1 o h3) ((ho1 2 VH).trans h.hd.c2) (Vr h.hd.c3)
def Kd.row (K:Kd)(i:Nat)(r:U1):Kd:={K with k:={K.k with R:=λj=>if j=i then r else K.k.R j} }
def Ud.rowed (h:Ud w m K){i:Nat}(hi:i<K.k.n){r:U1}(hr:Ans m K.cb K.mid r):
 Step w ((((w.setCell (VJ K.b (6+i*4)) (.pointer r.fr)).setCell (VJ K.b (6+i*4+1)) (.string r.sel)).setCell (VJ K.b (6+i*4+2)) (.pointer r.hm)).setCell (VJ K.b (6+i*4+3)) (.pointer r.mt)) m K m (K.row i r):=by
 have hP:=h.Uc.Ru;have hT:=h.Uc.tab;have h64:=hT.n64
 have ho:∀o,o<6->((((w.setCell (VJ K.b (6+i*4)) (.pointer r.fr)).setCell (VJ K.b (6+i*4+1)) (.string r.sel)).setCell (VJ K.b (6+i*4+2)) (.pointer r.hm)).setCell (VJ K.b (6+i*4+3)) (.pointer r.mt)).cell? (VJ K.b o)=w.cell? (VJ K.b o):=λo h6=>by
  rw[VD PO,VD PO,VD PO,VD PO]
 refine h.rmb (looks:=m.looks) (UC:=K.UC) (pm:=K.k.pm) (R:=λj=>if j=i then r else K.k.R j) h.cll (hP.same (λk hk=>?_)) (hT.put VH r) (λj hj=>?_) (λ_ _ _ e=>e) (λ_ _ _ _ e=>.inl e) ?_ (II _ _ (II _ _ (II _ _ (II _ _ h.Uc.img)))) (λo h6 _ _=>ho o h6) ((ho 2 VH).trans h.hd.c2) ((ho 3 VH).trans h.hd.c3)
 . have hk:k≠K.b:=λe=>h.Uc.bn aj1;rw[ZW _ _ _ _ hk,ZW _ _ _ _ hk,ZW _ _ _ _ hk,ZW _ _ _ _ hk]
 . by_cases e:j=i
   . simp only[e,Y6];exact .inl hr
   . simp only[e,Zg];exact h.Uc.rows j hj
 . exact(((((Vt.refl w _).setCell _ _ Dx).setCell _ _ Dx).setCell _ _ Dx).setCell _ _ Dx)
structure Lrn (np:Nat)(mm:Mm)(r:U1)(My:Mm):Prop where
 only:mm=.only->My=.only
 rows:∀x,x∈My.rows->x∈mm.rows\/x=r
 few:mm.rows.length<=np->My.rows.length<=np
def Kd.learnt (K:Kd)(p:Nat)(mm:Mm):Kd:={K with k:={K.k with pm:=λk=>if k=p then mm else K.k.pm k} }
def Ud.learnt {w w3:World}(h:Ud w m K){p:Nat}{s:ByteArray}(hp:(p,s)∈K.k.L){r:U1}{mm:Mm}(hl:Lrn K.np (K.k.pm p) r mm)(hr:o8 m K s r)(hok:mm.Ok w3)(hq:∀q,mm.arr=some q->(K.k.pm p).arr=some q\/w.heap.size<=q)
 (zr:∀q,mm.arr=some q->q≠p) (hch:Vt w w3 (λk=>(K.k.pm p).arr=some k)):Step w (w3.setCell (VJ p 0) mm.val) m K m (K.learnt p mm):=by
 have hP:=h.Uc.Ru;have hpb:p≠K.b:=λe=>h.Uc.bn (by rw[<- e];exact .inr akC);have hab:∀q,(K.k.pm p).arr=some q->q≠K.b:=λq e e'=>h.Uc.bn (by rw[<- e'];exact .inr (.inr (.inl ⟨p,s,hp,.inr e⟩)));have hb:(w3.setCell (VJ p 0) mm.val).heap[K.b]?=w.heap[K.b]?:=(ZW _ _ _ _ (λe=>hpb e.symm)).trans (hch.block K.b h.Uc.tab.Vb.lt (λe=>hab _ e rfl));refine h.rmb (looks:=m.looks) (UC:=K.UC) (pm:=λk=>if k=p then mm else K.k.pm k) (R:=K.k.R) h.cll (hP.store hp hch hok (hl.few (hP.ok p s hp).2) (λx hx=>?_) hq zr) (h.Uc.tab.same hb) h.Uc.rows (λp' s' hp' e=>?_) (λp' s' q hp' e=>?_) ?_ ?_ (λo _ _ _=>Z9 hb) ((Z9 hb).trans h.hd.c2) ((Z9 hb).trans h.hd.c3)
 . rcases hl.rows x hx with e|e
   . exact hP.rows p s x hp e
   . rw[e];exact hr
 . by_cases e1:p'=p
   . subst e1;simp only[Y6];exact hl.only e
   . simp only[e1,Zg];exact e
 . by_cases e1:p'=p
   . subst e1;simp only[Y6]at e;exact hq q e
   . simp only[e1,Zg]at e;exact .inl e
 . exact(hch.mono (λk _ e=>.inr ⟨p,s,hp,.inr e⟩)).setCell _ _ (λ_=>.inr ao2)
 . obtain⟨cur,V_⟩:=h.Uc.img;exact⟨cur,hb.trans V_⟩
def Kd.nowhere (K:Kd)(p:Nat)(s:ByteArray):Kd:={K with k:={K.k with L:=(p,s)::K.k.L,pm:=λk=>if k=p then .only else K.k.pm k} }
def Ud.nowhere (h:Ud w m K)(s:ByteArray):Step w (w.alloc (.cells #[Mm.only.val] 198)) m K m (K.nowhere w.heap.size s):=by
 have s9:Below w.heap.size w (w.alloc (.cells #[Mm.only.val] 198)):=(ZR _ w).alloc UM _;have h':=h.below s9;have hcc:=h'.Uc;have hP:=hcc.Ru
 have hold:∀q t,(q,t)∈K.k.L->q≠w.heap.size:=λq t hq e=>by
  have:=h.Uc.lt (.inr (.inr (.inl ⟨q,t,hq,.inl rfl⟩)):Td K.k q);omega
 have S8:∀q t,(q,t)∈K.k.L->(if q=w.heap.size then Mm.only else K.k.pm q)=K.k.pm q:=λq t hq=>ZX (hold q t hq)
 have hmem:∀q t,(q,t)∈(w.heap.size,s)::K.k.L->(q=w.heap.size/\t=s)\/(q,t)∈K.k.L:=λq t hq=>by
  rcases ZM.1 hq with e|e
  . injection e with e1 e2;exact .inl ⟨e1,e2⟩
  . exact .inr e
 have hpb:∀k,Vm ((w.heap.size,s)::K.k.L) (λk=>if k=w.heap.size then .only else K.k.pm k) k->Vm K.k.L K.k.pm k\/w.heap.size<=k:=by
  rintro k ⟨q,t,hq,e⟩;rcases hmem q t hq with⟨e1,e2⟩|hq
  . rcases e with e|e
    . exact .inr VH
    . simp only[e1,Y6]at e;cases e
  . simp only[S8 q t hq]at e;exact .inl ⟨q,t,hq,e⟩
 have E':Qr (w.alloc (.cells #[Mm.only.val] 198)) K.b (K.nowhere w.heap.size s).k (λ_=>False) (o8 m K) (SrI m K):=by
  refine⟨hcc.img,hcc.b5,hcc.snd,⟨hP.b6,?_,λq t hq=>?_,λq t hq=>?_,λq t r hq hr=>?_,λq t q' t' a hq hq' ha ha'=>?_⟩,λt q hr=>Zo _ (hcc.reg t q hr),λq t hq=>?_,hcc.tab,hcc.rows,λk hk=>?_,λk hk h1 e=>?_⟩
  . show ((w.heap.size,s)::K.k.L |>.map (·.1)).Nodup;rw[Zc,YS];refine⟨λe=>?_,hP.nd⟩;obtain⟨⟨q,t⟩,hq,e⟩:=Zy.1 e;exact hold q t hq e
  . rcases hmem q t hq with⟨e1,e2⟩|hq
    . subst e1;show _=some (Obj.cells #[(if w.heap.size=w.heap.size then Mm.only else K.k.pm w.heap.size).val] _);rw[ZU rfl];exact(Z4 w _).1
    . show _=some (Obj.cells #[(if q=w.heap.size then Mm.only else K.k.pm q).val] _);rw[S8 q t hq];exact hP.at_ q t hq
  . rcases hmem q t hq with⟨e1,e2⟩|hq
    . subst e1;show (if w.heap.size=w.heap.size then Mm.only else K.k.pm w.heap.size).Ok _/\(if w.heap.size=w.heap.size then Mm.only else K.k.pm w.heap.size).rows.length<=_;rw[ZU rfl];exact⟨trivial,Yy _⟩
    . show (if q=w.heap.size then Mm.only else K.k.pm q).Ok _/\(if q=w.heap.size then Mm.only else K.k.pm q).rows.length<=_;rw[S8 q t hq];exact hP.ok q t hq
  . have hr:r∈(if q=w.heap.size then Mm.only else K.k.pm q).rows:=hr;rcases hmem q t hq with⟨e1,e2⟩|hq
    . subst e1;rw[ZU rfl]at hr;cases hr
    . rw[S8 q t hq]at hr;exact hP.rows q t r hq hr
  . have ha:(if q=w.heap.size then Mm.only else K.k.pm q).arr=some a:=ha;have ha':(if q'=w.heap.size then Mm.only else K.k.pm q').arr=some a:=ha';rcases hmem q t hq with⟨e1,e2⟩|hq
    . subst e1;rw[ZU rfl]at ha;cases ha
    . rcases hmem q' t' hq' with⟨e1,e2⟩|hq'
      . subst e1;rw[ZU rfl]at ha';cases ha'
      . rw[S8 q t hq]at ha;rw[S8 q' t' hq']at ha';exact hP.arr q t q' t' a hq hq' ha ha'
  . rcases hmem q t hq with⟨e1,e2⟩|hq
    . exact .inr (.inl (ZU e1))
    . rcases hcc.told q t hq with e|e|e
      . exact .inl e
      . exact .inr (.inl (((ZX (hold q t hq)).trans e)))
      . exact e.elim
  . have hm:=hcc.mt k hk;exact⟨hm.blk,hm.LV,hm.len,λi x hx hs=>Zo _ (hm.Ru i x hx hs)⟩
  . rcases hpb _ e with e|e
    . exact hcc.gq k hk h1 e
    . have:=((h.Uc.mt k hk).LV.Vb h1).lt;have e:w.heap.size<=(K.k.md k).g:=e;omega
 have V':∀k,U2 m (K.nowhere w.heap.size s) k->U2 m K k\/w.heap.size<=k:=λk e=>by
  exact aoD
 refine⟨⟨h.ok,E',⟨h'.hd.c0,h'.hd.c1,h'.hd.c2,h'.hd.c3,h'.hd.c4⟩,h.np6,h.cll,h'.lc,h.iW,h.lcn,h'.cls,h'.lm,h.mid,h.own,h.yZ,agD,h'.obs,h'.J7,λk hk hg=>?_⟩,rfl,rfl,Vt.of_below s9 _,V',ZN _,λ_ _=>rfl,λk hk=>yg⟩;exact zx
def Mm.pay:Mm->Value
 | .no=>.agg #[]
 | .one r=>r.val
 | .many q cap rs=>.agg #[.slice (some (VJ q 0)) rs.length cap]
 | .only=>.agg #[]
def Mm.wE:Mm->Nat
 | .no=>184
 | .one _=>191
 | .many _ _ _=>194
 | .only=>187
def Mm.kP:Mm->Nat
 | .no=>183
 | .one _=>190
 | .many _ _ _=>193
 | .only=>186
def dK (mm:Mm)(d:Nat)(s:ByteArray)(w:World)(hok:mm.Ok w)(h6:mm.rows.length<=6)(hr:∀r∈mm.rows,uT w r)(hd:UL w d):
 Calls prog mm.wE #[mm.pay,.agg #[VG d,.string s]] w λe w'=>∃h m k,e=.returned (.tuple #[.agg #[.pointer h,.pointer m],.bool k])/\
  (k=true->∃r∈mm.rows,r.fr=some (VJ d 0)/\r.sel=s/\h=r.hm/\m=r.mt)/\Below w.heap.size w w':=by
 cases mm with
 | no=>exact(aaj _ _ w).mono (λe w' ⟨h1,h2⟩=>⟨none,none,false,h1,λh=>MO,h2⟩)
 | only=>exact(uw _ _ w).mono (λe w' ⟨h1,h2⟩=>⟨none,none,false,h1,λh=>MO,h2⟩)
 | one r=>
  obtain⟨c,hc,XX⟩:=hr r oV;refine(oD r c d s w hc XX hd).mono (λe w' ⟨h1,h2⟩=>⟨r.hm,r.mt,hits c d r.sel s,h1,λh=>?_,h2⟩);unfold hits at h;rw[ZB,YB,YB]at h;exact⟨r,oV,by rw[hc,h.1];rfl,h.2,rfl,rfl⟩
 | many q cap rs=>exact sU q cap d rs s w h6 hok hr hd
def aeE (mm:Mm)(r:U1)(np:Nat)(w:World)(hok:mm.Ok w)(hle:mm.rows.length<=np)(h6:np<=6):
 Calls prog mm.kP #[mm.pay,r.val,VI (np:Nat)] w λe w'=>∃My,e=.returned My.val/\My.Ok w'/\Lrn np mm r My/\(∀q,My.arr=some q->mm.arr=some q\/w.heap.size<=q)/\Vt w w' (λk=>mm.arr=some k):=by
 have B3:∀mm:Mm,Lrn np mm r .only:=λmm=>⟨λ_=>rfl,λx hx=>(by cases hx),λ_=>Yy _⟩
 cases mm with
 | no=>
  refine(abo r np w).mono (λe w' ⟨h1,h2⟩=>⟨_,h1,?_,?_,?_,Vt.of_below h2 _⟩)
  . split<;>trivial
  . split
    . exact B3 _
    . exact⟨λe=>EO,λx hx=>.inr (by simpa[Mm.rows]using hx),λ_=>by simp[Mm.rows];omega⟩
  . intro q hq;split at hq<;>cases hq
 | only=>exact(pF r np w).mono akF
 | one o=>
  by_cases h1:np=1
  . subst h1;exact(CY o r w).mono akF
  . refine(DW o r np w VH).mono (λe w' ⟨q,h2,h3,h4,h5⟩=>⟨_,h2,h5,⟨λe=>EO,λx hx=>?_,λh=>?_⟩,λq' hq=>?_,Vt.of_below h3 _⟩)
    . simp[Mm.rows]at hx ⊢;exact hx
    . simp[Mm.rows]at h ⊢;omega
    . injection hq with hq;subst hq;exact .inr h4
 | many q cap rs=>
  by_cases h1:np=rs.length
  . subst h1;exact(EY q cap rs r w).mono akF
  . have hle:rs.length<=np:=hle;refine(nG q cap rs r np w VH VH hok).mono (λe w' ⟨q',cap',h2,h3,h4,h5⟩=>⟨_,h2,h3,⟨λe=>EO,λx hx=>?_,λh=>?_⟩,λq'' hq=>?_,h5.mono (λk _ e=>?_)⟩)
    . simp[Mm.rows]at hx ⊢;exact hx
    . simp[Mm.rows]at h ⊢;omega
    . injection hq with hq;subst hq;rcases h4 with e|e
      . exact .inl Sv
      . exact .inr e
    . rw[e];rfl
def LQ (n:Nat):Go.RowKit.wrap64 (Go.RowKit.wrap64 (n:Int)+1)=Go.RowKit.wrap64 ((n+1:Nat):Int):=by
 have h:=Int.emod_add_emod ((n:Int)+9223372036854775808) 18446744073709551616 1;unfold Go.RowKit.wrap64;rw[show ((n:Int)+9223372036854775808) % 18446744073709551616-9223372036854775808+1+9223372036854775808=((n:Int)+9223372036854775808) % 18446744073709551616+1 from VH,h,show (n:Int)+9223372036854775808+1=((n+1:Nat):Int)+9223372036854775808 from VH]
def Ud.ab5 (h:Ud w m K){c:Nat}(hc:c<m.kl.length){r:U1}(ha:Ans m K.cb K.mid r)(h1:r.fr=some (VJ (K.cb c) 0)):Value.agg #[.pointer r.hm,.pointer r.mt]=EX K (K.says m r.sel (some c)):=by
 obtain⟨d,hd,e1,e2,e3⟩:=ha;rw[h1]at e1;injection e1 with e1;injection e1 with e1 _ _;have:=h.cls.inj c d hc hd e1;subst this;unfold EX Kd.says;rw[e2,e3]
def Ud.jy (h:Ud w m K){r:U1}(hr:SrI m K r):uT w r:=by
 rcases hr with⟨c,hc,e,_⟩|e
 . exact⟨some (K.cb c),e,λb hb=>by injection hb with hb;subst hb;exact h.cls.Vb hc⟩
 . subst e;exact⟨none,rfl,λb hb=>by cases hb⟩
def uM {w w2 w5:World}(h:Ud w m K)(hB:Below w.heap.size w w2)(hl2:w.heap.size+2<=w2.heap.size)(h5:Step w2 w5 m K m {K with UC:=K.UC+1}) {c:Nat} (hc:c<m.kl.length) {i:Nat} (hi:i<K.k.n) (s:ByteArray) (h0 h1:Option Addr)
 (e0:h0=Vq ((K.says m s (some c)).map (λx=>K.cb x.1))) (e1:h1=Vq ((K.says m s (some c)).map (·.2))) (v0 v1:Value):
 ∃K',Step w ((((((w5.setCell (VJ K.b (6+i*4)) ((VG (K.cb c)))).setCell (VJ K.b (6+i*4+1)) (.string s)).setCell (VJ K.b (6+i*4+2)) (.pointer h0)).setCell (VJ K.b (6+i*4+3)) (.pointer h1)).setCell (VJ (w.heap.size+1) 0) v0).setCell (VJ (w.heap.size+1) 1) v1) m K m K'/\K'.cb=K.cb/\K'.mid=K.mid/\K'.k.L=K.k.L/\K'.k.pm=K.k.pm:=by
 have hrow:=h5.Ub.rowed (i:=i) hi (r:=⟨some (VJ (K.cb c) 0),s,h0,h1⟩) ⟨c,hc,rfl,e0,e1⟩;have rl:=h5.trans hrow;have hgl:∀k,Gl k->k<w.heap.size:=λk hk=>h.J7.lt hk
 have hS:∀k,k=w.heap.size+1->w.heap.size<=k/\¬U2 m (Kd.row {K with UC:=K.UC+1} i ⟨some (VJ (K.cb c) 0),s,h0,h1⟩) k:=λk e=>⟨VH,λe'=>by
  rcases rl.foot k e' with e1|e1
  . have:=h.lt e1;omega
  . omega⟩
 have hfin:=((Step.below h hB).trans rl).aside (S:=λk=>k=w.heap.size+1) (((Vt.refl _ (λk=>k=w.heap.size+1)).setCell (VJ (w.heap.size+1) 0) v0 (λ_=>rfl)).setCell (VJ (w.heap.size+1) 1) v1 (λ_=>rfl)) hS hgl;exact⟨_,hfin,rfl,rfl,rfl,rfl⟩
def rJ (h:Ud w m K)(hl:K.UC<m.looks){c:Nat}(hc:c<m.kl.length)(s:ByteArray)(hs:s.size<=1000):
 Calls prog 150 #[VG K.b,.agg #[VG (K.cb c),.string s]] w λe w'=>e=.returned (EX K (K.says m s (some c)))/\∃K',Step w w' m K m K'/\K'.cb=K.cb/\K'.mid=K.mid/\K'.k.L=K.k.L/\K'.k.pm=K.k.pm:=by
 obtain⟨W1,hW1⟩:∃W1,W1=(w.alloc (.cells #[VG (K.cb c),.string s] 59)).alloc (.cells #[.pointer none,.pointer none] 62):=Vx;have hB1:Below w.heap.size w W1:=ani;have h1:=h.below hB1;have hen:=xO h1.drew hc s hs
 have b0:W1.heap[w.heap.size]?=some (.cells #[VG (K.cb c),.string s] 59):=by
  exact ah2
 have b1:W1.heap[w.heap.size+1]?=some (.cells #[.pointer none,.pointer none] 62):=by
  rw[hW1];have:=(Z4 (w.alloc (.cells #[VG (K.cb c),.string s] 59)) (.cells #[.pointer none,.pointer none] 62)).1;rw[ZJ]at this;exact this
 have q0:W1.cell? (VJ w.heap.size 0)=some ((VG (K.cb c))):=by simp only[World.cell?,b0];rfl
 have q1:W1.cell? (VJ w.heap.size 1)=some (.string s):=by simp only[World.cell?,b0];rfl
 have Rv:w.heap.size+2<=W1.heap.size:=acn;go_enter func150,ntmps150;go_wp2_with fail;rw[<- hW1];clear hW1;refine Uy ?_;refine ahj ?_;intro hHeld;refine Ep ?_;refine Uh 2 ?_;refine Ur 3 ?_;refine Ul 4 λY_ Z_=>?_;go_simp;refine hen.mono ?_;rintro e w2 ⟨⟨i,hi,rfl⟩,hb2⟩;have RC:=((RH hb2).cell (p:=(VJ w.heap.size 0)) EJ).trans q0;have RR:=((RH hb2).cell (p:=(VJ w.heap.size 1)) EJ).trans q1
 try go_wp2_with fail
 refine Z_.go λhHeld=>?_;clear Z_ Y_
 try refine UE ?_
 refine Ur 5 ?_;refine Nr ?_;have UT:=RH hb2;have h2:=h1.below UT;have hB2:=hB1.then UT;have n64:=h2.Uc.tab.n64;have t0:=h2.Uc.tab.c0 i VH;have t1:=h2.Uc.tab.c1 i VH;have t2:=h2.Uc.tab.c2 i VH;have t3:=h2.Uc.tab.c3 i VH;obtain⟨r,hr⟩:∃r,r=K.k.R i:=Vx;rw[<- hr]at t0 t1 t2 t3;have pN:=h2.Uc.rows i hi;rw[<- hr]at pN;obtain⟨cr,hcr,XX⟩:=h2.jy pN;rw[hcr]at t0;have hl2:=ZC Rv UT.size;have c1:=(UT.block _ VH).trans b1;have f0:w2.cell? (VJ (w.heap.size+1) 0)=some (.pointer none):=by simp only[World.cell?,c1];rfl
 have f1:w2.cell? (VJ (w.heap.size+1) 1)=some (.pointer none):=by simp only[World.cell?,c1];rfl
 have i7:∀o,w2.frozen? (VJ (w.heap.size+1) o)=false:=λo=>UL.free ⟨_,_,c1⟩ o;have Uv:Hid _:=hB2;have H2:Hid _:=h2
 have HS:Hid (SrI m K r/\r=K.k.R i/\r.fr=Vq cr):=⟨pN,hr,hcr⟩
 have gg:=Cc w2.drew cr (K.cb c) r.sel s XX (h2.cls.Vb hc);clear hb2 UT h2 hB2 pN XX b0 b1 q0 q1 Rv hen h1 hB1 hr
 have hit:hits cr (K.cb c) r.sel s=true->r.fr=some (VJ (K.cb c) 0)/\r.sel=s:=λe=>by
  unfold hits at e;rw[ZB,YB,YB]at e;exact⟨by rw[hcr,e.1];rfl,e.2⟩
 have HIT:Hid _:=hit;clear hit hcr;have c3:=H2.o.hd.c3;have aqc:K.b≠w.heap.size:=λe=>by have:=h.Uc.tab.Vb.lt;omega
 have dk:∀o,w2.frozen? (VJ K.b o)=false:=λo=>H2.o.Uc.tab.Vb.free o;have e6:¬6+i*4=1:=VH;rcases gg with⟨heq,hno⟩|⟨heq,hst,hno⟩|⟨heq,hst,GD⟩
 . exact zz0
 . exact zz0
 . go_wp2_with fail;refine Uy ?_;refine aif ?_;intro hHeld;refine pJ ?_;refine FC ?_;intro Y_ Z_;refine Vg ?_;intro hHeld;clear Z_ Y_;refine Um ?_;go_wp2;refine ZQ (RD (z:=w.heap.size+1) results150 (.pointer r.hm) (.pointer r.mt) rfl ?_ ?_) rfl ?_
   . show ((w2.setCell (VJ (w.heap.size+1) 0) (.pointer r.hm)).setCell (VJ (w.heap.size+1) 1) (.pointer r.mt)).cell? (VJ (w.heap.size+1) 0)=_;rw[VD PO];exact Vr f0
   . show ((w2.setCell (VJ (w.heap.size+1) 0) (.pointer r.hm)).setCell (VJ (w.heap.size+1) 1) (.pointer r.mt)).cell? (VJ (w.heap.size+1) 1)=_;exact Vr aj9
   . obtain⟨e1,e2⟩:=HIT.o GD;refine⟨YV Ending.returned ?_,K,Step.below h (((Uv.o.setCell (by show w.heap.size<=w.heap.size+1;omega) _).setCell (by show w.heap.size<=w.heap.size+1;omega) _).drew),rfl,rfl,rfl,rfl⟩;rcases HS.o.1 with ha|ha
     . rw[<- e2];exact h.ab5 hc ha e1
     . rw[ha]at e1;cases e1
end Go.Proofs.Rz
