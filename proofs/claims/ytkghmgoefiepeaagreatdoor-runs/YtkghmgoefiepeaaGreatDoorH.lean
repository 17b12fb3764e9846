import Derived.Defers
import Derived.Recover
import Derived.Deep.AppendLies
import Derived.Test.YtkghmgoefiepeaaGreatDoorF
set_option linter.unusedSimpArgs false
set_option linter.unusedVariables false
set_option maxHeartbeats 4000000
set_option maxRecDepth 100000
namespace Kn
open Go
theorem oO {l:List (ByteArray×Value)}{s:ByteArray}(v:Value)(h:l.lookup s=none):(put l s v).length=l.length+1:=by
 induction l with
 | nil=>rfl
 | cons p r ih=>
  obtain⟨k,x⟩:=p
  cases hs:(s==k) with
  | true=>simp[List.lookup,hs]at h
  | false=>
   simp only[List.lookup,hs]at h;simp[put,hs,ih h]
variable {m : Im}
theorem abO {k:Kl}(hn:m.cls k.name=none)(t:ByteArray):({m with kl:=m.kl++[k]}:Im).cls t=if t=k.name then some m.kl.length else m.cls t:=by
 unfold Im.cls at hn ⊢;simp only[List.findIdx?_append];by_cases e:t=k.name
 . subst e;rw[hn,ZU rfl];simp[Tq]
 . rw[ZX e]
   have:([k]:List Kl).findIdx? (λx=>x.name==t)=none:=by
    simp[WC,(Vf k.name t).2 JR]
   rw[this];cases m.kl.findIdx? (λk=>k.name==t)<;>rfl
theorem adW {k:Kl}(hk:k.ms=[])(c:Nat)(s:ByteArray):({m with kl:=m.kl++[k]}:Im).own c s=m.own c s:=by
 unfold Im.own;simp only;by_cases h:c<m.kl.length
 . rw[ZH h]
 . rw[Y8 (by omega:m.kl.length<=c)];by_cases e:c=m.kl.length
   . subst e;rw[ZP UM,Y0];simp[Kl.own,hk]
   . rw[Y8 Vo]
theorem afx {k:Kl}{c:Nat}(h:c<m.kl.length):({m with kl:=m.kl++[k]}:Im).ab c=m.ab c:=by
 unfold Im.ab;simp only;rw[ZH h]
end Kn
namespace Go.Proofs.Rz
open ChangeShapes WideShapes ChangeAt RowKit Kn Iz Tryz
def Kd.more (K:Kd)(n Ty:Nat)(s:ByteArray):Kd:=
 {K with cb:=λc=>if c=n then Ty+1 else K.cb c,cm:=λc=>if c=n then Ty else K.cm c,lc:=put K.lc s ((VG (Ty+1))),lm:=λc=>if c=n then [] else K.lm c}
variable {w w' : World}
variable {m : Im}
variable {K : Kd}
theorem Ud.aeG (h:Ud w m K){s:ByteArray}{a Ty n:Nat}(hno:m.cls s=none)(ha:a<m.kl.length)(hm':U3 {m with kl:=m.kl++[⟨s,some a,m.tot a+n,[]⟩]}) (hlo:w.heap.size<=Ty)
 (hsm:SMap w' K.mb (put K.lc s ((VG (Ty+1))))) (hcm:w'.heap[Ty]?=some (.map #[] 0)) (hcb:w'.heap[Ty+1]?=some (.cells #[.string s,VI (m.kl.length:Nat),VG (K.cb a),VI ((m.tot a:Nat)+(n:Nat)),.map (some Ty)] 101)) (hch:Vt w w' (λk=>k=K.mb)):
 Step w w' m K {m with kl:=m.kl++[⟨s,some a,m.tot a+n,[]⟩]} (K.more m.kl.length Ty s):=by
 have hlen:({m with kl:=m.kl++[⟨s,some a,m.tot a+n,[]⟩]}:Im).kl.length=m.kl.length+1:=Vy;have hlen':(m.kl++[(⟨s,some a,m.tot a+n,[]⟩:Kl)]).length=m.kl.length+1:=Vy;obtain⟨es,ck,hx,_⟩:=id h.lc;have hmn:=h.Uc.dO hx h.ap.Bc h.ap.Bo
 have SJ:∀c,c<m.kl.length->(K.more m.kl.length Ty s).cb c=K.cb c:=λc hc=>by
  show (if c=m.kl.length then Ty+1 else K.cb c)=_;rw[ZX VH]
 have RL:∀c,c<m.kl.length->(K.more m.kl.length Ty s).cm c=K.cm c:=λc hc=>by
  show (if c=m.kl.length then Ty else K.cm c)=_;rw[ZX VH]
 have GJ:(K.more m.kl.length Ty s).cb m.kl.length=Ty+1:=by
  show (if m.kl.length=m.kl.length then Ty+1 else _)=_;rw[ZU rfl]
 have NB:(K.more m.kl.length Ty s).cm m.kl.length=Ty:=by
  show (if m.kl.length=m.kl.length then Ty else _)=_;rw[ZU rfl]
 have Ms:∀r,Ans m K.cb K.mid r->Ans {m with kl:=m.kl++[⟨s,some a,m.tot a+n,[]⟩]} (K.more m.kl.length Ty s).cb K.mid r:=λr hr=>hr.more h.ok hm' (λc hc=>afx hc) aaD SJ (λ_ _ _=>rfl);have XX:∀k,UL w k->w'.heap[k]?=w.heap[k]?:=λk hk=>hch.block k hk.lt (λe=>UA hk h.lc e);have ui:=h.Uc.Ut hch (λe=>hmn.2 e.symm) (λk e e'=>hmn.1 (by rw[<- e'];exact e)) (λk hk h1 e=>UA ((h.Uc.mt k hk).LV.Vb h1) h.lc e)
 have V':∀k,U2 {m with kl:=m.kl++[⟨s,some a,m.tot a+n,[]⟩]} (K.more m.kl.length Ty s) k->U2 m K k\/w.heap.size<=k:=λk e=>by
  rcases e with e|e|⟨c,hc,e⟩|e|e|e
  . exact .inl (.inl e)
  . exact .inl vJ
  . by_cases hcl:c<m.kl.length
    . rw[SJ c hcl,RL c hcl]at e;exact .inl (.inr (.inr (.inl ⟨c,hcl,e⟩)))
    . have:c=m.kl.length:=by rw[hlen]at hc;omega
      subst this;rw[GJ,NB]at e;exact .inr VH
  . exact .inl adf
  . exact .inl mM
  . exact .inl aaN
 have Wa:Vt w w' (U2 m K):=hch.mono (λk _ e=>.inr (.inl e));have hb:=XX K.b h.Uc.tab.Vb;have hh:=h.hd.same hb
 have hkl:∀c k,(m.kl++[(⟨s,some a,m.tot a+n,[]⟩:Kl)])[c]?=some k->(c<m.kl.length/\m.kl[c]?=some k)\/(c=m.kl.length/\k=⟨s,some a,m.tot a+n,[]⟩):=λc k hk=>by
  by_cases hc:c<m.kl.length
  . rw[ZH hc]at hk;exact .inl ⟨hc,hk⟩
  . have hc2:=(Z7.1 hk).1;have:c=m.kl.length:=by rw[hlen']at hc2;omega
    subst this;rw[ZP UM,Y0]at hk;injection hk with hk;exact .inr ⟨rfl,hk.symm⟩
 refine⟨⟨hm',ui.weaken (λs r hr=>⟨hr.1,Ms r hr.2⟩) (λr hr=>?_),⟨hh.c0,hh.c1,hh.c2,hh.c3,hh.c4⟩,h.np6,h.cll,hsm,λt=>?_,?_,⟨λc k hk=>?_,λc d hc hd e=>?_⟩,λc hc=>?_,λc t hc=>?_,λc t=>?_,h.yZ,⟨h.ap.Bc,h.ap.Bo,λc hc=>?_,λc hc=>?_,λc t hc=>?_,λc d hc hd e=>?_⟩,?_,h.J7.Ut Wa dY,λk hk hg=>?_⟩,rfl,rfl,Wa,V',aaD,SJ,λk hk=>yg⟩
 . rcases hr with hr|hr
   . exact .inl (Ms r hr)
   . exact .inr hr
 . show (put K.lc s ((VG (Ty+1)))).lookup t=_;rw[S9,abO (k:=⟨s,some a,m.tot a+n,[]⟩) hno t];by_cases e:t=s
   . rw[ZU e,ZU e];simp only[ZG];rw[GJ]
   . rw[ZX e,ZX e,h.iW t]
     cases hcl:m.cls t with
     | none=>rfl
     | some c=>
      simp only[ZG];rw[SJ c (OO hcl)]
 . show (put K.lc s _).length=_;rw[oO _ (by rw[h.iW s,hno];rfl),hlen,h.lcn]
 . rcases hkl c k hk with⟨hc,hk'⟩|⟨rfl,rfl⟩
   . have h1:=h.cls.at_ c k hk';rw[SJ c hc,RL c hc]
     have hab:k.above.map (K.more m.kl.length Ty s).cb=k.above.map K.cb:=by
      cases hka:k.above with
      | none=>rfl
      | some p=>
       simp only[ZG];rw[SJ p (CS h.ok (c:=c) (by unfold Im.ab;rw[hk'];exact hka))]
     rw[hab];exact(XX _ (h.cls.Vb hc)).trans h1
   . rw[GJ,NB];simp only[ZG];rw[SJ a ha];have e1:((m.tot a+n:Nat):Int)=(m.tot a:Int)+(n:Int):=VH;rw[e1];exact hcb
 . rw[hlen]at hc hd;by_cases hc':c<m.kl.length
   . by_cases hd':d<m.kl.length
     . rw[SJ c hc',SJ d hd']at e;exact h.cls.inj c d hc' hd' e
     . have:d=m.kl.length:=by omega
       subst this;rw[SJ c hc',GJ]at e;have:=(h.cls.Vb hc').lt;omega
   . have:c=m.kl.length:=by omega
     subst this;by_cases hd':d<m.kl.length
     . rw[SJ d hd',GJ]at e;have:=(h.cls.Vb hd').lt;omega
     . omega
 . rw[hlen]at hc;by_cases hc':c<m.kl.length
   . rw[RL c hc'];show SMap w' (K.cm c) (if c=m.kl.length then [] else K.lm c);rw[ZX VH];exact(h.lm c hc').same (hch.block _ (h.lm c hc').lt (h.ap.zF c hc'))
   . have:c=m.kl.length:=by omega
     subst this;rw[NB];show SMap w' Ty (if m.kl.length=m.kl.length then [] else K.lm m.kl.length);rw[ZU rfl];exact OL hcm
 . rw[hlen]at hc;show (if c=m.kl.length then [] else K.lm c).lookup t=(K.mid c t).map _;by_cases hc':c<m.kl.length
   . rw[ZX VH];exact h.mid c t hc'
   . have:c=m.kl.length:=by omega
     subst this;rw[ZU rfl];have w9:m.own m.kl.length t=none:=by unfold Im.own;rw[Y8 UM];rfl
     rw[h.own]at w9;rw[Option.map_eq_none_iff]at w9;rw[w9];rfl
 . rw[adW rfl];exact h.own c t
 . rw[hlen]at hc;show (K.more m.kl.length Ty s).cm c≠K.mb;by_cases hc':c<m.kl.length
   . rw[RL c hc'];exact h.ap.zF c hc'
   . have:c=m.kl.length:=by omega
     subst this;rw[NB];have:=h.lc.lt;omega
 . rw[hlen]at hc;show (K.more m.kl.length Ty s).cm c≠K.k.sb;by_cases hc':c<m.kl.length
   . rw[RL c hc'];exact h.ap.IQ c hc'
   . have:c=m.kl.length:=by omega
     subst this;rw[NB];have:=h.Uc.snd.map.lt;omega
 . rw[hlen]at hc;show K.k.l.lookup t≠some (.map (some ((K.more m.kl.length Ty s).cm c)));by_cases hc':c<m.kl.length
   . rw[RL c hc'];exact h.ap.yQ c t hc'
   . have:c=m.kl.length:=by omega
     subst this;rw[NB];intro e;have:=h.Uc.lt (.inr (.inl ⟨t,e⟩));omega
 . rw[hlen]at hc hd;by_cases hc':c<m.kl.length
   . by_cases hd':d<m.kl.length
     . rw[RL c hc',RL d hd']at e;exact h.ap.DU c d hc' hd' e
     . have:d=m.kl.length:=by omega
       subst this;rw[RL c hc',NB]at e;have:=(h.lm c hc').lt;omega
   . have:c=m.kl.length:=by omega
     subst this;by_cases hd':d<m.kl.length
     . rw[RL d hd',NB]at e;have:=(h.lm d hd').lt;omega
     . omega
 . have ho:=h.obs.same (w':=w') (λk hk=>by
    obtain⟨cs,hcs⟩:=h.obs.kind hk
    exact XX k (by rcases hcs with e|e<;>exact⟨_,_,e⟩))
   refine⟨?_,ho.at_,ho.inj,ho.nil⟩
   have e1:ER (K.more m.kl.length Ty s).cb K.ob 0 m.obs=ER K.cb K.ob 0 m.obs:=Kv m.obs m.obs 0 rfl (λi o o' h1 h2=>by
    rw[h1]at h2;injection h2 with h2;subst h2
    exact⟨SJ _ (h.ok.obj o (ZK h1)).1,rfl,rfl⟩)
   show w'.ownsRow 0 105 2 K.ov m.obs.length (ER (K.more m.kl.length Ty s).cb K.ob 0 m.obs);rw[e1];exact ho.own
 . exact zx
theorem bQ (h:Ud w m K)(s t:ByteArray)(n:Int)(hs:s.size<=140737488355328):
 Calls prog 15 #[VG K.b,.string s,.string t,VI n] w λe w'=>e=.returned (VI (m.TR s t n).1)/\∃K',Step w w' m K (m.TR s t n).2 K':=by
 have hok:=(Kn.H9 h.ok s t n).1;obtain⟨cr,hcr⟩:∃cr,m.TR s t n=cr:=Vx;rw[hcr]at hok ⊢;unfold Im.TR at hcr;by_cases hbad:className (bl s)=false\/n<0
 . rw[ZU hbad]at hcr;subst hcr;refine(dR s t n K.b w hs hbad).mono ?_;rintro e w' ⟨rfl,hb⟩;exact⟨rfl,K,Step.below h hb⟩
 . rw[ZX hbad]at hcr
   have hcn:className (bl s)=true:=by
    cases hx:className (bl s) with
    | true=>rfl
    | false=>exact absurd (.inl hx) hbad
   have hn:0<=n:=by
    apply Zt;intro hx;exact hbad (.inr VH)
   have err:∀r:Int,cr=(r,m)->(((∃p,K.lc.lookup s=some (.pointer (some p)))/\r=3)\/(K.lc.lookup s=none/\K.lc.lookup t=none/\r=2)\/
    (∃a tot,K.lc.lookup s=none/\K.lc.lookup t=some (VG a)/\w.cell? (VJ a 3)=some (VI tot)/\0<=tot/\tot<=10/\((10-tot<n/\r=9)\/(n<=10-tot/\K.lc.length=12/\r=10))))->
    Calls prog 15 #[VG K.b,.string s,.string t,VI n] w λe w'=>e=.returned (VI cr.1)/\∃K',Step w w' m K cr.2 K':=by
    intro r hr hh;subst hr;refine(bY s t n K.b K.mb K.lc w hs hcn hn h.hd.c0 h.lc r hh).mono ?_;rintro e w' ⟨rfl,hb⟩;exact⟨rfl,K,Step.below h hb⟩
   cases hcs:m.cls s with
   | some c=>
    rw[hcs]at hcr;exact err 3 hcr.symm (.inl ⟨⟨_,by rw[h.iW s,hcs];rfl⟩,rfl⟩)
   | none=>
    rw[hcs]at hcr;simp only at hcr;have hls:K.lc.lookup s=none:=by rw[h.iW s,hcs];rfl
    cases hct:m.cls t with
    | none=>
     rw[hct]at hcr;exact err 2 hcr.symm (.inr (.inl ⟨hls,by rw[h.iW t,hct];rfl,rfl⟩))
    | some a=>
     rw[hct]at hcr;simp only at hcr;have ha:=OO hct;have hlt:K.lc.lookup t=some ((VG (K.cb a))):=by rw[h.iW t,hct];rfl
     have h3:=h.cls.tot ha;have htot:=mP h.ok a;by_cases h9:10<(m.tot a:Int)+n
     . rw[ZU h9]at hcr;exact err 9 hcr.symm (.inr (.inr ⟨K.cb a,_,hls,hlt,h3,VH,VH,.inl ⟨VH,rfl⟩⟩))
     . rw[ZX h9]at hcr;by_cases h10:12<=m.kl.length
       . rw[ZU h10]at hcr;have:=h.ok.few;exact err 10 hcr.symm (.inr (.inr ⟨K.cb a,_,hls,hlt,h3,VH,VH,.inr ⟨VH,by rw[h.lcn];omega,rfl⟩⟩))
       . rw[ZX h10]at hcr;subst hcr;obtain⟨n',rfl⟩:∃n':Nat,n=(n':Int):=Dv;refine(H9 s t (n':Int) (m.tot a:Int) K.b K.mb (K.cb a) K.lc w hs hcn hn h.hd.c0 h.lc hls hlt h3 VH VH VH (by rw[h.lcn];omega)).mono ?_;rintro e w' ⟨rfl,Ty,hlo,hsm,hcm,hcb,hch⟩;rw[h.lcn]at hcb;rw[Zp]at hok ⊢;exact⟨rfl,_,h.aeG hcs ha hok hlo hsm hcm hcb hch⟩
def Oh (a0 a1:Int):Prop:=0<=a0/\a0<=6/\1<=a1/\a1<=64/\(bits BinOp.and IntKind.i64 a1 (a1-1)==0)=true
def Kd.new (s j np n:Nat):Kd where
 b:=s+2
 mb:=s
 cb:=λc=>if c=0 then s+4 else j+1
 cm:=λc=>if c=0 then s+3 else j
 lc:=[(JI,(VG (s+4))),(NH,(VG (j+1)))]
 lm:=λ_=>[]
 mid:=λ_ _=>none
 UC:=0
 k:={np:=np,sb:=s+1,n:=n,l:=[],ps:=λ_=>[],L:=[],pm:=λ_=>.no,R:=λ_=>noRow,Mk:=λ_=>False,md:=λ_=>⟨[],none,0,0,λ_=>0⟩}
 ov:=.slice none 0 0
 ob:=λ_=>0
theorem wJ:im0.kl.length=2:=rfl
theorem af5 {j:Nat}{a0 a1:Int}(hg:Qv w)(h:Oh a0 a1)(hn:NewAt w' w.heap.size j a0 a1)(hb:Below w.heap.size w w'):Ud w' im0 (Kd.new w.heap.size j a0.toNat a1.toNat)/\∀k,U2 im0 (Kd.new w.heap.size j a0.toNat a1.toNat) k->w.heap.size<=k:=by
 obtain⟨h0,h0,h2,h3,h3⟩:=h
 obtain⟨n0,rfl⟩:∃n0:Nat,a0=(n0:Int):=⟨a0.toNat,VH⟩
 obtain⟨n1,rfl⟩:∃n1:Nat,a1=(n1:Int):=⟨a1.toNat,VH⟩
 rw[Zp,Zp];have hlo:=hn.lo;obtain⟨i0,i1,i2,i3,i4,i5⟩:=aam hn.img
 have V':∀k,U2 im0 (Kd.new w.heap.size j n0 n1) k->w.heap.size<=k:=λk e=>by
  rcases e with e|e|⟨c,hc,e|e⟩|e|e|⟨i,hi,_⟩
  . have e:k=w.heap.size+2:=e;omega
  . have e:k=w.heap.size:=e;omega
  . have e:k=if c=0 then w.heap.size+4 else j+1:=e
    split at e<;>omega
  . have e:k=if c=0 then w.heap.size+3 else j:=e
    split at e<;>omega
  . rcases e with e|⟨s,e⟩|⟨p,s,hps,_⟩|e
    . have e:k=w.heap.size+1:=e;omega
    . cases e
    . cases hps
    . exact e.elim
  . rcases e with e|⟨i,hi,_⟩
    . cases e
    . exact absurd hi (by show ¬i<0;omega)
  . exact hi.elim
 have AW:=hg.same hb.size (λk hk=>hb.block k (hg.lt hk));refine⟨⟨acd,⟨⟨_,hn.img⟩,i5,afw hn.snd,⟨by show n0<=6;omega,by simp[Kd.new],λp s hps=>(by cases hps),λp s hps=>(by cases hps),λp s r hps=>(by cases hps),λp s p' s' q hps=>(by cases hps)⟩,λs p ⟨ib,e,_⟩=>(by cases e),λp s hps=>(by cases hps),agp hn.img (by show 1<=n1;omega) (by show n1<=64;omega),λi _=>.inr rfl,λk hk=>hk.elim,λk hk=>hk.elim⟩,⟨i0,i1,?_,?_,i4⟩,by show n0<=6;omega,ZN _,hn.cls,λs=>?_,rfl,⟨λc k hk=>?_,λc d hc hd e=>?_⟩,λc hc=>?_,λc s hc=>rfl,λc s=>?_,λc s k hk=>(by cases hk),⟨?_,λs e=>(by cases e),λc hc=>?_,λc hc=>?_,λc s hc e=>(by cases e),λc d hc hd e=>?_⟩,⟨YW _ _ _ _,λi o ho=>(by cases ho),λi k hi=>absurd hi (by show ¬i<0;omega),λ_=>rfl⟩,AW,λk hk hgl=>?_⟩,V'⟩
 . rw[show Go.RowKit.wrap64 ((im0.looks:Nat):Int)=0 from by unfold Go.RowKit.wrap64;simp[im0]];exact i2
 . rw[show Go.RowKit.wrap64 (((Kd.new w.heap.size j n0 n1).UC:Nat):Int)=0 from by unfold Go.RowKit.wrap64;simp[Kd.new]];exact i3
 . show List.lookup s [(JI,_),(NH,_)]=_;by_cases e0:s=JI
   . subst e0;have:im0.cls JI=some 0:=Vz;rw[this];simp[List.lookup,Tq,Kd.new]
   . by_cases e1:s=NH
     . subst e1;have:im0.cls NH=some 1:=Vz;rw[this];have:(NH==JI)=false:=Vz;simp[List.lookup,this,Tq,Kd.new]
     . have h0':=(Vf _ _).2 e0;have h1':=(Vf _ _).2 e1;have iu:((⟨#[65,110,121]⟩:ByteArray)==s)=false:=(Vf _ _).2 (λe=>e0 e.symm);have fl:((⟨#[73,110,116]⟩:ByteArray)==s)=false:=(Vf _ _).2 (λe=>e1 e.symm);have:im0.cls s=none:=by unfold Im.cls im0;simp[WC,iu,fl]
       rw[this];simp[List.lookup,h0',h1']
 . match c,hk with
   | 0,hk=>
    have hk:(⟨⟨#[65,110,121]⟩,none,0,[]⟩:Kl)=k:=by simpa[im0]using hk
    subst hk;exact hn.apj
   | 1,hk=>
    have hk:(⟨⟨#[73,110,116]⟩,some 0,0,[]⟩:Kl)=k:=by simpa[im0]using hk
    subst hk;exact hn.apP
   | c+2,hk=>simp[im0]at hk
 . have e:(if c=0 then w.heap.size+4 else j+1)=(if d=0 then w.heap.size+4 else j+1):=e;rw[wJ]at hc hd;split at e<;>split at e<;>omega
 . rw[wJ]at hc;show SMap w' (if c=0 then w.heap.size+3 else j) [];by_cases e:c=0
   . rw[ZU e];exact OL hn.anyM
   . rw[ZX e];exact OL hn.apg
 . show im0.own c s=none;unfold Im.own
   match c with
   | 0=>rfl
   | 1=>rfl
   | c+2=>simp[im0]
 . show w.heap.size≠w.heap.size+1;omega
 . show (if c=0 then w.heap.size+3 else j)≠w.heap.size;split<;>omega
 . show (if c=0 then w.heap.size+3 else j)≠w.heap.size+1;split<;>omega
 . have e:(if c=0 then w.heap.size+3 else j)=(if d=0 then w.heap.size+3 else j):=e;rw[wJ]at hc hd;split at e<;>split at e<;>omega
 . have h0:=V' k hk;have h2:=hg.lt hgl;omega
theorem new_any (a0 a1:Int)(w:World)(hg:Qv w)(h:Oh a0 a1):
 Calls prog 7 #[VI a0,VI a1] w λe w'=>∃K,e=.returned (.tuple #[VG K.b,VI 0])/\Ud w' im0 K/\(∀k,U2 im0 K k->w.heap.size<=k)/\Below w.heap.size w w':=by
 refine(akD a0 a1 w h.1 h.2.1 h.2.2.1 h.2.2.2.1 h.2.2.2.2).mono ?_;rintro e w' ⟨rfl,⟨j,hn⟩,hb⟩;obtain⟨h1,h2⟩:=af5 hg h hn hb;exact⟨_,rfl,h1,h2,hb⟩
theorem alo (a0 a1:Int)(w:World)(h:¬Oh a0 a1):
 Calls prog 7 #[VI a0,VI a1] w λe w'=>e=.returned (.tuple #[.pointer none,VI 1])/\w'=w:=by
 by_cases h0:0<=a0
 . by_cases h1:a0<=6
   . by_cases h2:1<=a1
     . by_cases h3:a1<=64
       . have h4:(bits BinOp.and IntKind.i64 a1 (a1-1)==0)=false:=by
          simpa[Oh,h0,h1,h2,h3]using h
         exact qH
       all_goals
        exact qH
     all_goals
      exact qH
   all_goals
    exact qH
 all_goals
  exact qH
structure ObF (w:World)(cb ob:Nat->Nat)(p:Option Addr)(obs:List Ob)(i:Nat)(o:Ob)(g:Nat):Prop where
 p:p=some (VJ g 0)
 c0:w.cell? (VJ g (i*2))=some ((VG (cb o.cls)))
 c1:w.cell? (VJ g (i*2+1))=some (.slice (some (VJ (ob i) 0)) o.slots.length o.slots.length)
 fz:∀k,w.frozen? (VJ g k)=false
 typ:∃cs,w.heap[g]?=some (.cells cs 105)
theorem OQ.form {cb ob:Nat->Nat}{v:Value}{obs:List Ob}(h:OQ w cb ob v obs):∃p cap,v=.slice p obs.length cap/\∀i o,obs[i]?=some o->∃g,v.ownBlock=some g/\ObF w cb ob p obs i o g:=by
 have hown:=h.own;rcases h.own.2 with⟨e,hn⟩|⟨g,cap,cur,e,h1,h1,h3⟩
 . refine⟨none,0,by rw[e,hn],λi o ho=>?_⟩;have:=(Z7.1 ho).1;omega
 . refine⟨some (VJ g 0),cap,e,λi o ho=>⟨g,Sv,rfl,?_,?_,λk=>UL.free ⟨_,_,h1⟩ k,⟨cur,h1⟩⟩⟩
   . have hi:=(Z7.1 ho).1;rw[e]at hown;rw[hown.cellAt (i*2) VH];exact(xR cb ob obs 0 i o ho).1
   . have hi:=(Z7.1 ho).1;rw[e]at hown;rw[hown.cellAt (i*2+1) VH];have:=(xR cb ob obs 0 i o ho).2;rw[YU]at this;exact this
theorem yB {b:Nat}{p:Option Addr}{n cap:Nat}(hn:n<=40)(h1:w.cell? (VJ b 1)=some (.slice p n cap))(o:Int):
 Calls prog 52 #[VG b,VI o] w λe w'=>e=.returned (.bool (decide (0<=o)&&decide (o<(n:Int))))/\w'=w:=by
 by_cases h0:0<=o
 . by_cases hl:o<(n:Int)
   . rw[show (decide (0<=o)&&decide (o<(n:Int)))=true from by simp[h0,hl]];go_enter func52,ntmps52;go_wp2
     go_ret
     exact⟨bF,rfl⟩
   . rw[show (decide (0<=o)&&decide (o<(n:Int)))=false from by simp[hl]];go_enter func52,ntmps52;go_wp2
     go_ret
     exact⟨bF,rfl⟩
 . rw[show (decide (0<=o)&&decide (o<(n:Int)))=false from by simp[h0]];go_enter func52,ntmps52;go_wp2
   go_ret
   exact⟨bF,rfl⟩
theorem af9 (h:U3 m)(s:ByteArray):m.made s=if s=⟨#[73,110,116]⟩ then none else m.cls s:=by
 unfold Im.made
 by_cases e:s=⟨#[73,110,116]⟩
 . rw[ZU e]
   cases hc:m.cls s with
   | none=>rfl
   | some c=>
    have:=(xZ h hc).2.2 e;subst this;rfl
 . rw[ZX e]
   cases hc:m.cls s with
   | none=>rfl
   | some c=>
    have:c≠1:=λe1=>e ((xZ h hc).2.1 e1)
    match c,this with
    | 0,_=>rfl
    | 1,h=>exact absurd rfl h
    | c+2,_=>rfl
theorem Dp (h:Ud w m K)(s:ByteArray):
 Calls prog 39 #[VG K.b,.string s] w λe w'=>e=.returned (.pointer (Vq ((m.made s).map K.cb)))/\w'=w:=by
 have lk:=h.look s;have c0:=h.hd.c0;have Wm:=af9 h.ok s
 by_cases e:s=⟨#[73,110,116]⟩
 . rw[ZU e]at Wm;rw[Wm];subst e;clear h Wm;go_enter func39,ntmps39;go_wp2
   go_ret
   exact KP
 . have n1:(s.toList==[73,110,116])=false:=ZF.2 (vO e);rw[ZX e]at Wm;rw[Wm];clear h Wm;go_enter func39,ntmps39;go_wp2
   go_ret
   exact KP
theorem Cls.name {cb cm:Nat->Nat}(h:Cls w m cb cm){c:Nat}{k:Kl}(hk:m.kl[c]?=some k):w.cell? (VJ (cb c) 0)=some (.string k.name):=by
 have:=h.at_ c k hk;refine FK ?_;rfl
theorem alE (h:Ud w m K)(o:Int):
 Calls prog 25 #[VG K.b,VI o] w λe w'=>e=.returned (.tuple #[.string (m.nP o).1,VI (m.nP o).2])/\w'=w:=by
 refine aji ?_;intro p cap hv hf c1 hn hcall;obtain⟨r,hr⟩:∃r,m.nP o=r:=Vx;rw[hr]
 cases ht:m.there o with
 | false=>
  have hdr:r=(⟨#[]⟩,4):=by rw[<- hr];unfold Im.nP;rw[ht];rfl
  subst hdr;rw[ht]at hcall;clear h hr ht hf hv;go_enter func25,ntmps25;go_wp2_with fail;refine hcall.mono ?_;rintro e w' ⟨rfl,rfl⟩;go_wp2
  go_ret2
  exact KP
 | true=>
  obtain⟨i,x,rfl,hx,hi,hil⟩:=Rj ht;obtain⟨g,hg,hF⟩:=hf i x hx;have hxo:=h.ok.obj x (ZK hx)
  obtain⟨kc,hk⟩:∃kc,m.kl[x.cls]?=some kc:=⟨_,Z8 hxo.1⟩
  have hdr:r=(kc.name,0):=amm;subst hdr;have n0:=h.cls.name hk;obtain⟨rfl⟩:=hF.p;have o0:=hF.c0;rw[ht]at hcall;refine Jz ?_;intro R6;clear h hr ht hf hv hF hg hxo hk hx;go_enter func25,ntmps25;go_wp2_with fail;refine hcall.mono ?_;rintro e w' ⟨rfl,rfl⟩;go_wp2
  go_ret2
  exact KP
theorem Lc {fn:Func}{p k:Tmp}(h:fn.results=#[.cell p 33,.tmp k]){tmps:Array Value}{z:Nat}(v0 v1 v:Value)(hp:tmps.getD p undef=(VG z))(hk:tmps.getD k undef=v)(z0:w.cell? (VJ z 0)=some v0)(z1:w.cell? (VJ z 1)=some v1):
 (results fn tmps).run prog w=.ok (.tuple #[.agg #[v0,v1],v]) w:=by
 exact alm
theorem OQ.val {cb ob:Nat->Nat}{v:Value}{obs:List Ob}(h:OQ w cb ob v obs){i:Nat}{o:Ob}(ho:obs[i]?=some o){j:Nat}{x:Vl}(hx:o.slots[j]?=some x):w.cell? (VJ (ob i) (j*2))=some (.bool x.obj)/\w.cell? (VJ (ob i) (j*2+1))=some (VI x.n):=by
 have hb:=h.at_ i o ho;have:=PV o.slots j x hx;refine Iq ?_;simpa using this
theorem aev (h:Ud w m K)(o j:Int):
 Calls prog 23 #[VG K.b,VI o,VI j] w λe w'=>e=.returned (.tuple #[(m.slot o j).1.val,VI (m.slot o j).2])/\Below w.heap.size w w':=by
 obtain⟨p,cap,hv,hf⟩:=h.obs.form;have c1:=h.hd.c1;rw[hv]at c1;have hn:=h.ok.objs;have c1':(w.alloc (.cells #[.bool false,VI 0] 33)).cell? (VJ K.b 1)=some (.slice p m.obs.length cap):=UG;have hcall:=yB hn c1' o;rw[show (decide (0<=o)&&decide (o<(m.obs.length:Int)))=m.there o from rfl]at hcall;obtain⟨r,hr⟩:∃r,m.slot o j=r:=Vx;rw[hr];refine aja ?_;intro hz z0 z1;have HB:Hid (Below w.heap.size w (w.alloc (.cells #[.bool false,VI 0] 33))):=(ZR _ w).alloc UM _
 cases ht:m.there o with
 | false=>
  have hdr:r=(Vl.zero,4):=by rw[<- hr];unfold Im.slot;rw[ht];rfl
  subst hdr;rw[ht]at hcall;clear h hr ht hf hv;go_enter func23,ntmps23;go_wp2_with fail;refine hcall.mono ?_;rintro e w' ⟨rfl,rfl⟩;go_wp2;refine aaZ ?_;exact⟨rfl,HB.o⟩
 | true=>
  obtain⟨i,x,rfl,hx,hi,hil⟩:=Rj ht;obtain⟨g,hg,hF⟩:=hf i x hx;have hxo:=h.ok.obj x (ZK hx)
  have hsl:m.slot (i:Int) j=(if 0<=j then (match x.slots[j.toNat]? with
   | some v=>(v,(0:Int))
   | none=>(Vl.zero,(4:Int))) else (Vl.zero,(4:Int))):=by unfold Im.slot;rw[ht,ZU rfl,hi,hx];rfl
  obtain⟨rfl⟩:=hF.p;have hgl:=ZE w (VJ g (i*2+1)) hF.c1;have o1:(w.alloc (.cells #[.bool false,VI 0] 33)).cell? (VJ g (i*2+1))=some (.slice (some (VJ (K.ob i) 0)) x.slots.length x.slots.length):=(Z9 (a:=(VJ g (i*2+1))) (ZV w _ g hgl)).trans hF.c1;rw[ht]at hcall;refine Jz ?_;intro R6
  have HO:Hid (OQ w K.cb K.ob K.ov m.obs/\m.obs[i]?=some x):=⟨h.obs,hx⟩
  clear h ht hf hv hF hg hxo hx;by_cases hj:0<=j
  . by_cases hjl:j<(x.slots.length:Int)
    . obtain⟨jn,rfl⟩:∃jn:Nat,j=(jn:Int):=⟨j.toNat,VH⟩
      obtain⟨u,hu⟩:∃u,x.slots[jn]?=some u:=⟨_,Z8 VH⟩
      have hdr:r=(u,0):=by rw[<- hr,hsl,ZU hj,Zp,hu]
      subst hdr;have Q0:=HO.o.1.at_ i x HO.o.2;have hol:=(Z5.1 Q0).1;obtain⟨u0,u1⟩:=HO.o.1.val HO.o.2 hu;have s0:(w.alloc (.cells #[.bool false,VI 0] 33)).cell? (VJ (K.ob i) (jn*2))=some (.bool u.obj):=(Z9 (a:=(VJ (K.ob i) (jn*2))) (ZV w _ _ hol)).trans u0;have s0:(w.alloc (.cells #[.bool false,VI 0] 33)).cell? (VJ (K.ob i) (jn*2+1))=some (VI u.n):=(Z9 (a:=(VJ (K.ob i) (jn*2+1))) (ZV w _ _ hol)).trans u1;have hz':=(Z4 w (.cells #[.bool u.obj,VI u.n] 33)).1;have y0:(w.alloc (.cells #[.bool u.obj,VI u.n] 33)).cell? (VJ w.heap.size 0)=some (.bool u.obj):=by simp only[World.cell?,hz'];rfl
      have y1:(w.alloc (.cells #[.bool u.obj,VI u.n] 33)).cell? (VJ w.heap.size 1)=some (VI u.n):=by simp only[World.cell?,hz'];rfl
      have cE:Hid (Below w.heap.size w (w.alloc (.cells #[.bool u.obj,VI u.n] 33))):=(ZR _ w).alloc UM _;clear hr hsl Q0 u0 u1 hu hz hz';go_enter func23,ntmps23;go_wp2_with fail;refine hcall.mono ?_;rintro e w' ⟨rfl,rfl⟩;go_wp2;refine ZQ (Lc rfl _ _ _ rfl rfl y0 y1) rfl ?_;exact⟨rfl,cE.o⟩
    . have hdr:r=(Vl.zero,4):=by rw[<- hr,hsl,ZU hj,Y8 VH]
      exact anS
  . have hdr:r=(Vl.zero,4):=by rw[<- hr,hsl,ZX hj]
    exact anS
theorem Ud.aa3 (h:Ud w m K){obs:List Ob}{ov:Value}{ob:Nat->Nat}(hm':U3 {m with obs:=obs}) (ho:OQ w' K.cb ob ov obs) (Ra:∀k,KF ob ov obs.length k->KF K.ob K.ov m.obs.length k\/w.heap.size<=k)
 (hch:Vt w w' (λk=>k=K.b\/KF K.ob K.ov m.obs.length k)) (Cz:∃cur,w'.heap[K.b]?=some (.cells cur 70)) (hcell:∀o,o≠1->w'.cell? (VJ K.b o)=w.cell? (VJ K.b o)) (hc1:w'.cell? (VJ K.b 1)=some ov):
 Step w w' m K {m with obs:=obs} {K with ov:=ov,ob:=ob}:=by
 have w9:∀k,KF K.ob K.ov m.obs.length k->UL w k/\(∀cs t fz,w.heap[k]?=some (.cells cs t fz)->t=105\/t=33):=λk hk=>by
  obtain⟨cs,hcs⟩:=h.obs.kind hk;rcases hcs with e|e
  . exact⟨⟨_,_,e⟩,λcs' t fz e'=>by rw[e]at e';injection e' with e';injection e' with _ e' _;exact .inl e'.symm⟩
  . exact⟨⟨_,_,e⟩,λcs' t fz e'=>by rw[e]at e';injection e' with e';injection e' with _ e' _;exact .inr e'.symm⟩
 have hty:∀k cs t fz,w.heap[k]?=some (.cells cs t fz)->t≠105->t≠33->¬KF K.ob K.ov m.obs.length k:=λk cs t fz hk h1 h2 e=>by
  rcases (w9 k e).2 cs t fz hk with e|e
  . exact h1 e
  . exact h2 e
 have hmp:∀k l,SMap w k l->¬(k=K.b\/KF K.ob K.ov m.obs.length k):=λk l hs e=>by
  rcases e with e|e
  . exact UA h.Uc.tab.Vb hs e.symm
  . exact UA (w9 k e).1 hs rfl
 have hcl:∀c,c<m.kl.length->¬(K.cb c=K.b\/KF K.ob K.ov m.obs.length (K.cb c)):=λc hc e=>by
  rcases e with e|e
  . exact(h.Uc.vI h.cls hc).2 e
  . exact hty _ _ _ _ (h.cls.at_ c _ (Z8 hc)) Vz Vz e
 have hcb:∀k,Td K.k k->¬(k=K.b\/KF K.ob K.ov m.obs.length k):=λk hk e=>by
  rcases e with e|e
  . exact h.Uc.bn (by rw[<- e];exact hk)
  . obtain⟨cs,hcs⟩:=h.obs.kind e;rcases hcs with hc|hc
    . exact h.Uc.other hc Vz Vz Vz hk
    . exact h.Uc.other hc Vz Vz Vz hk
 have hg:∀j,K.k.Mk j->1<=(K.k.md j).ws.length->¬((K.k.md j).g=K.b\/KF K.ob K.ov m.obs.length (K.k.md j).g):=λj hj h1 e=>by
  rcases e with e|e
  . exact(h.Uc.gn hj h1).2 e
  . obtain⟨x,hx⟩:∃x,(K.k.md j).ws[0]?=some x:=⟨_,Z8 VH⟩
    have c0:=(h.Uc.mt j hj).LV.c0 0 x hx;rw[Yu]at c0;rcases e with e|⟨i,hi,e⟩
    . obtain⟨p,cap,hv,hf⟩:=h.obs.form;by_cases hn:0<m.obs.length
      . obtain⟨g',hg',hF⟩:=hf 0 _ (Z8 hn);rw[hg']at e;injection e with e;have:=hF.c0;rw[e,Yu,c0]at this;cases this
      . have hnil:=h.obs.nil (Yq VH);rw[hnil]at e;cases e
    . have hb:=h.obs.at_ i _ (Z8 hi);rw[e]at c0;simp only[World.cell?,hb]at c0
      cases hsl:(m.obs[i]).slots with
      | nil=>rw[hsl]at c0;simp[vcs]at c0
      | cons a l=>rw[hsl]at c0;simp[vcs]at c0
 have V':∀k,U2 {m with obs:=obs} {K with ov:=ov,ob:=ob} k->U2 m K k\/w.heap.size<=k:=λk e=>by
  rcases e with e|e|e|e|e|e
  . exact .inl (.inl e)
  . exact .inl vJ
  . exact .inl EP
  . exact .inl adf
  . rcases Ra k e with e|e
    . exact .inl mM
    . exact .inr e
  . exact .inl aaN
 have Wa:Vt w w' (U2 m K):=hch.mono (λk _ e=>by
  rcases e with e|e
  . exact .inl e
  . exact .inr adf)
 have E':Qr w' K.b K.k (λ_=>False) (o8 m K) (SrI m K):=by
  have hcc:=h.Uc;have hblk:∀k,Td K.k k->w'.heap[k]?=w.heap[k]?:=λk e=>hch.block k (hcc.lt e) (hcb k e);have ht:=hcc.tab;refine⟨Cz,(hcell 5 VH).trans hcc.b5,⟨hcc.snd.map.same (hblk _ NP),λs v hv=>?_,hcc.snd.inj,λs ib p hs hp=>(hcc.snd.Vb s ib p hs hp).same (hblk p (.inr (.inr (.inl ⟨p,s,hcc.reg s p ⟨ib,hs,hp⟩,.inl rfl⟩))))⟩,hcc.Ru.same (λk e=>hblk k EP),hcc.reg,hcc.told,⟨?_,ht.n1,ht.n64,(hcell _ VH).trans ht.sz,λi hi=>(hcell _ VH).trans (ht.c0 i hi),λi hi=>(hcell _ VH).trans (ht.c1 i hi),λi hi=>(hcell _ VH).trans (ht.c2 i hi),λi hi=>(hcell _ VH).trans (ht.c3 i hi)⟩,hcc.rows,λk e=>(hcc.mt k e).same (hblk k aeg) (λh1=>hch.block _ ((hcc.mt k e).LV.Vb h1).lt (hg k e h1)),hcc.gq⟩
  . obtain⟨ib,rfl,h4,h5⟩:=hcc.snd.inn s v hv;exact⟨ib,rfl,h4.same (hblk _ (.inr (.inl ⟨s,hv⟩))),h5⟩
  . obtain⟨cur,V_⟩:=Cz;exact⟨_,_,V_⟩
 have hh:=h.hd;refine⟨⟨hm',E',⟨(hcell 0 VH).trans hh.c0,hc1,(hcell 2 VH).trans hh.c2,(hcell 3 VH).trans hh.c3,(hcell 4 VH).trans hh.c4⟩,h.np6,h.cll,h.lc.same (hch.block _ h.lc.lt (hmp _ _ h.lc)),h.iW,h.lcn,⟨(h.cls.Ut hch hcl).at_,h.cls.inj⟩,λc hc=>(h.lm c hc).same (hch.block _ (h.lm c hc).lt (hmp _ _ (h.lm c hc))),h.mid,h.own,h.yZ,agD,ho,h.J7.Ut Wa dY,λk hk hgl=>?_⟩,rfl,rfl,Wa,V',ZN _,λ_ _=>rfl,λk hk=>yg⟩;rcases V' k hk with e|e
 . exact h.gl k e hgl
 . have:=h.J7.lt hgl;omega
theorem Ud.apL (h:Ud w m K){i c g:Nat}{x:Ob}(hx:m.obs[i]?=some x)(hg:K.ov.ownBlock=some g)(hm':U3 {m with obs:=m.obs.set i {x with cls:=c} }):
 Step w (w.setCell (VJ g (i*2)) ((VG (K.cb c)))) m K {m with obs:=m.obs.set i {x with cls:=c} } K:=by
 have hi:=(Z7.1 hx).1;obtain⟨p,cap,hv,hf⟩:=h.obs.form;obtain⟨g',hg',hF⟩:=hf i x hx;rw[hg']at hg;injection hg with hg;subst hg;obtain⟨rfl⟩:=hF.p;have hgO:KF K.ob K.ov m.obs.length g':=.inl hg';obtain⟨cs0,vj⟩:=hF.typ;have B_:∀j,j≠g'->(w.setCell (VJ g' (i*2)) ((VG (K.cb c)))).heap[j]?=w.heap[j]?:=λj hj=>ZW _ _ _ _ hj
 have hb:K.b≠g':=λe=>by
  obtain⟨cur,V_⟩:=h.Uc.img;rw[e,vj]at V_;injection V_ with V_;injection V_ with _ V_ _;revert V_;decide
 have hlen:(m.obs.set i {x with cls:=c}).length=m.obs.length:=Vy;have hown:=h.obs.own;rw[hv]at hown
 have hst:=(hown.stored (i*2) ((VG (K.cb c))))
 refine Ud.aa3 (ov:=K.ov) (ob:=K.ob) h hm' ⟨?_,λj o ho=>?_,λa b ha hb=>h.obs.inj a b (by rw[<- hlen];exact ha) (by rw[<- hlen];exact hb),λe=>?_⟩ (λk hk=>.inl (by rw[<- hlen];exact hk)) ((Vt.refl w _).setCell _ _ (λ_=>.inr hgO)) ?_ (λo _=>Z9 (a:=(VJ K.b o)) (B_ _ hb)) ((Z9 (a:=(VJ K.b 1)) (B_ _ hb)).trans h.hd.c1)
 . rw[hlen,hv,iE K.cb K.ob m.obs 0 i x {x with cls:=c} hx rfl];exact hst.1
 . have hne:K.ob j≠g':=λe=>by
    have hj:j<m.obs.length:=by rw[<- hlen];exact(Z7.1 ho).1
    have:=h.obs.at_ j _ (Z8 hj);rw[e,vj]at this;injection this with this;injection this with _ this _;revert this;decide
   refine(B_ _ hne).trans ?_;by_cases e:i=j
   . subst e;rw[List.getElem?_set_self hi]at ho;injection ho with ho;subst ho;exact h.obs.at_ i x hx
   . rw[List.getElem?_set_ne e]at ho;exact h.obs.at_ j o ho
 . have:(m.obs.set i {x with cls:=c}).length=0:=by rw[e];rfl
   omega
 . obtain⟨cur,V_⟩:=h.Uc.img;exact⟨cur,(B_ _ hb).trans V_⟩
theorem acP (h:Ud w m K)(o:Int)(cn:ByteArray):
 Calls prog 33 #[VG K.b,VI o,.string cn] w λe w'=>e=.returned (VI (m.be o cn).1)/\∃K',Step w w' m K (m.be o cn).2 K':=by
 refine aji ?_;intro p cap hv hf c1 hn hcall;have O_:=Dp h cn;have hok:=(adH h.ok o cn).1;obtain⟨r,hr⟩:∃r,m.be o cn=r:=Vx;rw[hr]at hok ⊢;unfold Im.be at hr
 cases ht:m.there o with
 | false=>
  rw[ht,ZU rfl]at hr;subst hr;rw[ht]at hcall;have HS:=UQ (Step.refl h);clear h O_ hf hv hok ht;go_enter func33,ntmps33;go_wp2_with fail;refine hcall.mono ?_;rintro e w' ⟨rfl,rfl⟩;go_wp2
  go_ret
  exact Ou
 | true=>
  rw[ht,ZX Vy]at hr;obtain⟨i,x,rfl,hx,hi,hil⟩:=Rj ht;obtain⟨g,hg,hF⟩:=hf i x hx;rw[ht]at hcall
  cases Wm:m.made cn with
  | none=>
   rw[Wm]at hr O_;simp only at hr;subst hr;simp only[Zm,Vq]at O_;have HS:=UQ (Step.refl h);clear h hf hv hok ht hF hx Wm;go_enter func33,ntmps33;go_wp2_with fail;refine hcall.mono ?_;rintro e w' ⟨rfl,rfl⟩;go_wp2_with fail;refine O_.mono ?_;rintro e w' ⟨rfl,rfl⟩;go_wp2
   go_ret
   exact Ou
  | some c=>
   rw[Wm]at hr O_;simp only[hi,hx]at hr;simp only[ZG,Vq]at O_;have hc:=OO (O7 Wm).2;have t3:=h.cls.tot hc;have hxo:=h.ok.obj x (ZK hx);have o1:=hF.c1;have o1:=hF.c0;have ofz:=hF.fz;obtain⟨rfl⟩:=hF.p;refine Jz ?_;intro R6
   have HH:Hid (Ud w m K/\m.obs[i]?=some x/\K.ov.ownBlock=some g):=⟨h,hx,hg⟩
   by_cases hne:m.tot c≠x.slots.length
   . rw[ZU hne]at hr;subst hr;have hnb:((m.tot c:Int) != (x.slots.length:Int))=true:=Vo;clear h hf hv hok ht hF hx Wm hg hxo;go_enter func33,ntmps33;go_wp2_with fail;refine hcall.mono ?_;rintro e w' ⟨rfl,rfl⟩;go_wp2_with fail;refine O_.mono ?_;rintro e w' ⟨rfl,rfl⟩;go_wp2_with fail
     go_region
     go_wp2
     go_ret
     exact⟨rfl,K,O9 HH.o.1⟩
   . rw[ZX hne]at hr;subst hr;have heq:m.tot c=x.slots.length:=VH;rw[heq]at t3;have HO:Hid _:=hok;clear h hf hv hok ht hF hx Wm hg hxo;go_enter func33,ntmps33;go_wp2_with fail;refine hcall.mono ?_;rintro e w' ⟨rfl,rfl⟩;go_wp2_with fail;refine O_.mono ?_;rintro e w' ⟨rfl,rfl⟩;go_wp2_with fail
     go_region
     go_wp2
     go_ret
     obtain⟨h,hx,hg⟩:=HH.o;exact⟨rfl,K,(O9 h).trans (h.drew.apL hx hg HO.o)⟩
theorem JF {b o:Nat}{cs:Array Value}{t:TypeId}(v:Value)(h:w.heap[b]?=some (.cells cs t)):(w.setCell (VJ b o) v).heap[b]?=some (.cells (cs.setIfInBounds o v) t):=by
 exact uX
theorem Ud.restore (h:Ud w m K){i j:Nat}{x:Ob}{v:Vl}(hx:m.obs[i]?=some x)(hj:j<x.slots.length)(hm':U3 {m with obs:=m.obs.modify i (λo=>{o with slots:=o.slots.set j v})}):
 Step w ((w.setCell (VJ (K.ob i) (j*2)) (.bool v.obj)).setCell (VJ (K.ob i) (j*2+1)) (VI v.n)) m K {m with obs:=m.obs.modify i (λo=>{o with slots:=o.slots.set j v})} K:=by
 have hi:=(Z7.1 hx).1;have hb0:=h.obs.at_ i x hx;have B_:∀k,k≠K.ob i->((w.setCell (VJ (K.ob i) (j*2)) (.bool v.obj)).setCell (VJ (K.ob i) (j*2+1)) (VI v.n)).heap[k]?=w.heap[k]?:=λk hk=>(ZW _ (VJ (K.ob i) (j*2+1)) _ _ hk).trans (ZW _ (VJ (K.ob i) (j*2)) _ _ hk)
 have hb:K.b≠K.ob i:=λe=>by
  obtain⟨cur,V_⟩:=h.Uc.img;rw[e,hb0]at V_;injection V_ with V_;injection V_ with _ V_ _;revert V_;decide
 have hlen:(m.obs.modify i (λo=>{o with slots:=o.slots.set j v})).length=m.obs.length:=Vy
 have hget:∀k o,(m.obs.modify i (λo=>{o with slots:=o.slots.set j v}))[k]?=some o->(k=i/\o={x with slots:=x.slots.set j v})\/(k≠i/\m.obs[k]?=some o):=λk o ho=>by
  rw[Y4]at ho;by_cases e:i=k
  . subst e;rw[hx]at ho;simp at ho;exact .inl ⟨rfl,ho.symm⟩
  . simp only[e,Zg]at ho;refine .inr ⟨λe'=>e e'.symm,?_⟩;simpa using ho
 refine Ud.aa3 (ov:=K.ov) (ob:=K.ob) h hm' ⟨?_,λk o ho=>?_,λa b ha hb=>h.obs.inj a b (by rw[<- hlen];exact ha) (by rw[<- hlen];exact hb),λe=>?_⟩ (λk hk=>.inl (by rw[<- hlen];exact hk)) (((Vt.refl w _).setCell _ _ (λ_=>.inr (.inr ⟨i,hi,rfl⟩))).setCell _ _ (λ_=>.inr (.inr ⟨i,hi,rfl⟩))) ?_ (λo _=>Z9 (a:=(VJ K.b o)) (B_ _ hb)) ((Z9 (a:=(VJ K.b 1)) (B_ _ hb)).trans h.hd.c1)
 . have e1:ER K.cb K.ob 0 (m.obs.modify i (λo=>{o with slots:=o.slots.set j v}))=ER K.cb K.ob 0 m.obs:=Kv _ _ 0 hlen (λk o o' ho ho'=>by
    rcases hget k o' ho' with⟨rfl,rfl⟩|⟨_,ho2⟩
    . rw[hx]at ho;injection ho with ho;subst ho;exact⟨rfl,rfl,Vy⟩
    . rw[ho]at ho2;injection ho2 with ho2;subst ho2
      exact vg)
   rw[hlen,e1];refine⟨h.obs.own.1,?_⟩;rcases h.obs.own.2 with e|⟨g,cap,cur,e,h1,h2,h3⟩
   . exact .inl e
   . refine .inr ⟨g,cap,cur,e,h1,(B_ g (λe'=>?_)).trans h2,h3⟩;rw[e',hb0]at h2;injection h2 with h2;injection h2 with _ h2 _;revert h2;decide
 . rcases hget k o ho with⟨rfl,rfl⟩|⟨hne,ho2⟩
   . have h1:=JF (w:=w) (b:=K.ob k) (o:=j*2) (.bool v.obj) hb0;have h2:=JF (w:=w.setCell (VJ (K.ob k) (j*2)) (.bool v.obj)) (b:=K.ob k) (o:=j*2+1) (VI v.n) h1;rw[h2,Ej x.slots j v hj];simp
   . exact(B_ _ (λe=>hne (h.obs.inj k i (by have:=(Z7.1 ho2).1;exact this) hi e))).trans (h.obs.at_ k o ho2)
 . have:(m.obs.modify i (λo=>{o with slots:=o.slots.set j v})).length=0:=by rw[e];rfl
   omega
 . obtain⟨cur,V_⟩:=h.Uc.img;exact⟨cur,(B_ _ hb).trans V_⟩
theorem Ho:(prog.info? 33).map (λi=>(i.zero,i.size,i.bytes))=some (some (.agg #[.bool false,VI 0]),2,16):=VE
theorem adM:(prog.info? 105).map (λi=>(i.zero,i.size,i.bytes))=some (some (.agg #[.pointer none,.slice none 0 0]),2,32):=VE
theorem ah:∀n,n<=10->madeCells #[.bool false,VI 0] (n*2)=(vcs (List.replicate n Vl.zero)).toArray
 | 0,_=>VE
 | 1,_=>VE
 | 2,_=>VE
 | 3,_=>VE
 | 4,_=>VE
 | 5,_=>VE
 | 6,_=>VE
 | 7,_=>VE
 | 8,_=>VE
 | 9,_=>VE
 | 10,_=>VE
 | n+11,h=>VH
theorem agn (n:Nat)(hn:n<=10)(w:World):(Instr.makeSlice 34 (VI (n:Int)) (VI (n:Int))).run prog w=.ok (.slice (some (VJ w.heap.size 0)) n n) (w.alloc (.cells (vcs (List.replicate n Vl.zero)).toArray 33)):=by
 obtain⟨i0,hi,h0,h1,h2⟩:=YQ Ho;have h:=VN (P:=prog) w 34 33 i0 _ underlying34 hi h0 .i64 .i64 (n:Int) (n:Int) VH VH (by rw[h2];omega) VH;refine ajb ?_;rw[ah n hn]
theorem Jg {fn:Func}{p:Tmp}(h:fn.results=#[.cell p 33]){tmps:Array Value}{z:Nat}(v0 v1:Value)(hp:tmps.getD p undef=(VG z))(z0:w.cell? (VJ z 0)=some v0)(z1:w.cell? (VJ z 1)=some v1):
 (results fn tmps).run prog w=.ok (.agg #[v0,v1]) w:=by
 exact aa8
structure Un (w:World)(fb:Nat)(mp kp:Option Addr)(sf:Vl)(args:List Vl)(pc:Nat)(st:List Vl)(snd:Option Nat):Prop where
 blk:∃cs:Array Value,w.heap[fb]?=some (.cells cs 212)/\cs.size=45
 c0:w.cell? (VJ fb 0)=some (.pointer mp)
 c1:w.cell? (VJ fb 1)=some (.pointer kp)
 c2:w.cell? (VJ fb 2)=some (.bool sf.obj)
 c3:w.cell? (VJ fb 3)=some (VI sf.n)
 ca:∀i v,args[i]?=some v->w.cell? (VJ fb (4+i*2))=some (.bool v.obj)/\w.cell? (VJ fb (4+i*2+1))=some (VI v.n)
 a3:args.length<=3
 cp:w.cell? (VJ fb 10)=some (VI (pc:Nat))
 cs:∀i v,st.reverse[i]?=some v->w.cell? (VJ fb (11+i*2))=some (.bool v.obj)/\w.cell? (VJ fb (11+i*2+1))=some (VI v.n)
 s16:st.length<=16
 ch:w.cell? (VJ fb 43)=some (VI (st.length:Nat))
 cn:w.cell? (VJ fb 44)=some (.pointer (Vq snd))
theorem Un.Vb {fb:Nat}{mp kp:Option Addr}{sf:Vl}{args:List Vl}{pc:Nat}{st:List Vl}{snd:Option Nat}(h:Un w fb mp kp sf args pc st snd):UL w fb:=by
 obtain⟨cs,e,_⟩:=h.blk;exact⟨_,_,e⟩
theorem Un.some {fb:Nat}{mp kp:Option Addr}{sf:Vl}{args:List Vl}{pc:Nat}{st:List Vl}{snd:Option Nat}(h:Un w fb mp kp sf args pc st snd){o:Nat}(ho:o<45):∃v,w.cell? (VJ fb o)=some v:=by
 exact amg
theorem Un.same {fb:Nat}{mp kp:Option Addr}{sf:Vl}{args:List Vl}{pc:Nat}{st:List Vl}{snd:Option Nat}(h:Un w fb mp kp sf args pc st snd)(e:w'.heap[fb]?=w.heap[fb]?):Un w' fb mp kp sf args pc st snd:=by
 have hc:∀o,w'.cell? (VJ fb o)=w.cell? (VJ fb o):=λo=>Z9 e;obtain⟨cs,e1,hz⟩:=h.blk;exact⟨⟨cs,e.trans e1,hz⟩,(hc _).trans h.c0,(hc _).trans h.c1,(hc _).trans h.c2,(hc _).trans h.c3,λi v hv=>⟨(hc _).trans (h.ca i v hv).1,(hc _).trans (h.ca i v hv).2⟩,h.a3,(hc _).trans h.cp,λi v hv=>⟨(hc _).trans (h.cs i v hv).1,(hc _).trans (h.cs i v hv).2⟩,h.s16,(hc _).trans h.ch,(hc _).trans h.cn⟩
theorem I4 {fb:Nat}(h:∃cs:Array Value,w.heap[fb]?=some (.cells cs 212)/\cs.size=45)(o:Nat)(v:Value):∃cs:Array Value,(w.setCell (VJ fb o) v).heap[fb]?=some (.cells cs 212)/\cs.size=45:=by
 exact al3
theorem fo {fb:Nat}(W:World)(v:Value)(o p:Nat)(hne:o≠p):(W.setCell (VJ fb p) v).cell? (VJ fb o)=W.cell? (VJ fb o):=VD PO
theorem Un.goto {fb:Nat}{mp kp:Option Addr}{sf:Vl}{args:List Vl}{pc:Nat}{st:List Vl}{snd:Option Nat}(h:Un w fb mp kp sf args pc st snd)(eQ:Nat):Un (w.setCell (VJ fb 10) (VI (eQ:Nat))) fb mp kp sf args eQ st snd:=by
 have h3:=h.a3;refine⟨I4 h.blk _ _,(fo _ _ _ _ VH).trans h.c0,(fo _ _ _ _ VH).trans h.c1,(fo _ _ _ _ VH).trans h.c2,(fo _ _ _ _ VH).trans h.c3,λi v hv=>?_,h.a3,Vr h.cp,λi v hv=>⟨(fo _ _ _ _ VH).trans (h.cs i v hv).1,(fo _ _ _ _ VH).trans (h.cs i v hv).2⟩,h.s16,(fo _ _ _ _ VH).trans h.ch,(fo _ _ _ _ VH).trans h.cn⟩;exact anu
theorem Un.lay {fb:Nat}{mp kp:Option Addr}{sf:Vl}{args:List Vl}{pc:Nat}{st:List Vl}{snd:Option Nat}(h:Un w fb mp kp sf args pc st snd)(hs:st.length<16)(v:Vl):
 Un (((w.setCell (VJ fb (11+st.length*2)) (.bool v.obj)).setCell (VJ fb (11+st.length*2+1)) (VI v.n)).setCell (VJ fb 43) (VI ((st.length+1:Nat):Int))) fb mp kp sf args pc (v::st) snd:=by
 have h3:=h.a3;obtain⟨o0,h3⟩:=h.some (o:=11+st.length*2) VH;obtain⟨o0,h1⟩:=h.some (o:=11+st.length*2+1) VH
 have key:∀o,(o<11\/44<=o\/(11<=o/\o<11+st.length*2))->(((w.setCell (VJ fb (11+st.length*2)) (.bool v.obj)).setCell (VJ fb (11+st.length*2+1)) (VI v.n)).setCell (VJ fb 43) (VI ((st.length+1:Nat):Int))).cell? (VJ fb o)=w.cell? (VJ fb o):=λo ho=>by
  rw[fo _ _ _ _ VH,fo _ _ _ _ VH,fo _ _ _ _ VH]
 refine⟨I4 (I4 (I4 h.blk _ _) _ _) _ _,(key _ VH).trans h.c0,(key _ VH).trans h.c1,(key _ VH).trans h.c2,(key _ VH).trans h.c3,λi x hx=>?_,h.a3,(key _ VH).trans h.cp,λi x hx=>?_,Vo,?_,(key _ VH).trans h.cn⟩
 . have:=(Z7.1 hx).1;exact⟨(key _ VH).trans (h.ca i x hx).1,(key _ VH).trans (h.ca i x hx).2⟩
 . rw[Xf]at hx;by_cases e:i<st.length
   . rw[ZH (by simpa using e)]at hx;exact⟨(key _ VH).trans (h.cs i x hx).1,(key _ VH).trans (h.cs i x hx).2⟩
   . have hi:i=st.length:=by have:=(Z7.1 hx).1;simp at this;omega
     subst hi;rw[ZP Vy]at hx;simp at hx;subst hx;constructor
     . rw[fo _ _ _ _ VH,fo _ _ _ _ VH];exact Vr h3
     . rw[fo _ _ _ _ VH];exact Vr ((fo _ _ _ _ VH).trans h1)
 . exact Vr (((fo _ _ _ _ VH).trans agc).trans h.ch)
theorem Un.take {fb:Nat}{mp kp:Option Addr}{sf:Vl}{args:List Vl}{pc:Nat}{st:List Vl}{snd:Option Nat}(h:Un w fb mp kp sf args pc st snd){k:Nat}(hk:k<=st.length):
 Un (w.setCell (VJ fb 43) (VI ((st.length-k:Nat):Int))) fb mp kp sf args pc (st.drop k) snd:=by
 have h3:=h.a3;have h3:=h.s16;refine⟨I4 h.blk _ _,(fo _ _ _ _ VH).trans h.c0,(fo _ _ _ _ VH).trans h.c1,(fo _ _ _ _ VH).trans h.c2,(fo _ _ _ _ VH).trans h.c3,λi v hv=>?_,h.a3,(fo _ _ _ _ VH).trans h.cp,λi v hv=>?_,Vo,?_,(fo _ _ _ _ VH).trans h.cn⟩
 . exact anu
 . have hl:=(Z7.1 hv).1;simp at hl
   have hv':st.reverse[i]?=Option.some v:=by
    rw[<- hv,List.reverse_drop,Zl VH]
   exact⟨(fo _ _ _ _ VH).trans (h.cs i v hv').1,(fo _ _ _ _ VH).trans (h.cs i v hv').2⟩
 . rw[Vr h.ch];simp
def Jc (e:Int):List PanicEntry:=[{v:=.iface 167 (VI e),recovered:=false}]
theorem RX {fb:Nat}{mp kp:Option Addr}{sf:Vl}{args:List Vl}{pc:Nat}{st:List Vl}{snd:Option Nat}(h:Un w fb mp kp sf args pc st snd)(hs:st.length<16)(v:Vl):
 Calls prog 143 #[VG fb,v.val] w λe w'=>e=.returned (.tuple #[])/\Un w' fb mp kp sf args pc (v::st) snd/\Vt w w' (λk=>k=fb):=by
 obtain⟨W1,hW1⟩:∃W1,W1=w.alloc (.cells #[.bool v.obj,VI v.n] 33):=Vx;have Hp:Vt w W1 (λk=>k=fb):=by rw[hW1];exact(Vt.refl w _).alloc _
 have v0:W1.cell? (VJ w.heap.size 0)=some (.bool v.obj):=by rw[hW1];exact Ug w _ _ _ 0 rfl
 have v0:W1.cell? (VJ w.heap.size 1)=some (VI v.n):=by rw[hW1];exact Ug w _ _ _ 1 rfl
 have hfl:=h.Vb.lt;have h:Un W1 fb mp kp sf args pc st snd:=h.same (by rw[hW1];exact ZV _ _ _ hfl);have HF:Hid _:=h;obtain⟨o0,h0⟩:=h.some (o:=11+st.length*2) VH;obtain⟨o0,h0⟩:=h.some (o:=11+st.length*2+1) VH;have ch:=h.ch;have ya:¬fb=w.heap.size:=VH;have Z1:¬43=11+st.length*2:=VH;have W7:¬43=11+st.length*2+1:=VH;have hfz:=λo=>h.Vb.free o;have hs':(st.length:Int)<16:=VH;have k43:((W1.setCell (VJ fb (11+st.length*2)) (.bool v.obj)).setCell (VJ fb (11+st.length*2+1)) (VI v.n)).cell? (VJ fb 43)=some (VI (st.length:Nat)):=by rw[fo _ _ _ _ W7,fo _ _ _ _ Z1];exact ch
 clear h;unfold Vl.val;go_enter func143,ntmps143;go_wp2_with fail;rw[<- hW1];clear hW1;refine Uy ?_;refine ZT (S:=(λw'=>w'.cell? (VJ w.heap.size 0)=some (.bool v.obj)/\w'.cell? (VJ w.heap.size 1)=some (VI v.n)/\w'.cell? (VJ fb 43)=some (VI (st.length:Nat)))) VE UG (λhHeld=>?_);refine Il ?_;intro Y_ Z_;refine Vg ?_;intro hHeld;clear Z_ Y_;refine tZ ?_;intro hHeld;go_wp2
 go_end0
 exact⟨rfl,(HF.o.lay hs v).same rfl,(((Hp.setCell _ _ (λ_=>rfl)).setCell _ _ (λ_=>rfl)).setCell _ _ (λ_=>rfl)).drew⟩
theorem qU {fb:Nat}{mp kp:Option Addr}{sf:Vl}{args:List Vl}{pc:Nat}{v:Vl}{st:List Vl}{snd:Option Nat}(h:Un w fb mp kp sf args pc (v::st) snd):
 Calls prog 144 #[VG fb] w λe w'=>e=.returned v.val/\Un w' fb mp kp sf args pc st snd/\Vt w w' (λk=>k=fb)/\∀o,o≠43->w'.cell? (VJ fb o)=w.cell? (VJ fb o):=by
 have hfl:=h.Vb.lt;have h_:=h.s16;simp only[ZI]at h_;obtain⟨x0,x1⟩:=h.cs st.length v (by rw[Xf,ZP Vy];simp);obtain⟨W2,hW2⟩:∃W2,W2=(w.setCell (VJ fb 43) (VI (st.length:Nat))).alloc (.cells #[.bool false,VI 0] 33):=Vx
 have hfr:Un W2 fb mp kp sf args pc st snd:=by
  have:=h.take (k:=1) Vy;simp only[ZI,Nat.add_sub_cancel,X8,X5]at this;rw[hW2];exact this.same (ZV _ _ _ (by simpa[World.setCell]using hfl))
 have HF:Hid _:=hfr;have hC2:Vt w W2 (λk=>k=fb):=by rw[hW2];exact((Vt.refl w (λk=>k=fb)).setCell _ _ (λ_=>rfl)).alloc _
 have hzs:(w.setCell (VJ fb 43) (VI (st.length:Nat))).heap.size=w.heap.size:=zb4
 have hb:W2.heap[w.heap.size]?=some (.cells #[.bool false,VI 0] 33):=by
  rw[hW2];have:=(Z4 (w.setCell (VJ fb 43) (VI (st.length:Nat))) (.cells #[.bool false,VI 0] 33)).1;rw[hzs]at this;exact this
 have ch:=h.ch;simp only[ZI,XK,WS]at ch;have fz:=λo=>h.Vb.free o;have z0:W2.cell? (VJ w.heap.size 0)=some (.bool false):=by simp only[World.cell?,hb];rfl
 have z1:W2.cell? (VJ w.heap.size 1)=some (VI 0):=by simp only[World.cell?,hb];rfl
 have zf:∀o,W2.frozen? (VJ w.heap.size o)=false:=λo=>UL.free ⟨_,_,hb⟩ o;have ch2:=hfr.ch;have hblk:W2.heap[fb]?=(w.setCell (VJ fb 43) (VI (st.length:Nat))).heap[fb]?:=by rw[hW2];exact ZV _ _ _ (by rw[hzs];exact hfl)
 have y0:=(Z9 (a:=(VJ fb (11+st.length*2))) hblk).trans ((fo _ _ _ _ VH).trans x0);have y0:=(Z9 (a:=(VJ fb (11+st.length*2+1))) hblk).trans ((fo _ _ _ _ VH).trans x1);have T':¬w.heap.size=fb:=VH;have T':¬fb=w.heap.size:=VH;have hs':(st.length:Int)<16:=VH;have Ca:Hid _:=hblk;clear h hfr hb hblk x0 x1;unfold Vl.val;go_enter func144,ntmps144;go_wp2_with fail;rw[<- hW2];clear hW2 ch fz;refine Uy ?_;refine ZT (S:=(λw'=>w'.cell? (VJ fb (11+st.length*2))=some (.bool v.obj)/\w'.cell? (VJ fb (11+st.length*2+1))=some (VI v.n)/\w'.cell? (VJ fb 43)=some (VI (st.length:Nat)))) VE UG (λhHeld=>?_);refine zr3 ?_;refine Ur 6 ?_;refine Ul 7 λY_ Z_=>?_;refine Vg ?_;intro hHeld;clear Z_ Y_
 try refine UE ?_
 refine Ur 8 ?_;refine Ul 9 λY_ Z_=>?_;refine Vg ?_;intro hHeld;clear Z_ Y_;refine Um ?_;go_wp2;have hfb:((W2.setCell (VJ w.heap.size 0) (.bool v.obj)).setCell (VJ w.heap.size 1) (VI v.n)).heap[fb]?=W2.heap[fb]?:=(ZW _ _ _ _ T').trans (ZW _ _ _ _ T');refine ZQ (Jg (z:=w.heap.size) results144 (.bool v.obj) (VI v.n) rfl ?_ ?_) rfl ⟨rfl,HF.o.same hfb,(hC2.then ((((Vt.refl W2 (λk=>k=w.heap.size)).setCell _ _ (λ_=>rfl)).setCell _ _ (λ_=>rfl))) aK).drew,λo ho=>(Z9 (a:=(VJ fb o)) hfb).trans ((Z9 (a:=(VJ fb o)) Ca.o).trans (fo _ _ _ _ ho))⟩
 . show ((W2.setCell (VJ w.heap.size 0) (.bool v.obj)).setCell (VJ w.heap.size 1) (VI v.n)).cell? (VJ w.heap.size 0)=_;rw[fo _ _ _ _ VH];exact Vr z0
 . exact Vr ((fo _ _ _ _ VH).trans z1)
theorem take_any {fb:Nat}{mp kp:Option Addr}{sf:Vl}{args:List Vl}{pc:Nat}{v:Vl}{st:List Vl}{snd:Option Nat}(h:Un w fb mp kp sf args pc (v::st) snd):
 Calls prog 144 #[VG fb] w λe w'=>e=.returned v.val/\Un w' fb mp kp sf args pc st snd/\Vt w w' (λk=>k=fb):=
 (qU h).mono (λe w' ⟨h1,h2,h3,_⟩=>⟨h1,h2,h3⟩)
theorem Lu {fb:Nat}{mp kp:Option Addr}{sf:Vl}{args:List Vl}{pc:Nat}{n:Int}{st:List Vl}{snd:Option Nat}(h:Un w fb mp kp sf args pc (⟨false,n⟩::st) snd):
 Calls prog 147 #[VG fb] w λe w'=>e=.returned (VI n)/\Un w' fb mp kp sf args pc st snd/\Vt w w' (λk=>k=fb):=by
 have hcall:=take_any h;unfold Vl.val at hcall;clear h;go_enter func147,ntmps147;go_wp2_with fail;refine hcall.mono ?_;rintro e w' ⟨rfl,hf,hc⟩
 have HF:Hid (Un (w'.alloc (.cells #[.bool false,VI n] 33)) fb mp kp sf args pc st snd/\Vt w (w'.alloc (.cells #[.bool false,VI n] 33)) (λk=>k=fb)):=⟨hf.same (ZV _ _ _ hf.Vb.lt),hc.alloc _⟩
 clear hf hc hcall;go_wp2
 go_ret
 exact⟨rfl,HF.o⟩
theorem BL {fb:Nat}{mp kp:Option Addr}{sf:Vl}{args:List Vl}{pc:Nat}{n:Int}{st:List Vl}{snd:Option Nat}(h:Un w fb mp kp sf args pc (⟨true,n⟩::st) snd):
 Calls prog 147 #[VG fb] w λe w'=>e=.panicked (Jc 3)/\Vt w w' (λk=>k=fb):=by
 have hcall:=take_any h;unfold Vl.val at hcall;clear h;go_enter func147,ntmps147;go_wp2_with fail;refine hcall.mono ?_;rintro e w' ⟨rfl,hf,hc⟩;have HF:Hid (Vt w (w'.alloc (.cells #[.bool true,VI n] 33)) (λk=>k=fb)):=hc.alloc _;clear hf hc hcall;go_wp2;exact⟨rfl,rfl,HF.o⟩
theorem dB {fb:Nat}{mp kp:Option Addr}{sf:Vl}{args:List Vl}{pc:Nat}{a b:Int}{st:List Vl}{snd:Option Nat}(h:Un w fb mp kp sf args pc (⟨false,b⟩::⟨false,a⟩::st) snd):
 Calls prog 145 #[VG fb] w λe w'=>e=.returned (.tuple #[VI a,VI b])/\Un w' fb mp kp sf args pc st snd/\Vt w w' (λk=>k=fb):=by
 have hcall:=Lu h;clear h;go_enter func145,ntmps145;go_wp2_with fail;refine hcall.mono ?_;rintro e w' ⟨rfl,hf,hc⟩;have O_:=Lu hf;clear hf hcall;go_wp2_with fail;refine O_.mono ?_;rintro e w2 ⟨rfl,hf,hc2⟩
 have HF:Hid (Un w2 fb mp kp sf args pc st snd/\Vt w w2 (λk=>k=fb)):=⟨hf,hc.then hc2 Qi⟩
 clear hf hc O_ hc2;go_wp2
 go_ret2
 exact⟨rfl,HF.o⟩
theorem bP {fb:Nat}{mp kp:Option Addr}{sf:Vl}{args:List Vl}{pc:Nat}{a b:Vl}{st:List Vl}{snd:Option Nat}(h:Un w fb mp kp sf args pc (b::a::st) snd)(ho:(a.obj||b.obj)=true):
 Calls prog 145 #[VG fb] w λe w'=>e=.panicked (Jc 3)/\Vt w w' (λk=>k=fb):=by
 obtain⟨bo,bn⟩:=b;obtain⟨ao,an⟩:=a
 cases bo with
 | true=>
  have hcall:=BL h;clear h;go_enter func145,ntmps145;go_wp2_with fail;refine hcall.mono ?_;rintro e w' ⟨rfl,hc⟩;have HF:Hid _:=hc;clear hc hcall;go_wp2;exact⟨rfl,rfl,HF.o⟩
 | false=>
  simp at ho;subst ho;have hcall:=Lu h;clear h;go_enter func145,ntmps145;go_wp2_with fail;refine hcall.mono ?_;rintro e w' ⟨rfl,hf,hc⟩;have O_:=BL hf;clear hf hcall;go_wp2_with fail;refine O_.mono ?_;rintro e w2 ⟨rfl,hc2⟩;have HF:=UQ (hc.then hc2 Qi);clear hc O_ hc2;go_wp2;exact⟨rfl,rfl,HF.o⟩
variable {w1 w2 : World}
theorem _root_.Go.RowKit.Below.then (h:Below w.heap.size w w1)(h':Below w1.heap.size w1 w2):Below w.heap.size w w2:=h.trans (h'.mono h.size)
theorem RD {fn:Func}{p:Tmp}(h:fn.results=#[.cell p 62]){tmps:Array Value}{z:Nat}(v0 v1:Value)(hp:tmps.getD p undef=(VG z))(z0:w.cell? (VJ z 0)=some v0)(z1:w.cell? (VJ z 1)=some v1):
 (results fn tmps).run prog w=.ok (.agg #[v0,v1]) w:=by
 exact aa8
theorem rH {fn:Func}{p:Tmp}(h:fn.results=#[.cell p 64]){tmps:Array Value}{z:Nat}(v0 v1 v2 v3:Value)(hp:tmps.getD p undef=(VG z))(z0:w.cell? (VJ z 0)=some v0)(z1:w.cell? (VJ z 1)=some v1)(z2:w.cell? (VJ z 2)=some v2)(z3:w.cell? (VJ z 3)=some v3):
 (results fn tmps).run prog w=.ok (.agg #[v0,v1,v2,v3]) w:=by
 have hp2:tmps[p]?.getD undef=(VG z):=adi;simp[results,h,hp2,go_sem,z0,z1,z2,z3]
theorem jQ {α:Type}(ab:Nat->Option Nat)(ow:Nat->Option α)(f c:Nat):UJ ab ow (f+1) (some c)=match ow c with
 | some x=>some (c,x)
 | none=>UJ ab ow f (ab c):=rfl
def Kd.says (K:Kd)(m:Im)(s:ByteArray)(c:Option Nat):Option (Nat×Nat):=UJ m.ab (λc=>K.mid c s) (m.kl.length+1) c
def EX (K:Kd)(r:Option (Nat×Nat)):Value:=.agg #[.pointer (Vq (r.map (λx=>K.cb x.1))),.pointer (Vq (r.map (·.2)))]
theorem aP (h:Ud w m K)(c:Option Nat)(hc:∀x,c=some x->x<m.kl.length)(s:ByteArray):
 Calls prog 163 #[.pointer (Vq (c.map K.cb)),.string s] w λe w'=>e=.returned (EX K (K.says m s c))/\Below w.heap.size w w':=by
 obtain⟨r,hr1,hr2⟩:=Io h.ok;unfold Kd.says;obtain⟨b,hb⟩:∃b,UJ m.ab (λc=>K.mid c s) (m.kl.length+1) c=b:=Vx;rw[hb];have HB:Hid _:=hb;have HA:Hid (Below w.heap.size w (w.alloc (.cells #[.pointer none,.pointer none] 62))):=(ZR _ w).alloc UM _;have HK:=UQ (h.below HA.o);have HN:∀(v0 v1:Value) (k:Nat),(w.alloc (.cells #[v0,v1] 62)).cell? (VJ w.heap.size k)=#[v0,v1][k]?:=λv0 v1 k=>Ug w _ _ _ k rfl;clear hb h;go_enter func163,ntmps163;go_wp2
 go_loopg [0] (m.kl.length+1) (λgk v wr=>∃e:Option Nat,v=.pointer (Vq (e.map K.cb))/\(∀x,e=some x->x<m.kl.length/\r x<gk)/\UJ m.ab (λc=>K.mid c s) gk e=b/\wr=w.alloc (.cells #[.pointer none,.pointer none] 62))
 case atStart=>exact⟨c,rfl,λx hx=>⟨hc x hx,agw⟩,HB.o,rfl⟩
 case round=>
  obtain⟨e,rfl,he,hu,rfl⟩:=hrel
  cases e with
  | none=>
   have pB:b=none:=by rw[<- hu];exact Ja _ _ _
   subst pB;simp only[Zm,Vq];clear hu he;go_wp2;refine ZQ (RD (z:=w.heap.size) results163 (.pointer none) (.pointer none) rfl (HN _ _ 0) (HN _ _ 1)) rfl ⟨rfl,HA.o⟩
  | some x=>
   obtain⟨hx,hrx⟩:=he x rfl
   obtain⟨g,rfl⟩:∃g,gk=g+1:=⟨gk-1,VH⟩
   have hab:=HK.o.cls.above hx;have hcm:=HK.o.cls.meth hx;have lk:=HK.o.iK hx s;rw[jQ]at hu;simp only[ZG,Vq]at hab lk ⊢
   cases Wm:K.mid x s with
   | some k=>
    rw[Wm]at lk;simp only[Wm,ZG]at lk hu;subst hu;clear he;go_wp2;refine ZQ (RD (z:=w.heap.size) results163 ((VG (K.cb x))) (VG k) rfl (HN _ _ 0) (HN _ _ 1)) rfl alR
   | none=>
    rw[Wm]at lk;simp only[Wm,Zm]at lk hu;have HU:Hid _:=hu;clear hu he;go_wp2
    go_roundg g
    case measure=>omega
    case rel=>
     exact⟨m.ab x,by simp[Vq],λy hy=>⟨CS HK.o.ok hy,by have:=hr2 x y hy;omega⟩,HU.o,rfl⟩
theorem TabAt.put {b n:Nat}{R:Nat->U1}(h:TabAt w b n R){i:Nat}(hi:i<64)(r:U1):
 TabAt ((((w.setCell (VJ b (6+i*4)) (.pointer r.fr)).setCell (VJ b (6+i*4+1)) (.string r.sel)).setCell (VJ b (6+i*4+2)) (.pointer r.hm)).setCell (VJ b (6+i*4+3)) (.pointer r.mt)) b n (λj=>if j=i then r else R j):=by
 refine aiX ?_;intro ho;refine⟨(((h.Vb.setCell _ _).setCell _ _).setCell _ _).setCell _ _,h.n1,h.n64,?_,λj hj=>?_,λj hj=>?_,λj hj=>?_,λj hj=>?_⟩
 . rw[ho _ _ _ _ VH,ho _ _ _ _ VH,ho _ _ _ _ VH,ho _ _ _ _ VH];exact h.sz
 . exact anm
 . exact am4
 . exact aoi
 . exact aom
theorem Ae (s:ByteArray)(cap k:Nat)(hk:k<s.size):∃n:Nat,n<256/\(bytesRow s cap)[k]?=some (.int .u8 n):=by
 refine⟨(s.data[k]'hk).toNat,(s.data[k]'hk).toNat_lt,?_⟩;unfold bytesRow;rw[Yh (by simpa using hk)];rw[Array.getElem?_map,Xx hk];rfl
theorem acD (h:Ud w m K){c:Nat}(hc:c<m.kl.length)(s:ByteArray)(hs:s.size<=1000):
 Calls prog 166 #[.agg #[VG (K.cb c),.string s]] w λe w'=>(∃n:Nat,e=.returned (.int .u32 n))/\Below w.heap.size w w':=by
 have hcv:=λW=>run_bytes_of_string (P:=prog) W 9 200 5 s underlying9 underlying200 underlying5
 have cn:w.cell? (VJ (K.cb c) 1)=some (VI (c:Nat)):=by
  have:=h.cls.at_ c _ (Z8 hc);refine FK ?_;rfl
 have hcl:=(h.cls.Vb hc).lt;have Lw:=h.ok.few;clear h;go_enter func166,ntmps166;go_wp2;obtain⟨W1,hW1⟩:∃W1,W1=((w.alloc (.cells #[VG (K.cb c),.string s] 59)).drew.alloc (.cells (bytesRow s (grownCap (w.alloc (.cells #[VG (K.cb c),.string s] 59)) s.size 0 5)) 5 ((bytesRow s (grownCap (w.alloc (.cells #[VG (K.cb c),.string s] 59)) s.size 0 5)).size,(bytesRow s (grownCap (w.alloc (.cells #[VG (K.cb c),.string s] 59)) s.size 0 5)).size+1))):=Vx;have hB1:Below w.heap.size w W1:=by rw[hW1];exact((ZR _ w).alloc UM _).drew.alloc Vy _
 have q0:W1.cell? (VJ w.heap.size 0)=some ((VG (K.cb c))):=by
  rw[hW1];refine(Z9 (a:=(VJ w.heap.size 0)) aj8).trans ?_;exact Ug w _ _ _ 0 rfl
 have hby:∀k,k<s.size->∃n:Nat,n<256/\W1.cell? (VJ (w.heap.size+1) k)=some (.int .u8 n):=λk hk=>by
  obtain⟨n,h1,h2⟩:=Ae s (grownCap (w.alloc (.cells #[VG (K.cb c),.string s] 59)) s.size 0 5) k hk;refine⟨n,h1,?_⟩;rw[hW1];have:=(Z4 (w.alloc (.cells #[VG (K.cb c),.string s] 59)).drew (.cells (bytesRow s (grownCap (w.alloc (.cells #[VG (K.cb c),.string s] 59)) s.size 0 5)) 5 ((bytesRow s (grownCap (w.alloc (.cells #[VG (K.cb c),.string s] 59)) s.size 0 5)).size,(bytesRow s (grownCap (w.alloc (.cells #[VG (K.cb c),.string s] 59)) s.size 0 5)).size+1))).1;simp only[World.size_drew,ZJ]at this;refine FK ?_;exact h2
 have cn1:=(hB1.cell (p:=(VJ (K.cb c) 1)) hcl).trans cn;have Rv:=ZY hcl hB1.size;have SM:Hid _:=hB1
 go_loopw [3,10] (λx i wr=>∃(k:Nat) (n:Int),i=VI k/\k<=s.size/\x=.int .u32 n/\wr=W1) (λ_ i _=>s.size-(intOf i).toNat)
 case atStart=>exact⟨0,_,rfl,Yy _,rfl,hW1.symm⟩
 case round=>
  obtain⟨k,n,rfl,hk,rfl,rfl⟩:=hrel;clear hW1 cn hcl hB1;by_cases hlt:k<s.size
  . obtain⟨x,hx,fN⟩:=hby k hlt;clear hby;go_wp2
    go_roundw
    case measure=>simp[intOf]<;>omega
    case rel=>exact⟨k+1,_,Uu,VH,rfl,trivial⟩
  . have Id:k=s.size:=by omega
    subst Id;clear hby;go_wp2
    go_ret
    exact⟨⟨((n+(c:Int)) % 4294967296).toNat,YV (λx=>Ending.returned (Value.int IntKind.u32 x)) (by show (n+(c:Int)) % 4294967296=_;omega)⟩,SM.o⟩
theorem xO (h:Ud w m K){c:Nat}(hc:c<m.kl.length)(s:ByteArray)(hs:s.size<=1000):
 Calls prog 161 #[.pointer (some (VJ K.b 6)),.agg #[VG (K.cb c),.string s]] w λe w'=>(∃i,i<K.k.n/\e=.returned (.pointer (some (VJ K.b (6+i*4)))))/\Below w.heap.size w w':=by
 have hB0:Below w.heap.size w (w.alloc (.cells #[VG (K.cb c),.string s] 59)):=(ZR _ w).alloc UM _;have h0:=h.below hB0;have h1:=h0.drew;have hen:=LK K.b K.k.n K.k.R _ h0.Uc.tab;have eJ:=acD h1 hc s hs;have n1:=h.Uc.tab.n1;have n1:=h.Uc.tab.n64;have B5:Hid _:=hB0;clear h h0 h1 hB0;go_enter func161,ntmps161;go_wp2_with fail;refine hen.mono ?_;rintro e w' ⟨rfl,rfl⟩;go_wp2_with fail;refine eJ.mono ?_;rintro e w2 ⟨⟨x,rfl⟩,hb2⟩;have Uv:Hid _:=hb2;clear hb2 eJ hen;have hn0:¬((K.k.n:Int)=0):=VH;have hi1:0<=(x:Int) % (K.k.n:Int):=Int.emod_nonneg _ hn0;have hi1:(x:Int) % (K.k.n:Int)<(K.k.n:Int):=Int.emod_lt_of_pos _ VH;go_wp2
 go_ret
 exact⟨⟨x % K.k.n,Nat.mod_lt _ VH,rfl⟩,B5.o.then (RH Uv.o)⟩
theorem adC (fr hm mt:Option Addr)(s:ByteArray)(hs:s.size<=1000)(w:World):
 Calls prog 162 #[.agg #[.pointer fr,.string s],.agg #[.pointer hm,.pointer mt]] w λe w'=>e=.returned (U1.val ⟨fr,s,hm,mt⟩)/\Below w.heap.size w w':=by
 obtain⟨W1,hW1⟩:∃W1,W1=((w.alloc (.cells #[.pointer fr,.string s] 59)).alloc (.cells #[.pointer hm,.pointer mt] 62)).alloc (.cells #[.pointer none,.string ⟨#[]⟩,.pointer none,.pointer none] 64):=Vx;have hB1:Below w.heap.size w W1:=by rw[hW1];exact below3 _ _ _ _
 have hcl:=clone_any s W1 VH;unfold U1.val;go_enter func162,ntmps162;go_wp2_with fail;rw[<- hW1];refine hcl.mono ?_;rintro e w2 ⟨rfl,hb2⟩
 have b0:w2.heap[w.heap.size]?=some (.cells #[.pointer fr,.string s] 59):=by
  rw[hb2.block _ (by rw[hW1];simp;omega),hW1,ZV _ _ _ Vo,ZV _ _ _ Vy];exact(Z4 w _).1
 have b1:w2.heap[w.heap.size+1]?=some (.cells #[.pointer hm,.pointer mt] 62):=by
  rw[hb2.block _ acn,hW1,ZV _ _ _ Vy];have:=(Z4 (w.alloc (.cells #[.pointer fr,.string s] 59)) (.cells #[.pointer hm,.pointer mt] 62)).1;rw[ZJ]at this;exact this
 have b2:w2.heap[w.heap.size+1+1]?=some (.cells #[.pointer none,.string ⟨#[]⟩,.pointer none,.pointer none] 64):=by
  rw[hb2.block _ acn,hW1];have:=(Z4 ((w.alloc (.cells #[.pointer fr,.string s] 59)).alloc (.cells #[.pointer hm,.pointer mt] 62)) (.cells #[.pointer none,.string ⟨#[]⟩,.pointer none,.pointer none] 64)).1;exact ady
 have q0:w2.cell? (VJ w.heap.size 0)=some (.pointer fr):=by simp only[World.cell?,b0];rfl
 have q0:w2.cell? (VJ w.heap.size 1)=some (.string s):=by simp only[World.cell?,b0];rfl
 have f0:w2.cell? (VJ (w.heap.size+1) 0)=some (.pointer hm):=by simp only[World.cell?,b1];rfl
 have f0:w2.cell? (VJ (w.heap.size+1) 1)=some (.pointer mt):=by simp only[World.cell?,b1];rfl
 have r0:w2.cell? (VJ (w.heap.size+1+1) 0)=some (.pointer none):=by simp only[World.cell?,b2];rfl
 have r1:w2.cell? (VJ (w.heap.size+1+1) 1)=some (.string ⟨#[]⟩):=by simp only[World.cell?,b2];rfl
 have r2:w2.cell? (VJ (w.heap.size+1+1) 2)=some (.pointer none):=by simp only[World.cell?,b2];rfl
 have r3:w2.cell? (VJ (w.heap.size+1+1) 3)=some (.pointer none):=by simp only[World.cell?,b2];rfl
 have fz0:∀o,w2.frozen? (VJ w.heap.size o)=false:=λo=>(UL.free ⟨_,_,b0⟩ o)
 have fz0:∀o,w2.frozen? (VJ (w.heap.size+1+1) o)=false:=λo=>(UL.free ⟨_,_,b2⟩ o)
 have HB:=UQ (hB1.then hb2);clear hb2 hB1 b0 b1 b2 hW1 hcl;go_wp2;refine ZQ (rH (z:=w.heap.size+1+1) results162 (.pointer fr) (.string s) (.pointer hm) (.pointer mt) rfl ?_ ?_ ?_ ?_) rfl ⟨rfl,?_⟩
 . rw[VD PO,VD PO,VD PO];exact Vr ((VD PO).trans r0)
 . rw[VD PO,VD PO];exact Vr ((VD PO).trans ((VD PO).trans r1))
 . rw[VD PO];exact Vr ((VD PO).trans ((VD PO).trans ((VD PO).trans r2)))
 . exact Vr ((VD PO).trans ((VD PO).trans ((VD PO).trans ((VD PO).trans r3))))
 . exact((((HB.o.setCell UM _).setCell afc _).setCell (by show w.heap.size<=w.heap.size+1+1;omega) _).setCell (by show w.heap.size<=w.heap.size+1+1;omega) _).setCell (by show w.heap.size<=w.heap.size+1+1;omega) _
theorem aaA (v:Value)(w:World):(Instr.typeAssert (.iface 167 v) 20 167 true).run prog w=.ok (.tuple #[v,.bool true]) w:=by
 simp[Instr.typeAssert,Zu underlying167]
theorem caught (p:Addr)(x n:Int)(Cd:List PanicEntry)(w:World)(hc:w.cell? p=some (VI x))(hz:w.frozen? p=false):
 CallsD prog 87 #[.pointer (some p)] (.panicking ({v:=.iface 167 (VI n),recovered:=false}::Cd)) w λe u' w'=>
  e=.returned (.tuple #[])/\u'=.panicking ({v:=.iface 167 (VI n),recovered:=true}::Cd)/\w'=w.setCell p (VI n):=by
 refine callsD_of_wpS func87 rfl λc₀ cs hu=>?_;apply wpS_seq;apply wpS_region;simp[wpOpsS,go_sem,recoverD,hu,ntmps87,Exit.thenS];refine wpS_of_wp ?_;rw[show #[Value.pointer (some p)]++(Array.replicate 10 undef).setIfInBounds 3 (.iface 167 (VI n))=#[.pointer (some p),undef,undef,undef,(.iface 167 (VI n)),undef,undef,undef,undef,undef,undef] from rfl];have Mr:=aaA (VI n);go_wp2;simp[bodyPostS,results,results87]
theorem idle (p:Addr)(w:World):
 CallsD prog 87 #[.pointer (some p)] .returning w λe u' w'=>e=.returned (.tuple #[])/\u'=.returning/\w'=w:=by
 refine callsD_of_wpS func87 rfl λc₀ cs hu=>?_;apply wpS_seq;apply wpS_region;simp[wpOpsS,go_sem,recoverD,hu,ntmps87,Exit.thenS];refine wpS_of_wp ?_;rw[show #[Value.pointer (some p)]++(Array.replicate 10 undef).setIfInBounds 3 .nilIface=#[.pointer (some p),undef,undef,undef,.nilIface,undef,undef,undef,undef,undef,undef] from rfl];go_wp2;cases c₀;simp_all[bodyPostS,results,results87]
variable {w0 : World}
variable {m0 : Im}
variable {K0 : Kd}
theorem Step.aside {S:Nat->Prop}(h:Step w0 w m0 K0 m K)(hc:Vt w w' S)(hS:∀k,S k->w0.heap.size<=k/\¬U2 m K k)(hg:∀k,Gl k->k<w0.heap.size):Step w0 w' m0 K0 m K:=
 ⟨h.Ub.Ut hc (λk e e'=>(hS k e').2 e) (λk e e'=>by have:=(hS k e').1;have:=hg k e;omega),h.b,h.np,h.Ut.then hc (λk hk e=>by have:=(hS k e).1;omega),h.foot,h.len,h.cb,h.md⟩
theorem Ud.rmb (h:Ud w m K){looks UC:Nat}{pm:Nat->Mm}{R:Nat->U1}(hl:UC<=looks)
 (hP:Sm K.k.np w' K.k.L pm (o8 m K)) (hT:TabAt w' K.b K.k.n R) (hr:∀i,i<K.k.n->SrI m K (R i))
 (ho:∀p s,(p,s)∈K.k.L->K.k.pm p=.only->pm p=.only) (ha:∀p s q,(p,s)∈K.k.L->(pm p).arr=some q->(K.k.pm p).arr=some q\/w.heap.size<=q)
 (hch:Vt w w' (λk=>k=K.b\/Vm K.k.L K.k.pm k)) (Cz:∃cur,w'.heap[K.b]?=some (.cells cur 70))
 (hc:∀o,o<6->o≠2->o≠3->w'.cell? (VJ K.b o)=w.cell? (VJ K.b o)) (c2:w'.cell? (VJ K.b 2)=some (VI (Go.RowKit.wrap64 (looks:Nat)))) (c3:w'.cell? (VJ K.b 3)=some (VI (Go.RowKit.wrap64 (UC:Nat)))):
 Step w w' m K {m with looks:=looks} {K with UC:=UC,k:={K.k with pm:=pm,R:=R} }:=by
 obtain⟨n1,n2,n3,n4⟩:=h.Ko;have hcc:=h.Uc
 have hmap:∀(k:Nat) (es:Array MapEntry) (ck:Nat),w.heap[k]?=some (.map es ck)->w'.heap[k]?=w.heap[k]?:=λk es ck hk=>hch.block k (Z5.1 hk).1 (λe=>by
  rcases e with e|e
  . obtain⟨cur,V_⟩:=hcc.img;rw[<- e,hk]at V_;cases V_
  . exact TT hcc.Ru hk e)
 have hpb:∀j,Vm K.k.L pm j->Vm K.k.L K.k.pm j\/w.heap.size<=j:=by
  rintro j ⟨p,s,hps,e|e⟩
  . exact .inl lT
  . rcases ha p s j hps e with e|e
    . exact .inl ⟨p,s,hps,.inr e⟩
    . exact .inr e
 have E':Qr w' K.b {K.k with pm:=pm,R:=R} (λ_=>False) (o8 m K) (SrI m K):=by
  refine⟨Cz,(hc 5 VH VH VH).trans hcc.b5,⟨?_,λs v hv=>?_,hcc.snd.inj,λs ib p hs hp=>hP.Vb (hcc.reg s p ⟨ib,hs,hp⟩)⟩,hP,hcc.reg,λp s hps=>?_,hT,hr,λk hk=>?_,λk hk h1 e=>?_⟩
  . obtain⟨es,ck,hm,_⟩:=hcc.snd.map;exact hcc.snd.map.same (hmap _ _ _ hm)
  . obtain⟨ib,rfl,h4,h5⟩:=hcc.snd.inn s v hv;obtain⟨es,ck,hm,hx⟩:=id h4;exact⟨ib,rfl,h4.same (hmap _ _ _ hm),h5⟩
  . rcases hcc.told p s hps with e|e|e
    . exact .inl e
    . exact .inr (.inl (ho p s hps e))
    . exact e.elim
  . have hm:=hcc.mt k hk;obtain⟨n,hb⟩:=hm.blk;refine hm.same (hch.block k hm.Vb.lt (λe=>?_)) (λh1=>hch.block _ (hm.LV.Vb h1).lt (λe=>?_))
    . rcases e with e|e
      . exact hcc.bn ak8
      . exact TK hcc.Ru hb Vz Vz e
    . rcases e with e|e
      . exact(hcc.gn hk h1).2 e
      . exact hcc.gq k hk h1 e
  . rcases hpb _ e with e|e
    . exact hcc.gq k hk h1 e
    . have:=((hcc.mt k hk).LV.Vb h1).lt;have e:w.heap.size<=(K.k.md k).g:=e;omega
 have V':∀k,U2 {m with looks:=looks} {K with UC:=UC,k:={K.k with pm:=pm,R:=R} } k->U2 m K k\/w.heap.size<=k:=λk e=>by
  exact aoD
 have Wa:Vt w w' (U2 m K):=hch.mono (λk _ e=>h.Jd e);have hh:=h.hd;refine⟨⟨h.ok.looks _,E',⟨(hc 0 VH VH VH).trans hh.c0,(hc 1 VH VH VH).trans hh.c1,c2,c3,(hc 4 VH VH VH).trans hh.c4⟩,h.np6,hl,h.lc.same (hch.block _ h.lc.lt n3),h.iW,h.lcn,⟨(h.cls.Ut hch n1).at_,h.cls.inj⟩,λc hc=>(h.lm c hc).same (hch.block _ (h.lm c hc).lt (n2 c hc)),h.mid,h.own,h.yZ,agD,h.obs.same (λk hk=>hch.block k (h.obs.lt hk) (n4 k hk)),h.J7.Ut Wa dY,λk hk hg=>?_⟩,rfl,rfl,Wa,V',ZN _,λ_ _=>rfl,λk hk=>yg⟩;exact zx
theorem Ud.looked (h:Ud w m K):Step w (w.setCell (VJ K.b 2) (VI (Go.RowKit.wrap64 ((m.looks+1:Nat):Int)))) m K {m with looks:=m.looks+1} K:=by
 have hP:=h.Uc.Ru;have hb:∀k,k≠K.b->(w.setCell (VJ K.b 2) (VI (Go.RowKit.wrap64 ((m.looks+1:Nat):Int)))).heap[k]?=w.heap[k]?:=λk hk=>ZW _ _ _ _ hk;have ho:∀o,o≠2->(w.setCell (VJ K.b 2) (VI (Go.RowKit.wrap64 ((m.looks+1:Nat):Int)))).cell? (VJ K.b o)=w.cell? (VJ K.b o):=λo hne=>VD abA;have hT:=h.Uc.tab;refine h.rmb (looks:=m.looks+1) (UC:=K.UC) (pm:=K.k.pm) (R:=K.k.R) (Nat.le_succ_of_le h.cll) (hP.same (λk hk=>hb k (λe=>h.Uc.bn aj1))) ?_ h.Uc.rows (λ_ _ _ e=>e) (λ_ _ _ _ e=>.inl e) akQ ?_ (λo _ h2 _=>ho o h2) (Vr h.hd.c2) ((ho 3 VH).trans h.hd.c3)
 . exact⟨hT.Vb.setCell _ _,hT.n1,hT.n64,(ho _ VH).trans hT.sz,λi hi=>(ho _ VH).trans (hT.c0 i hi),λi hi=>(ho _ VH).trans (hT.c1 i hi),λi hi=>(ho _ VH).trans (hT.c2 i hi),λi hi=>(ho _ VH).trans (hT.c3 i hi)⟩
 . obtain⟨cur,V_⟩:=h.Uc.img;exact⟨_,by simp only[World.setCell,Zz,ZU,V_];rfl⟩
theorem II {b:Nat}(o:Nat)(v:Value)(h:∃cur,w.heap[b]?=some (.cells cur 70)):∃cur,(w.setCell (VJ b o) v).heap[b]?=some (.cells cur 70):=by
 obtain⟨cur,V_⟩:=h;exact⟨_,by simp only[World.setCell,Zz,ZU,V_];rfl⟩
theorem Ud.afv (h:Ud w m K)(hl:K.UC<m.looks):Step w (w.setCell (VJ K.b 3) (VI (Go.RowKit.wrap64 ((K.UC+1:Nat):Int)))) m K m {K with UC:=K.UC+1}:=by
 have hP:=h.Uc.Ru;have hT:=h.Uc.tab;have ho1:∀o,o≠3->(w.setCell (VJ K.b 3) (VI (Go.RowKit.wrap64 ((K.UC+1:Nat):Int)))).cell? (VJ K.b o)=w.cell? (VJ K.b o):=λo hne=>VD abA
 have g_:TabAt (w.setCell (VJ K.b 3) (VI (Go.RowKit.wrap64 ((K.UC+1:Nat):Int)))) K.b K.k.n K.k.R:=
  ⟨hT.Vb.setCell _ _,hT.n1,hT.n64,(ho1 _ VH).trans hT.sz,λi hi=>(ho1 _ VH).trans (hT.c0 i hi),λi hi=>(ho1 _ VH).trans (hT.c1 i hi),λi hi=>(ho1 _ VH).trans (hT.c2 i hi),λi hi=>(ho1 _ VH).trans (hT.c3 i hi)⟩
 exact h.rmb (looks:=m.looks) (UC:=K.UC+1) (pm:=K.k.pm) (R:=K.k.R) hl (hP.same (λk hk=>ZW _ _ _ _ (λe:k=K.b=>h.Uc.bn aj1))) g_ h.Uc.rows (λ_ _ _ e=>e) (λ_ _ _ _ e=>.inl e) akQ (II _ _ h.Uc.img) (λo h6 _ h3=>ho1 o h3) ((ho1 2 VH).trans h.hd.c2) (Vr h.hd.c3)
def Kd.row (K:Kd)(i:Nat)(r:U1):Kd:={K with k:={K.k with R:=λj=>if j=i then r else K.k.R j} }
theorem Ud.rowed (h:Ud w m K){i:Nat}(hi:i<K.k.n){r:U1}(hr:Ans m K.cb K.mid r):
 Step w ((((w.setCell (VJ K.b (6+i*4)) (.pointer r.fr)).setCell (VJ K.b (6+i*4+1)) (.string r.sel)).setCell (VJ K.b (6+i*4+2)) (.pointer r.hm)).setCell (VJ K.b (6+i*4+3)) (.pointer r.mt)) m K m (K.row i r):=by
 have hP:=h.Uc.Ru;have hT:=h.Uc.tab;have h64:=hT.n64
 have ho:∀o,o<6->((((w.setCell (VJ K.b (6+i*4)) (.pointer r.fr)).setCell (VJ K.b (6+i*4+1)) (.string r.sel)).setCell (VJ K.b (6+i*4+2)) (.pointer r.hm)).setCell (VJ K.b (6+i*4+3)) (.pointer r.mt)).cell? (VJ K.b o)=w.cell? (VJ K.b o):=λo h6=>by
  rw[VD PO,VD PO,VD PO,VD PO]
 refine h.rmb (looks:=m.looks) (UC:=K.UC) (pm:=K.k.pm) (R:=λj=>if j=i then r else K.k.R j) h.cll (hP.same (λk hk=>?_)) (hT.put VH r) (λj hj=>?_) (λ_ _ _ e=>e) (λ_ _ _ _ e=>.inl e) ?_ (II _ _ (II _ _ (II _ _ (II _ _ h.Uc.img)))) (λo h6 _ _=>ho o h6) ((ho 2 VH).trans h.hd.c2) ((ho 3 VH).trans h.hd.c3)
 . have hk:k≠K.b:=λe=>h.Uc.bn aj1;rw[ZW _ _ _ _ hk,ZW _ _ _ _ hk,ZW _ _ _ _ hk,ZW _ _ _ _ hk]
 . by_cases e:j=i
   . simp only[e,Y6];exact .inl hr
   . simp only[e,Zg];exact h.Uc.rows j hj
 . exact(((((Vt.refl w _).setCell _ _ Dx).setCell _ _ Dx).setCell _ _ Dx).setCell _ _ Dx)
structure Lrn (np:Nat)(mm:Mm)(r:U1)(My:Mm):Prop where
 only:mm=.only->My=.only
 rows:∀x,x∈My.rows->x∈mm.rows\/x=r
 few:mm.rows.length<=np->My.rows.length<=np
def Kd.learnt (K:Kd)(p:Nat)(mm:Mm):Kd:={K with k:={K.k with pm:=λk=>if k=p then mm else K.k.pm k} }
theorem Ud.learnt {w w3:World}(h:Ud w m K){p:Nat}{s:ByteArray}(hp:(p,s)∈K.k.L){r:U1}{mm:Mm}(hl:Lrn K.np (K.k.pm p) r mm)(hr:o8 m K s r)(hok:mm.Ok w3)(hq:∀q,mm.arr=some q->(K.k.pm p).arr=some q\/w.heap.size<=q)
 (zr:∀q,mm.arr=some q->q≠p) (hch:Vt w w3 (λk=>(K.k.pm p).arr=some k)):Step w (w3.setCell (VJ p 0) mm.val) m K m (K.learnt p mm):=by
 have hP:=h.Uc.Ru;have hpb:p≠K.b:=λe=>h.Uc.bn (by rw[<- e];exact .inr akC);have hab:∀q,(K.k.pm p).arr=some q->q≠K.b:=λq e e'=>h.Uc.bn (by rw[<- e'];exact .inr (.inr (.inl ⟨p,s,hp,.inr e⟩)));have hb:(w3.setCell (VJ p 0) mm.val).heap[K.b]?=w.heap[K.b]?:=(ZW _ _ _ _ (λe=>hpb e.symm)).trans (hch.block K.b h.Uc.tab.Vb.lt (λe=>hab _ e rfl));refine h.rmb (looks:=m.looks) (UC:=K.UC) (pm:=λk=>if k=p then mm else K.k.pm k) (R:=K.k.R) h.cll (hP.store hp hch hok (hl.few (hP.ok p s hp).2) (λx hx=>?_) hq zr) (h.Uc.tab.same hb) h.Uc.rows (λp' s' hp' e=>?_) (λp' s' q hp' e=>?_) ?_ ?_ (λo _ _ _=>Z9 hb) ((Z9 hb).trans h.hd.c2) ((Z9 hb).trans h.hd.c3)
 . rcases hl.rows x hx with e|e
   . exact hP.rows p s x hp e
   . rw[e];exact hr
 . by_cases e1:p'=p
   . subst e1;simp only[Y6];exact hl.only e
   . simp only[e1,Zg];exact e
 . by_cases e1:p'=p
   . subst e1;simp only[Y6]at e;exact hq q e
   . simp only[e1,Zg]at e;exact .inl e
 . exact(hch.mono (λk _ e=>.inr ⟨p,s,hp,.inr e⟩)).setCell _ _ (λ_=>.inr ao2)
 . obtain⟨cur,V_⟩:=h.Uc.img;exact⟨cur,hb.trans V_⟩
def Kd.nowhere (K:Kd)(p:Nat)(s:ByteArray):Kd:={K with k:={K.k with L:=(p,s)::K.k.L,pm:=λk=>if k=p then .only else K.k.pm k} }
theorem Ud.nowhere (h:Ud w m K)(s:ByteArray):Step w (w.alloc (.cells #[Mm.only.val] 198)) m K m (K.nowhere w.heap.size s):=by
 have s9:Below w.heap.size w (w.alloc (.cells #[Mm.only.val] 198)):=(ZR _ w).alloc UM _;have h':=h.below s9;have hcc:=h'.Uc;have hP:=hcc.Ru
 have hold:∀q t,(q,t)∈K.k.L->q≠w.heap.size:=λq t hq e=>by
  have:=h.Uc.lt (.inr (.inr (.inl ⟨q,t,hq,.inl rfl⟩)):Td K.k q);omega
 have S8:∀q t,(q,t)∈K.k.L->(if q=w.heap.size then Mm.only else K.k.pm q)=K.k.pm q:=λq t hq=>ZX (hold q t hq)
 have hmem:∀q t,(q,t)∈(w.heap.size,s)::K.k.L->(q=w.heap.size/\t=s)\/(q,t)∈K.k.L:=λq t hq=>by
  rcases ZM.1 hq with e|e
  . injection e with e1 e2;exact .inl ⟨e1,e2⟩
  . exact .inr e
 have hpb:∀k,Vm ((w.heap.size,s)::K.k.L) (λk=>if k=w.heap.size then .only else K.k.pm k) k->Vm K.k.L K.k.pm k\/w.heap.size<=k:=by
  rintro k ⟨q,t,hq,e⟩;rcases hmem q t hq with⟨e1,e2⟩|hq
  . rcases e with e|e
    . exact .inr VH
    . simp only[e1,Y6]at e;cases e
  . simp only[S8 q t hq]at e;exact .inl ⟨q,t,hq,e⟩
 have E':Qr (w.alloc (.cells #[Mm.only.val] 198)) K.b (K.nowhere w.heap.size s).k (λ_=>False) (o8 m K) (SrI m K):=by
  refine⟨hcc.img,hcc.b5,hcc.snd,⟨hP.b6,?_,λq t hq=>?_,λq t hq=>?_,λq t r hq hr=>?_,λq t q' t' a hq hq' ha ha'=>?_⟩,λt q hr=>Zo _ (hcc.reg t q hr),λq t hq=>?_,hcc.tab,hcc.rows,λk hk=>?_,λk hk h1 e=>?_⟩
  . show ((w.heap.size,s)::K.k.L |>.map (·.1)).Nodup;rw[Zc,YS];refine⟨λe=>?_,hP.nd⟩;obtain⟨⟨q,t⟩,hq,e⟩:=Zy.1 e;exact hold q t hq e
  . rcases hmem q t hq with⟨e1,e2⟩|hq
    . subst e1;show _=some (Obj.cells #[(if w.heap.size=w.heap.size then Mm.only else K.k.pm w.heap.size).val] _);rw[ZU rfl];exact(Z4 w _).1
    . show _=some (Obj.cells #[(if q=w.heap.size then Mm.only else K.k.pm q).val] _);rw[S8 q t hq];exact hP.at_ q t hq
  . rcases hmem q t hq with⟨e1,e2⟩|hq
    . subst e1;show (if w.heap.size=w.heap.size then Mm.only else K.k.pm w.heap.size).Ok _/\(if w.heap.size=w.heap.size then Mm.only else K.k.pm w.heap.size).rows.length<=_;rw[ZU rfl];exact⟨trivial,Yy _⟩
    . show (if q=w.heap.size then Mm.only else K.k.pm q).Ok _/\(if q=w.heap.size then Mm.only else K.k.pm q).rows.length<=_;rw[S8 q t hq];exact hP.ok q t hq
  . have hr:r∈(if q=w.heap.size then Mm.only else K.k.pm q).rows:=hr;rcases hmem q t hq with⟨e1,e2⟩|hq
    . subst e1;rw[ZU rfl]at hr;cases hr
    . rw[S8 q t hq]at hr;exact hP.rows q t r hq hr
  . have ha:(if q=w.heap.size then Mm.only else K.k.pm q).arr=some a:=ha;have ha':(if q'=w.heap.size then Mm.only else K.k.pm q').arr=some a:=ha';rcases hmem q t hq with⟨e1,e2⟩|hq
    . subst e1;rw[ZU rfl]at ha;cases ha
    . rcases hmem q' t' hq' with⟨e1,e2⟩|hq'
      . subst e1;rw[ZU rfl]at ha';cases ha'
      . rw[S8 q t hq]at ha;rw[S8 q' t' hq']at ha';exact hP.arr q t q' t' a hq hq' ha ha'
  . rcases hmem q t hq with⟨e1,e2⟩|hq
    . exact .inr (.inl (ZU e1))
    . rcases hcc.told q t hq with e|e|e
      . exact .inl e
      . exact .inr (.inl (((ZX (hold q t hq)).trans e)))
      . exact e.elim
  . have hm:=hcc.mt k hk;exact⟨hm.blk,hm.LV,hm.len,λi x hx hs=>Zo _ (hm.Ru i x hx hs)⟩
  . rcases hpb _ e with e|e
    . exact hcc.gq k hk h1 e
    . have:=((h.Uc.mt k hk).LV.Vb h1).lt;have e:w.heap.size<=(K.k.md k).g:=e;omega
 have V':∀k,U2 m (K.nowhere w.heap.size s) k->U2 m K k\/w.heap.size<=k:=λk e=>by
  exact aoD
 refine⟨⟨h.ok,E',⟨h'.hd.c0,h'.hd.c1,h'.hd.c2,h'.hd.c3,h'.hd.c4⟩,h.np6,h.cll,h'.lc,h.iW,h.lcn,h'.cls,h'.lm,h.mid,h.own,h.yZ,agD,h'.obs,h'.J7,λk hk hg=>?_⟩,rfl,rfl,Vt.of_below s9 _,V',ZN _,λ_ _=>rfl,λk hk=>yg⟩;exact zx
def Mm.pay:Mm->Value
 | .no=>.agg #[]
 | .one r=>r.val
 | .many q cap rs=>.agg #[.slice (some (VJ q 0)) rs.length cap]
 | .only=>.agg #[]
def Mm.wE:Mm->Nat
 | .no=>184
 | .one _=>191
 | .many _ _ _=>194
 | .only=>187
def Mm.kP:Mm->Nat
 | .no=>183
 | .one _=>190
 | .many _ _ _=>193
 | .only=>186
theorem dK (mm:Mm)(d:Nat)(s:ByteArray)(w:World)(hok:mm.Ok w)(h6:mm.rows.length<=6)(hr:∀r∈mm.rows,uT w r)(hd:UL w d):
 Calls prog mm.wE #[mm.pay,.agg #[VG d,.string s]] w λe w'=>∃h m k,e=.returned (.tuple #[.agg #[.pointer h,.pointer m],.bool k])/\
  (k=true->∃r∈mm.rows,r.fr=some (VJ d 0)/\r.sel=s/\h=r.hm/\m=r.mt)/\Below w.heap.size w w':=by
 cases mm with
 | no=>exact(aaj _ _ w).mono (λe w' ⟨h1,h2⟩=>⟨none,none,false,h1,λh=>MO,h2⟩)
 | only=>exact(uw _ _ w).mono (λe w' ⟨h1,h2⟩=>⟨none,none,false,h1,λh=>MO,h2⟩)
 | one r=>
  obtain⟨c,hc,XX⟩:=hr r oV;refine(oD r c d s w hc XX hd).mono (λe w' ⟨h1,h2⟩=>⟨r.hm,r.mt,hits c d r.sel s,h1,λh=>?_,h2⟩);unfold hits at h;rw[ZB,YB,YB]at h;exact⟨r,oV,by rw[hc,h.1];rfl,h.2,rfl,rfl⟩
 | many q cap rs=>exact sU q cap d rs s w h6 hok hr hd
theorem aeE (mm:Mm)(r:U1)(np:Nat)(w:World)(hok:mm.Ok w)(hle:mm.rows.length<=np)(h6:np<=6):
 Calls prog mm.kP #[mm.pay,r.val,VI (np:Nat)] w λe w'=>∃My,e=.returned My.val/\My.Ok w'/\Lrn np mm r My/\(∀q,My.arr=some q->mm.arr=some q\/w.heap.size<=q)/\Vt w w' (λk=>mm.arr=some k):=by
 have B3:∀mm:Mm,Lrn np mm r .only:=λmm=>⟨λ_=>rfl,λx hx=>(by cases hx),λ_=>Yy _⟩
 cases mm with
 | no=>
  refine(abo r np w).mono (λe w' ⟨h1,h2⟩=>⟨_,h1,?_,?_,?_,Vt.of_below h2 _⟩)
  . split<;>trivial
  . split
    . exact B3 _
    . exact⟨λe=>EO,λx hx=>.inr (by simpa[Mm.rows]using hx),λ_=>by simp[Mm.rows];omega⟩
  . intro q hq;split at hq<;>cases hq
 | only=>exact(pF r np w).mono akF
 | one o=>
  by_cases h1:np=1
  . subst h1;exact(CY o r w).mono akF
  . refine(DW o r np w VH).mono (λe w' ⟨q,h2,h3,h4,h5⟩=>⟨_,h2,h5,⟨λe=>EO,λx hx=>?_,λh=>?_⟩,λq' hq=>?_,Vt.of_below h3 _⟩)
    . simp[Mm.rows]at hx ⊢;exact hx
    . simp[Mm.rows]at h ⊢;omega
    . injection hq with hq;subst hq;exact .inr h4
 | many q cap rs=>
  by_cases h1:np=rs.length
  . subst h1;exact(EY q cap rs r w).mono akF
  . have hle:rs.length<=np:=hle;refine(nG q cap rs r np w VH VH hok).mono (λe w' ⟨q',cap',h2,h3,h4,h5⟩=>⟨_,h2,h3,⟨λe=>EO,λx hx=>?_,λh=>?_⟩,λq'' hq=>?_,h5.mono (λk _ e=>?_)⟩)
    . simp[Mm.rows]at hx ⊢;exact hx
    . simp[Mm.rows]at h ⊢;omega
    . injection hq with hq;subst hq;rcases h4 with e|e
      . exact .inl Sv
      . exact .inr e
    . rw[e];rfl
theorem LQ (n:Nat):Go.RowKit.wrap64 (Go.RowKit.wrap64 (n:Int)+1)=Go.RowKit.wrap64 ((n+1:Nat):Int):=by
 have h:=Int.emod_add_emod ((n:Int)+9223372036854775808) 18446744073709551616 1;unfold Go.RowKit.wrap64;rw[show ((n:Int)+9223372036854775808) % 18446744073709551616-9223372036854775808+1+9223372036854775808=((n:Int)+9223372036854775808) % 18446744073709551616+1 from VH,h,show (n:Int)+9223372036854775808+1=((n+1:Nat):Int)+9223372036854775808 from VH]
theorem Ud.ab5 (h:Ud w m K){c:Nat}(hc:c<m.kl.length){r:U1}(ha:Ans m K.cb K.mid r)(h1:r.fr=some (VJ (K.cb c) 0)):Value.agg #[.pointer r.hm,.pointer r.mt]=EX K (K.says m r.sel (some c)):=by
 obtain⟨d,hd,e1,e2,e3⟩:=ha;rw[h1]at e1;injection e1 with e1;injection e1 with e1 _ _;have:=h.cls.inj c d hc hd e1;subst this;unfold EX Kd.says;rw[e2,e3]
theorem Ud.jy (h:Ud w m K){r:U1}(hr:SrI m K r):uT w r:=by
 rcases hr with⟨c,hc,e,_⟩|e
 . exact⟨some (K.cb c),e,λb hb=>by injection hb with hb;subst hb;exact h.cls.Vb hc⟩
 . subst e;exact⟨none,rfl,λb hb=>by cases hb⟩
theorem uM {w w2 w5:World}(h:Ud w m K)(hB:Below w.heap.size w w2)(hl2:w.heap.size+2<=w2.heap.size)(h5:Step w2 w5 m K m {K with UC:=K.UC+1}) {c:Nat} (hc:c<m.kl.length) {i:Nat} (hi:i<K.k.n) (s:ByteArray) (h0 h1:Option Addr)
 (e0:h0=Vq ((K.says m s (some c)).map (λx=>K.cb x.1))) (e1:h1=Vq ((K.says m s (some c)).map (·.2))) (v0 v1:Value):
 ∃K',Step w ((((((w5.setCell (VJ K.b (6+i*4)) ((VG (K.cb c)))).setCell (VJ K.b (6+i*4+1)) (.string s)).setCell (VJ K.b (6+i*4+2)) (.pointer h0)).setCell (VJ K.b (6+i*4+3)) (.pointer h1)).setCell (VJ (w.heap.size+1) 0) v0).setCell (VJ (w.heap.size+1) 1) v1) m K m K'/\K'.cb=K.cb/\K'.mid=K.mid/\K'.k.L=K.k.L/\K'.k.pm=K.k.pm:=by
 have hrow:=h5.Ub.rowed (i:=i) hi (r:=⟨some (VJ (K.cb c) 0),s,h0,h1⟩) ⟨c,hc,rfl,e0,e1⟩;have rl:=h5.trans hrow;have hgl:∀k,Gl k->k<w.heap.size:=λk hk=>h.J7.lt hk
 have hS:∀k,k=w.heap.size+1->w.heap.size<=k/\¬U2 m (Kd.row {K with UC:=K.UC+1} i ⟨some (VJ (K.cb c) 0),s,h0,h1⟩) k:=λk e=>⟨VH,λe'=>by
  rcases rl.foot k e' with e1|e1
  . have:=h.lt e1;omega
  . omega⟩
 have hfin:=((Step.below h hB).trans rl).aside (S:=λk=>k=w.heap.size+1) (((Vt.refl _ (λk=>k=w.heap.size+1)).setCell (VJ (w.heap.size+1) 0) v0 (λ_=>rfl)).setCell (VJ (w.heap.size+1) 1) v1 (λ_=>rfl)) hS hgl;exact⟨_,hfin,rfl,rfl,rfl,rfl⟩
theorem rJ (h:Ud w m K)(hl:K.UC<m.looks){c:Nat}(hc:c<m.kl.length)(s:ByteArray)(hs:s.size<=1000):
 Calls prog 150 #[VG K.b,.agg #[VG (K.cb c),.string s]] w λe w'=>e=.returned (EX K (K.says m s (some c)))/\∃K',Step w w' m K m K'/\K'.cb=K.cb/\K'.mid=K.mid/\K'.k.L=K.k.L/\K'.k.pm=K.k.pm:=by
 obtain⟨W1,hW1⟩:∃W1,W1=(w.alloc (.cells #[VG (K.cb c),.string s] 59)).alloc (.cells #[.pointer none,.pointer none] 62):=Vx;have hB1:Below w.heap.size w W1:=ani;have h1:=h.below hB1;have hen:=xO h1.drew hc s hs
 have b0:W1.heap[w.heap.size]?=some (.cells #[VG (K.cb c),.string s] 59):=by
  exact ah2
 have b1:W1.heap[w.heap.size+1]?=some (.cells #[.pointer none,.pointer none] 62):=by
  rw[hW1];have:=(Z4 (w.alloc (.cells #[VG (K.cb c),.string s] 59)) (.cells #[.pointer none,.pointer none] 62)).1;rw[ZJ]at this;exact this
 have q0:W1.cell? (VJ w.heap.size 0)=some ((VG (K.cb c))):=by simp only[World.cell?,b0];rfl
 have q1:W1.cell? (VJ w.heap.size 1)=some (.string s):=by simp only[World.cell?,b0];rfl
 have Rv:w.heap.size+2<=W1.heap.size:=acn;go_enter func150,ntmps150;go_wp2_with fail;rw[<- hW1];clear hW1;refine Uy ?_;refine ahj ?_;intro hHeld;refine Ep ?_;refine Uh 2 ?_;refine Ur 3 ?_;refine Ul 4 λY_ Z_=>?_;go_simp;refine hen.mono ?_;rintro e w2 ⟨⟨i,hi,rfl⟩,hb2⟩;have RC:=((RH hb2).cell (p:=(VJ w.heap.size 0)) EJ).trans q0;have RR:=((RH hb2).cell (p:=(VJ w.heap.size 1)) EJ).trans q1
 try go_wp2_with fail
 refine Z_.go λhHeld=>?_;clear Z_ Y_
 try refine UE ?_
 refine Ur 5 ?_;refine Nr ?_;have UT:=RH hb2;have h2:=h1.below UT;have hB2:=hB1.then UT;have n64:=h2.Uc.tab.n64;have t0:=h2.Uc.tab.c0 i VH;have t1:=h2.Uc.tab.c1 i VH;have t2:=h2.Uc.tab.c2 i VH;have t3:=h2.Uc.tab.c3 i VH;obtain⟨r,hr⟩:∃r,r=K.k.R i:=Vx;rw[<- hr]at t0 t1 t2 t3;have pN:=h2.Uc.rows i hi;rw[<- hr]at pN;obtain⟨cr,hcr,XX⟩:=h2.jy pN;rw[hcr]at t0;have hl2:=ZC Rv UT.size;have c1:=(UT.block _ VH).trans b1;have f0:w2.cell? (VJ (w.heap.size+1) 0)=some (.pointer none):=by simp only[World.cell?,c1];rfl
 have f1:w2.cell? (VJ (w.heap.size+1) 1)=some (.pointer none):=by simp only[World.cell?,c1];rfl
 have i7:∀o,w2.frozen? (VJ (w.heap.size+1) o)=false:=λo=>UL.free ⟨_,_,c1⟩ o;have Uv:Hid _:=hB2;have H2:Hid _:=h2
 have HS:Hid (SrI m K r/\r=K.k.R i/\r.fr=Vq cr):=⟨pN,hr,hcr⟩
 have gg:=Cc w2.drew cr (K.cb c) r.sel s XX (h2.cls.Vb hc);clear hb2 UT h2 hB2 pN XX b0 b1 q0 q1 Rv hen h1 hB1 hr
 have hit:hits cr (K.cb c) r.sel s=true->r.fr=some (VJ (K.cb c) 0)/\r.sel=s:=λe=>by
  unfold hits at e;rw[ZB,YB,YB]at e;exact⟨by rw[hcr,e.1];rfl,e.2⟩
 have HIT:Hid _:=hit;clear hit hcr;have c3:=H2.o.hd.c3;have aqc:K.b≠w.heap.size:=λe=>by have:=h.Uc.tab.Vb.lt;omega
 have dk:∀o,w2.frozen? (VJ K.b o)=false:=λo=>H2.o.Uc.tab.Vb.free o;have e6:¬6+i*4=1:=VH;rcases gg with⟨heq,hno⟩|⟨heq,hst,hno⟩|⟨heq,hst,GD⟩
 . exact zz0
 . exact zz0
 . go_wp2_with fail;refine Uy ?_;refine aif ?_;intro hHeld;refine pJ ?_;refine FC ?_;intro Y_ Z_;refine Vg ?_;intro hHeld;clear Z_ Y_;refine Um ?_;go_wp2;refine ZQ (RD (z:=w.heap.size+1) results150 (.pointer r.hm) (.pointer r.mt) rfl ?_ ?_) rfl ?_
   . show ((w2.setCell (VJ (w.heap.size+1) 0) (.pointer r.hm)).setCell (VJ (w.heap.size+1) 1) (.pointer r.mt)).cell? (VJ (w.heap.size+1) 0)=_;rw[VD PO];exact Vr f0
   . show ((w2.setCell (VJ (w.heap.size+1) 0) (.pointer r.hm)).setCell (VJ (w.heap.size+1) 1) (.pointer r.mt)).cell? (VJ (w.heap.size+1) 1)=_;exact Vr aj9
   . obtain⟨e1,e2⟩:=HIT.o GD;refine⟨YV Ending.returned ?_,K,Step.below h (((Uv.o.setCell (by show w.heap.size<=w.heap.size+1;omega) _).setCell (by show w.heap.size<=w.heap.size+1;omega) _).drew),rfl,rfl,rfl,rfl⟩;rcases HS.o.1 with ha|ha
     . rw[<- e2];exact h.ab5 hc ha e1
     . rw[ha]at e1;cases e1
theorem aj (h:Ud w m K)(p:Nat)(s:ByteArray):
 Calls prog 136 #[VG K.b,VG p,.agg #[.pointer none,.string s]] w λe w'=>e=.returned (EX K none)/\∃K',Step w w' m K {m with looks:=m.looks+1} K':=by
 have c2:=h.hd.c2;have dk:∀o,w.frozen? (VJ K.b o)=false:=λo=>h.Uc.tab.Vb.free o;have hbl:=h.Uc.tab.Vb.lt;have HL:=UQ h.looked;clear h;go_enter func136,ntmps136;go_wp2;rw[LQ];obtain⟨W0,hW0⟩:∃W0,W0=w.setCell (VJ K.b 2) (VI (Go.RowKit.wrap64 ((m.looks+1:Nat):Int))):=Vx;have hz:W0.heap.size=w.heap.size:=by rw[hW0];simp[World.setCell]
 rw[<- hW0]at HL ⊢;refine ZQ (RD (z:=w.heap.size+1) results136 (.pointer none) (.pointer none) rfl ?_ ?_) rfl ⟨rfl,K,HL.o.trans (Step.below HL.o.Ub (below2 _ _ _))⟩
 . exact Ug _ _ _ _ 0 (by simp[hz])
 . exact Ug _ _ _ _ 1 (by simp[hz])
theorem adN {w W1 W3 W4 W5:World}{m m1:Im}{K K4:Kd}{z:Nat}(h:Ud w m K)(h1:Step w W1 m K m1 K)(hm1:m1.kl=m.kl/\m1.obs=m.obs)(j_:Below W1.heap.size W1 W3)(hz1:W1.heap.size<=z)(hz3:z<W3.heap.size)(h4:Step W3 W4 m1 K m1 K4)(hc5:Vt W4 W5 (λk=>k=z)):Step W1 W5 m1 K m1 K4:=by
 refine ajU ?_;intro hft hgl;have hs1:=h1.Ut.size;have J1:=(Step.below h1.Ub j_).trans h4
 exact J1.aside hc5 (λk e=>⟨VH,λe'=>by
  rcases h4.foot k e' with e1|e1
  . have:=hft k e1;omega
  . omega⟩) (λk hk=>by have:=hgl k hk;omega)
theorem set2 {z:Nat}{a b x y:Value}{t:TypeId}(h:w.heap[z]?=some (.cells #[a,b] t)):((w.setCell (VJ z 0) x).setCell (VJ z 1) y).heap[z]?=some (.cells #[x,y] t):=by
 have h1:(w.setCell (VJ z 0) x).heap[z]?=some (.cells #[x,b] t):=by
  exact uX
 simp only[World.setCell,Zz,ZU]at h1 ⊢;rw[h1];rfl
theorem acz {w W1 W3 W4 W5 W6:World}{m m1:Im}{K K4:Kd}{p z:Nat}{s:ByteArray}{mm:Mm}{r:U1}(h:Ud w m K)(h1:Step w W1 m K m1 K)(Rv:w.heap.size+2<=W1.heap.size)(hm1:m1.kl=m.kl/\m1.obs=m.obs)(j_:Below W1.heap.size W1 W3)(hz1:W1.heap.size<=z)(hz3:z<W3.heap.size)(h4:Step W3 W4 m1 K m1 K4)
 (eL:K4.k.L=K.k.L) (yk:K4.k.pm=K.k.pm) (hc5:Vt W4 W5 (λk=>k=z)) (hp:(p,s)∈K.k.L) (hl:Lrn K4.np (K.k.pm p) r mm) (hr:o8 m1 K4 s r) (hok:mm.Ok W6) (hq:∀q,mm.arr=some q->(K.k.pm p).arr=some q\/W5.heap.size<=q) (hch:Vt W5 W6 (λk=>(K.k.pm p).arr=some k)) (v0 v1:Value):
 ∃K',Step w (((W6.setCell (VJ p 0) mm.val).setCell (VJ (w.heap.size+1) 0) v0).setCell (VJ (w.heap.size+1) 1) v1) m K m1 K':=by
 refine ajU ?_;intro hft hgl;have J1:=(Step.below h1.Ub j_).trans h4
 have J1:=J1.aside hc5 (λk e=>⟨VH,λe'=>by
  rcases h4.foot k e' with e1|e1
  . have:=hft k e1;omega
  . omega⟩) (λk hk=>by have:=hgl k hk;omega)
 have Lz:(p,s)∈K4.k.L:=by rw[eL];exact hp
 have hpw:=J1.Ub.Uc.lt (.inr (.inr (.inl ⟨p,s,Lz,.inl rfl⟩)):Td K4.k p)
 have zr:∀q,mm.arr=some q->q≠p:=λq e e'=>by
  rcases hq q e with e1|e1
  . have ha:=J1.Ub.Uc.Ru.at_ p s Lz;obtain⟨cur,V_⟩:=J1.Ub.Uc.Ru.Qz Lz (q:=q) (by rw[yk];exact e1);exact ajt
  . omega
 have hlr:=J1.Ub.learnt (p:=p) (s:=s) (r:=r) (mm:=mm) (w3:=W6) Lz (by rw[yk];exact hl) hr hok (by rw[yk];exact hq) zr (by rw[yk];exact hch);have J1:=J1.trans hlr
 have hf:∀k,k=w.heap.size+1->w.heap.size<=k/\¬U2 m1 (K4.learnt p mm) k:=λk e=>⟨VH,λe'=>by
  rcases J1.foot k e' with e1|e1
  . have:=hft k e1;omega
  . omega⟩
 have hfin:=(h1.trans J1).aside (S:=λk=>k=w.heap.size+1) (((Vt.refl _ (λk=>k=w.heap.size+1)).setCell (VJ (w.heap.size+1) 0) v0 (λ_=>rfl)).setCell (VJ (w.heap.size+1) 1) v1 (λ_=>rfl)) hf hgl;exact⟨_,hfin⟩
theorem o8.jy (h:Ud w m K){s:ByteArray}{r:U1}(hr:o8 m K s r):uT w r:=h.jy (.inl hr.2)
theorem Ef (M : Mm) (T fR fL : Nat) (P0 : Value) (hv : M.val = .iface T P0) (yy : M.pay = P0) (dj : M.wE = fR) (eA : M.kP = fL) (hm1 : ∀ W, (method 365 T P0 "kin/kin.recall").run Tryz.prog W = .ok (fR, P0) W) (hm2 : ∀ W, (method 365 T P0 "kin/kin.learn").run Tryz.prog W = .ok (fL, P0) W) (hc1 : ∀ a W, (callFunc fR a).run Tryz.prog W = .ok (.enter fR a) W) (hc2 : ∀ a W, (callFunc fL a).run Tryz.prog W = .ok (.enter fL a) W) (h : Ud w m K) {p : Nat} {s : ByteArray} (hp : (p, s) ∈ K.k.L) {c : Nat} (hc : c < m.kl.length) (hs : s.size ≤ 1000) (hmm : K.k.pm p = M) :
 Calls prog 136 #[VG K.b,VG p,.agg #[VG (K.cb c),.string s]] w λe w'=>e=.returned (EX K (K.says m s (some c)))/\∃K',Step w w' m K {m with looks:=m.looks+1} K':=by
 have c2:=h.hd.c2;have dk:∀o,w.frozen? (VJ K.b o)=false:=λo=>h.Uc.tab.Vb.free o;have hbl:=h.Uc.tab.Vb.lt;obtain⟨W1,hW1⟩:∃W1,W1=((w.setCell (VJ K.b 2) (VI (Go.RowKit.wrap64 ((m.looks+1:Nat):Int)))).alloc (.cells #[VG (K.cb c),.string s] 59)).alloc (.cells #[.pointer none,.pointer none] 62):=Vx;have h1:Step w W1 m K {m with looks:=m.looks+1} K:=by rw[hW1];exact h.looked.trans (Step.below h.looked.Ub (below2 _ _ _))
 have hsz0:(w.setCell (VJ K.b 2) (VI (Go.RowKit.wrap64 ((m.looks+1:Nat):Int)))).heap.size=w.heap.size:=zb4;have Rv:w.heap.size+2<=W1.heap.size:=abp
 have nz:W1.heap[w.heap.size]?=some (.cells #[VG (K.cb c),.string s] 59):=by
  rw[hW1,ZV _ _ _ zb4];have:=(Z4 (w.setCell (VJ K.b 2) (VI (Go.RowKit.wrap64 ((m.looks+1:Nat):Int)))) (.cells #[VG (K.cb c),.string s] 59)).1;rw[hsz0]at this;exact this
 have c2:W1.heap[w.heap.size+1]?=some (.cells #[.pointer none,.pointer none] 62):=by
  rw[hW1];have:=(Z4 ((w.setCell (VJ K.b 2) (VI (Go.RowKit.wrap64 ((m.looks+1:Nat):Int)))).alloc (.cells #[VG (K.cb c),.string s] 59)) (.cells #[.pointer none,.pointer none] 62)).1;rw[ZJ,hsz0]at this;exact this
 have qT:W1.cell? (VJ w.heap.size 0)=some ((VG (K.cb c))):=by simp only[World.cell?,nz];rfl
 have pg:W1.cell? (VJ w.heap.size 1)=some (.string s):=by simp only[World.cell?,nz];rfl
 have hpl:=h1.Ub.Uc.Ru
 have qd:W1.cell? (VJ p 0)=some (.iface T P0):=by
  have:=hpl.at_ p s hp;rw[hmm,hv]at this;refine FK ?_;rfl
 have tM:=h.Uc.lt (.inr akC:Td K.k p);have CA:=(hpl.ok p s hp).1;have hlen:=(hpl.ok p s hp).2;have hrows:=λr (hr:r∈(K.k.pm p).rows)=>hpl.rows p s r hp hr;have Pr:=h.np6;rw[hmm]at CA hlen hrows;have harr:∀q,M.arr=some q->q<W1.heap.size:=λq e=>h1.Ub.Uc.lt (.inr (.inr (.inl ⟨p,s,hp,.inr (by rw[hmm];exact e)⟩)):Td K.k q)
 have hrc:∀W,Below W1.heap.size W1 W->Calls prog M.wE #[M.pay,.agg #[VG (K.cb c),.string s]] W λe w'=>∃h m k,e=.returned (.tuple #[.agg #[.pointer h,.pointer m],.bool k])/\
  (k=true->∃r∈M.rows,r.fr=some (VJ (K.cb c) 0)/\r.sel=s/\h=r.hm/\m=r.mt)/\Below W.heap.size W w':=λW hW=>dK _ _ s W (CA.keep (λq e=>hW.block q (harr q e))) (ZC hlen Pr) (λr hr=>o8.jy (h1.Ub.below hW) (hrows r hr)) ((h1.Ub.below hW).cls.Vb hc)
 simp only[dj,yy,U1.val]at hrc;have H1:Hid _:=h1;have HH:Hid _:=h
 have Wg:Hid (M.kP=fL/\M.pay=P0/\M.val=.iface T P0):=⟨eA,yy,hv⟩
 clear eA dj yy hv
 have yp:Hid (K.k.pm p=M/\∀r∈M.rows,o8 m K s r):=⟨hmm,hrows⟩
 have N6:Hid (M.Ok W1/\M.rows.length<=K.np/\∀q,M.arr=some q->q<W1.heap.size):=⟨CA,hlen,harr⟩
 refine ahg ?_;intro hBa hBb;clear h h1 hpl CA hlen hrows nz hmm harr;go_enter func136,ntmps136;go_wp2_with fail;rw[LQ,<- hW1];clear hW1;refine Uy ?_;refine ZT (S:=(λw'=>w'.cell? (VJ w.heap.size 0)=some ((VG (K.cb c)))/\w'.cell? (VJ w.heap.size 1)=some (.string s)/\w'.cell? (VJ p 0)=some (.iface T P0))) VE UG (λhHeld=>?_);refine pJ ?_;refine Ur 4 ?_;refine Zv (rs:=[5,9]) VE Vy ?_;refine(ZO (o:=_) rfl (λY_ Z_=>?Ab1) (ZO (o:=_) rfl (λY_ Z_=>?Ab2) ZA))
 case' Ab1=>
  go_simp;refine(hrc _ hBa).mono ?_;rintro e w2 ⟨hh,mt,kk,rfl,hk,hb2⟩;have RC:=(hb2.cell (p:=(VJ w.heap.size 0)) EJ).trans qT;have RR:=(hb2.cell (p:=(VJ w.heap.size 1)) EJ).trans pg;have pM:=(hb2.cell (p:=(VJ p 0)) (by show p<W1.heap.size;omega)).trans qd
  try go_wp2_with fail
  refine Z_.go λhHeld=>?_;clear Z_ Y_
  try refine UE ?_
  have UT:=RH hb2;have hkk:Hid _:=hk;clear hb2 hk hrc;refine Uh 6 ?_;refine Uh 7 ?_;refine Ur 8 ?_;refine Ul 9 λY_ Z_=>?_;refine Vg ?_;intro hHeld;clear Z_ Y_
  try refine UE ?_
  refine Fe ?_;intro hHeld;refine La ?_;refine Nr ?_;obtain⟨W3,hW1⟩:∃W3,W3=w2.alloc (.cells #[.pointer hh,.pointer mt] 62):=Vx;obtain⟨z,hzz⟩:∃z,z=w2.heap.size:=Vx;rw[<- hW1,<- hzz];have j_:Below W1.heap.size W1 W3:=by rw[hW1];exact UT.alloc UT.size _
  have hzb:W3.heap[z]?=some (.cells #[.pointer hh,.pointer mt] 62):=jv;have hz1:W1.heap.size<=z:=by rw[hzz];exact UT.size
  clear hzz hW1 UT RC RR pM
 case' Ab2=>
  refine Vg ?_;intro hHeld;clear Z_ Y_
  try refine UE ?_
  refine Ul 5 λY_ Z_=>?_;go_simp;refine(hrc _ hBb).mono ?_;rintro e w2 ⟨hh,mt,kk,rfl,hk,hb2⟩;have hb3:Below W1.heap.size (W1.alloc (.cells #[.pointer none,.pointer none] 62)).drew w2:=hb2.mono Vy;have UT:=hBb.trans hb3;have RC:=(UT.cell (p:=(VJ w.heap.size 0)) EJ).trans qT;have RR:=(UT.cell (p:=(VJ w.heap.size 1)) EJ).trans pg;have pM:=(UT.cell (p:=(VJ p 0)) (by show p<W1.heap.size;omega)).trans qd;have LO:=(hb2.block _ Vy).trans (Z4 _ _).1
  try go_wp2_with fail
  refine Z_.go λhHeld=>?_;clear Z_ Y_
  try refine UE ?_
  refine amK ?_;intro u0 u1 uf;have hkk:Hid _:=hk;have Z1:¬W1.heap.size=w.heap.size:=VH;have Te:¬W1.heap.size=p:=VH;clear hb2 hk hrc hb3;refine Uh 6 ?_;refine Uh 7 ?_;refine Ur 8 ?_;refine Fe ?_;intro hHeld;refine La ?_;refine Nr ?_;obtain⟨W3,hW1⟩:∃W3,W3=(w2.setCell (VJ W1.heap.size 0) (.pointer hh)).setCell (VJ W1.heap.size 1) (.pointer mt):=Vx;obtain⟨z,hzz⟩:∃z,z=W1.heap.size:=Vx;rw[<- hW1,<- hzz];have j_:Below W1.heap.size W1 W3:=by rw[hW1];exact(UT.setCell UM _).setCell UM _
  have hzb:W3.heap[z]?=some (.cells #[.pointer hh,.pointer mt] 62):=abJ;have hz1:W1.heap.size<=z:=VH;clear hzz hW1 UT RC RR pM LO u0 u1 uf Z1 Te
 all_goals
  have RC:=(j_.cell (p:=(VJ w.heap.size 0)) EJ).trans qT;have RR:=(j_.cell (p:=(VJ w.heap.size 1)) EJ).trans pg;have c13:=(j_.block _ VH).trans c2;have f0:W3.cell? (VJ (w.heap.size+1) 0)=some (.pointer none):=by simp only[World.cell?,c13];rfl
  have f1:W3.cell? (VJ (w.heap.size+1) 1)=some (.pointer none):=by simp only[World.cell?,c13];rfl
  have ff:∀o,W3.frozen? (VJ (w.heap.size+1) o)=false:=λo=>UL.free ⟨_,_,c13⟩ o;have z0:W3.cell? (VJ z 0)=some (.pointer hh):=by simp only[World.cell?,hzb];rfl
  have z1:W3.cell? (VJ z 1)=some (.pointer mt):=by simp only[World.cell?,hzb];rfl
  have hz3:=(Z5.1 hzb).1;have iX:¬w.heap.size=z:=VH;have gw:¬w.heap.size+1=z:=VH;have bq:¬p=z:=VH;have ap5:¬p=w.heap.size:=VH;have ce:¬p=K.b:=λe=>HH.o.Uc.bn (by rw[<- e];exact .inr akC);have Rv:w.heap.size+2<=W3.heap.size:=VH;have VM:Hid _:=j_;have wt:Hid _:=hzb;have xL:Hid _:=c13;clear j_ hzb c13 qT pg c2
  cases kk with
  | true=>
   obtain⟨r,Cg,e1,e2,e3,e4⟩:=hkk.o rfl;have hval:Value.agg #[.pointer r.hm,.pointer r.mt]=EX K (K.says m s (some c)):=by rw[<- e2];exact HH.o.ab5 hc (yp.o.2 r Cg).2 e1
   subst e3 e4;have HV:Hid _:=hval;clear hval e1 e2 Cg;go_wp2;have hs3:=H1.o.trans (Step.below H1.o.Ub VM.o);have hfin:=hs3.aside (S:=λk=>k=w.heap.size+1) (((Vt.refl _ (λk=>k=w.heap.size+1)).setCell (VJ (w.heap.size+1) 0) (.pointer r.hm) (λ_=>rfl)).setCell (VJ (w.heap.size+1) 1) (.pointer r.mt) (λ_=>rfl)) (λk e=>⟨VH,λe'=>by have:=HH.o.lt (k:=k) e';omega⟩) (λk hk=>HH.o.J7.lt hk);refine ZQ (RD (z:=w.heap.size+1) results136 (.pointer r.hm) (.pointer r.mt) rfl ?_ ?_) rfl ⟨YV Ending.returned HV.o,K,hfin⟩
   . exact(VD PO).trans (Vr f0)
   . exact Vr aj9
  | false=>
   have Mf:=rJ (H1.o.Ub.below VM.o) (Nat.lt_succ_of_le HH.o.cll) hc s hs;have n_:EX K (K.says {m with looks:=m.looks+1} s (some c))=EX K (K.says m s (some c)):=rfl;rw[n_]at Mf;unfold EX at Mf;obtain⟨va,PA⟩:∃va,va=Vq ((K.says m s (some c)).map (λx=>K.cb x.1)):=Vx;obtain⟨vb,hvb⟩:∃vb,vb=Vq ((K.says m s (some c)).map (·.2)):=Vx;rw[<- PA,<- hvb]at Mf
   have pC:Hid (va=Vq ((K.says m s (some c)).map (λx=>K.cb x.1))/\vb=Vq ((K.says m s (some c)).map (·.2))):=⟨PA,hvb⟩
   clear PA hvb n_;go_wp2_with fail;refine Mf.mono ?_;rintro e W1 ⟨rfl,K4,h4,ev,uE,eL,yk⟩;have hft:∀k,U2 {m with looks:=m.looks+1} K k->k<w.heap.size:=λk e=>HH.o.lt (k:=k) e;have So:=(h4.Ut.block z hz3 (λe=>by have:=hft _ e;omega)).trans wt.o;have Fw:=(h4.Ut.block _ VH (λe=>by have:=hft _ e;omega)).trans xL.o;have yv:∀o,W1.cell? (VJ w.heap.size o)=W3.cell? (VJ w.heap.size o):=λo=>Z9 (a:=(VJ w.heap.size o)) (h4.Ut.block _ ac1 (λe=>by have:=hft _ e;simp only at this;omega));have y0:=(yv 0).trans RC;have y1:=(yv 1).trans RR;have g0:W1.cell? (VJ z 0)=some (.pointer hh):=by simp only[World.cell?,So];rfl
   have g1:W1.cell? (VJ z 1)=some (.pointer mt):=by simp only[World.cell?,So];rfl
   have gf:∀o,W1.frozen? (VJ z o)=false:=λo=>UL.free ⟨_,_,So⟩ o;have Rv:=h4.Ut.size
   have H4:Hid (Step W3 W1 {m with looks:=m.looks+1} K {m with looks:=m.looks+1} K4/\K4.cb=K.cb/\K4.mid=K.mid/\K4.k.L=K.k.L/\K4.k.pm=K.k.pm):=⟨h4,ev,uE,eL,yk⟩
   have eB:Hid (W1.heap[z]?=some (.cells #[.pointer hh,.pointer mt] 62)/\W1.heap[w.heap.size+1]?=some (.cells #[.pointer none,.pointer none] 62)):=⟨So,Fw⟩
   clear h4 hft yv So Fw RC RR f0 f1 ff z0 z1 Mf ev uE eL yk;go_wp2_with fail;obtain⟨W3,hW1⟩:∃W3,W3=(W1.setCell (VJ z 0) (.pointer va)).setCell (VJ z 1) (.pointer vb):=Vx;rw[<- hW1];have hc5:Vt W1 W3 (λk=>k=z):=ajP;have h4:=adN HH.o H1.o KP VM.o hz1 hz3 H4.o.1 hc5;have So:W3.heap[z]?=some (.cells #[.pointer va,.pointer vb] 62):=by rw[hW1];exact set2 eB.o.1
   have Fw:=(hc5.block _ VH gw).trans eB.o.2;have yv:∀o,W3.cell? (VJ w.heap.size o)=W1.cell? (VJ w.heap.size o):=λo=>Z9 (a:=(VJ w.heap.size o)) (hc5.block _ EJ iX);have x0:=(yv 0).trans y0;have x1:=(yv 1).trans y1;have g0:W3.cell? (VJ z 0)=some (.pointer va):=by simp only[World.cell?,So];rfl
   have g1:W3.cell? (VJ z 1)=some (.pointer vb):=by simp only[World.cell?,So];rfl
   have Lz:(p,s)∈K4.k.L:=by rw[H4.o.2.2.2.1];exact hp
   have ij:K4.k.pm p=M:=by rw[H4.o.2.2.2.2];exact yp.o.1
   have Gc:=h4.Ub.Uc.Ru.at_ p s Lz;have Rs:=h4.Ub.Uc.Ru.ok p s Lz;rw[ij]at Gc Rs;rw[Wg.o.2.2]at Gc;have qd:W3.cell? (VJ p 0)=some (.iface T P0):=by simp only[World.cell?,Gc];rfl
   have gL:K4.k.np=K.np:=H4.o.1.np;rw[gL]at Rs;have c2:W3.cell? (VJ K.b 4)=some (VI (K.np:Nat)):=by have:=h4.Ub.hd.c4;rw[h4.b,h4.np]at this;exact this
   have hlr:=aeE M ⟨some (VJ (K.cb c) 0),s,va,vb⟩ K.np W3.drew (Rs.1.keep Ji) Rs.2 Pr;simp only[Wg.o.1,Wg.o.2.1,U1.val]at hlr;have Rv:=hc5.size;have iA:K.b<W3.heap.size:=VH;have tM:p<W3.heap.size:=VH;have rn:z<W3.heap.size:=VH
   have J2:∀q,M.arr=some q->q≠w.heap.size/\q≠z/\q≠K.b/\q≠p/\q≠w.heap.size+1:=λq e=>by
    have h1:=N6.o.2.2 q e;have eR:Td K.k q:=.inr (.inr (.inl ⟨p,s,hp,.inr (by rw[yp.o.1];exact e)⟩));have h1:=HH.o.Uc.lt eR;refine⟨VH,VH,λe'=>HH.o.Uc.bn (by rw[<- e'];exact eR),λe'=>?_,VH⟩;have ha:=HH.o.Uc.Ru.at_ p s hp;obtain⟨cur,V_⟩:=HH.o.Uc.Ru.Qz hp (q:=q) (by rw[yp.o.1];exact e);exact ajt
   have t5:Hid (W3.heap[w.heap.size+1]?=some (.cells #[.pointer none,.pointer none] 62)/\W3.heap[p]?=some (.cells #[(.iface T P0)] 198)/\W3.heap[z]?=some (.cells #[.pointer va,.pointer vb] 62)):=⟨Fw,Gc,So⟩
   have xL:Hid _:=hc5;clear hW1 h4 So Fw yv Gc Rs y0 y1 gf hc5;refine Uy ?_;refine ZT (S:=(λw'=>w'.cell? (VJ w.heap.size 0)=some ((VG (K.cb c)))/\w'.cell? (VJ w.heap.size 1)=some (.string s)/\w'.cell? (VJ z 0)=some (.pointer va)/\w'.cell? (VJ z 1)=some (.pointer vb)/\w'.cell? (VJ K.b 4)=some (VI (K.np:Nat)))) VE UG (λhHeld=>?_);refine pJ ?_;refine agh ?_;refine Uh 8 ?_;refine dX ?_;refine Ur 11 ?_;refine Ul 4 λY_ Z_=>?_;refine Vg ?_;intro hHeld;clear Z_ Y_
   try refine UE ?_
   refine Uh 12 ?_;refine Ur 13 ?_;refine Ul 14 λY_ Z_=>?_;go_simp;refine hlr.mono ?_;rintro e W1 ⟨My,rfl,Rs,EB,LS,Sx⟩;have cD:=(Z9 (a:=(VJ w.heap.size 0)) (Sx.block _ ac1 (λe=>(J2 _ e).1 rfl))).trans x0;have cD:=(Z9 (a:=(VJ w.heap.size 1)) (Sx.block _ ac1 (λe=>(J2 _ e).1 rfl))).trans x1;have g06:=(Z9 (a:=(VJ z 0)) (Sx.block _ rn (λe=>(J2 _ e).2.1 rfl))).trans g0;have g06:=(Z9 (a:=(VJ z 1)) (Sx.block _ rn (λe=>(J2 _ e).2.1 rfl))).trans g1;have c13:=(Z9 (a:=(VJ K.b 4)) (Sx.block _ iA (λe=>(J2 _ e).2.2.1 rfl))).trans c2
   try go_wp2_with fail
   refine Z_.go λhHeld=>?_;clear Z_ Y_
   try refine UE ?_
   have Lz:=(Sx.block p tM (λe=>(J2 _ e).2.2.2.1 rfl)).trans t5.o.2.1;have Fw:=(Sx.block _ (by show w.heap.size+1<W3.heap.size;omega) (λe=>(J2 _ e).2.2.2.2 rfl)).trans t5.o.1;have pM:W1.cell? (VJ p 0)=some (.iface T P0):=by simp only[World.cell?,Lz];rfl
   have pf6:∀o,W1.frozen? (VJ p o)=false:=λo=>UL.free ⟨_,_,Lz⟩ o;have f0:W1.cell? (VJ (w.heap.size+1) 0)=some (.pointer none):=by simp only[World.cell?,Fw];rfl
   have f1:W1.cell? (VJ (w.heap.size+1) 1)=some (.pointer none):=by simp only[World.cell?,Fw];rfl
   have ff:∀o,W1.frozen? (VJ (w.heap.size+1) o)=false:=λo=>UL.free ⟨_,_,Fw⟩ o;have Rv:=Sx.size
   have bL:Hid (My.Ok W1/\Lrn K.np M ⟨some (VJ (K.cb c) 0),s,va,vb⟩ My/\(∀q,My.arr=some q->M.arr=some q\/W3.heap.size<=q)/\Vt W3 W1 (λk=>M.arr=some k)):=⟨Rs,EB,LS,(Vt.refl W3 _).drew.then Sx Qi⟩
   clear Rs EB LS Sx hlr Lz Fw qd x0 x1 g0 g1 c2 J2;obtain⟨tt,vv,hvv⟩:∃t v,My.val=.iface t v:=by cases My<;>exact⟨_,_,rfl⟩
   rw[hvv];have HVV:Hid _:=hvv;clear hvv;refine Uh 15 ?_;refine Ur 16 ?_;refine Ul 17 λY_ Z_=>?_;refine Vg ?_;intro hHeld;clear Z_ Y_;refine Um ?_;go_wp2;obtain⟨Rs,EB,LS,Sx⟩:=bL.o;have hput:=acz (s:=s) (p:=p) (r:=⟨some (VJ (K.cb c) 0),s,va,vb⟩) (mm:=My) HH.o H1.o VH KP VM.o hz1 hz3 H4.o.1 H4.o.2.2.2.1 H4.o.2.2.2.2 xL.o hp (by rw[H4.o.1.np,yp.o.1];exact EB) ⟨rfl,c,hc,by rw[H4.o.2.1],by rw[pC.o.1,H4.o.2.1,H4.o.2.2.1];rfl,by rw[pC.o.2,H4.o.2.2.1];rfl⟩ Rs (by rw[yp.o.1];exact LS) (by rw[yp.o.1];exact Sx) (.pointer va) (.pointer vb);rw[HVV.o]at hput;refine ZQ (RD (z:=w.heap.size+1) results136 (.pointer va) (.pointer vb) rfl ?_ ?_) rfl ⟨?_,hput⟩
   . exact(VD PO).trans (Vr ((VD PO).trans f0))
   . exact Vr ((VD PO).trans aj9)
   . rw[pC.o.1,pC.o.2];rfl
theorem BQ (h:Ud w m K){p:Nat}{s:ByteArray}(hp:(p,s)∈K.k.L)(c:Option Nat)(hc:∀x,c=some x->x<m.kl.length)(hs:s.size<=1000):
 Calls prog 136 #[VG K.b,VG p,.agg #[.pointer (Vq (c.map K.cb)),.string s]] w λe w'=>e=.returned (EX K (K.says m s c))/\∃K',Step w w' m K {m with looks:=m.looks+1} K':=by
 cases c with
 | none=>
  have:=aj h p s;rw[show K.says m s none=none from Ja _ _ _];exact this
 | some c=>
  have hc:=hc c rfl
  cases hmm:K.k.pm p with
  | no=>exact Ef Mm.no 194 184 183 (.agg #[]) rfl rfl rfl rfl E8 E8 FI FI h hp hc hs hmm
  | only=>exact Ef Mm.only 206 187 186 (.agg #[]) rfl rfl rfl rfl E8 E8 FI FI h hp hc hs hmm
  | one o=>exact Ef (Mm.one o) 259 191 190 (o.val) rfl rfl rfl rfl E8 E8 FI FI h hp hc hs hmm
  | many q cap rs=>exact Ef (Mm.many q cap rs) 262 194 193 (.agg #[.slice (some (VJ q 0)) rs.length cap]) rfl rfl rfl rfl E8 E8 FI FI h hp hc hs hmm
def doF (k:Nat):Nat:=match k with
 | 1=>114
 | 2=>115
 | 3=>116
 | 4=>117
 | 5=>118
 | 6=>119
 | 7=>120
 | 8=>121
 | 9=>122
 | 10=>123
 | 11=>124
 | 12=>125
 | 13=>126
 | 14=>127
 | 15=>128
 | 16=>129
 | 17=>130
 | 18=>131
 | 19=>132
 | 20=>133
 | 21=>134
 | _=>135
structure SS (w:World)(b rb:Nat)(top:Option Nat)(depth fuel:Nat):Prop where
 blk:∃cs:Array Value,w.heap[rb]?=some (.cells cs 174)/\cs.size=29
 c0:w.cell? (VJ rb 0)=some (VG b)
 cd:∀k,1<=k->k<23->w.cell? (VJ rb (1+k))=some (.func (.func (doF k)) #[] #[])
 ct:w.cell? (VJ rb 24)=some (.pointer (Vq top))
 cq:w.cell? (VJ rb 25)=some (VI (depth:Nat))
 cf:w.cell? (VJ rb 26)=some (VI (fuel:Nat))
theorem SS.Vb {b rb:Nat}{top:Option Nat}{depth fuel:Nat}(h:SS w b rb top depth fuel):UL w rb:=by
 obtain⟨cs,e,_⟩:=h.blk;exact⟨_,_,e⟩
theorem SS.some {b rb:Nat}{top:Option Nat}{depth fuel:Nat}(h:SS w b rb top depth fuel){o:Nat}(ho:o<29):∃v,w.cell? (VJ rb o)=some v:=by
 exact amg
theorem SS.same {b rb:Nat}{top:Option Nat}{depth fuel:Nat}(h:SS w b rb top depth fuel)(e:w'.heap[rb]?=w.heap[rb]?):SS w' b rb top depth fuel:=by
 have hc:∀o,w'.cell? (VJ rb o)=w.cell? (VJ rb o):=λo=>Z9 e;obtain⟨cs,e1,hz⟩:=h.blk;exact⟨⟨cs,e.trans e1,hz⟩,(hc _).trans h.c0,λk h1 h2=>(hc _).trans (h.cd k h1 h2),(hc _).trans h.ct,(hc _).trans h.cq,(hc _).trans h.cf⟩
theorem run_set {rb:Nat}(h:∃cs:Array Value,w.heap[rb]?=some (.cells cs 174)/\cs.size=29)(o:Nat)(v:Value):∃cs:Array Value,(w.setCell (VJ rb o) v).heap[rb]?=some (.cells cs 174)/\cs.size=29:=by
 exact al3
theorem SS.mW {b rb:Nat}{top:Option Nat}{depth fuel:Nat}(h:SS w b rb top depth fuel)(t:Option Nat):SS (w.setCell (VJ rb 24) (.pointer (Vq t))) b rb t depth fuel:=
 ⟨run_set h.blk _ _,(fo _ _ _ _ VH).trans h.c0,λk h1 h2=>(fo _ _ _ _ VH).trans (h.cd k h1 h2),Vr h.ct,(fo _ _ _ _ VH).trans h.cq,(fo _ _ _ _ VH).trans h.cf⟩
theorem SS.DZ {b rb:Nat}{top:Option Nat}{depth fuel:Nat}(h:SS w b rb top depth fuel)(d:Nat):SS (w.setCell (VJ rb 25) (VI (d:Nat))) b rb top d fuel:=
 ⟨run_set h.blk _ _,(fo _ _ _ _ VH).trans h.c0,λk h1 h2=>(fo _ _ _ _ VH).trans (h.cd k h1 h2),(fo _ _ _ _ VH).trans h.ct,Vr h.cq,(fo _ _ _ _ VH).trans h.cf⟩
theorem SS.afs {b rb:Nat}{top:Option Nat}{depth fuel:Nat}(h:SS w b rb top depth fuel)(d:Nat):SS (w.setCell (VJ rb 26) (VI (d:Nat))) b rb top depth d:=
 ⟨run_set h.blk _ _,(fo _ _ _ _ VH).trans h.c0,λk h1 h2=>(fo _ _ _ _ VH).trans (h.cd k h1 h2),(fo _ _ _ _ VH).trans h.ct,(fo _ _ _ _ VH).trans h.cq,Vr h.cf⟩
structure amH (w:World)(K:Kd)(fb mk:Nat)(f:Fr)(snd:Option Nat):Prop where
 raw:Un w fb (some (VJ mk 0)) (some (VJ (K.cb f.home) 0)) f.self f.args f.pc f.st snd
 yZ:K.k.Mk mk
 ws:(K.k.md mk).ws=f.ws
def Frs (w:World)(K:Kd):List (Nat×Nat)->List Fr->Prop
 | [],[]=>True
 | p::bs,f::fs=>amH w K p.1 p.2 f (bs.head?.map (·.1))/\Frs w K bs fs
 | _,_=>False
variable {K' : Kd}
theorem Frs.same (hcb:∀c,c<m.kl.length->K'.cb c=K.cb c)(Wm:∀k,K.k.Mk k->K'.k.Mk k/\K'.k.md k=K.k.md k):∀(bs:List (Nat×Nat)) (fs:List Fr),(∀f∈fs,f.home<m.kl.length)->Frs w K bs fs->(∀p∈bs,w'.heap[p.1]?=w.heap[p.1]?)->Frs w' K' bs fs
 | [],[],_,_,_=>trivial
 | [],_::_,_,h,_=>h
 | _::_,[],_,h,_=>h
 | p::bs,f::fs,hh,h,he=>by
  refine⟨⟨?_,(Wm _ h.1.yZ).1,by rw[(Wm _ h.1.yZ).2];exact h.1.ws⟩,Frs.same hcb Wm bs fs (λg hg=>hh g fU) h.2 (λq hq=>he q (Zo _ hq))⟩;rw[hcb f.home (hh f Po)];exact h.1.raw.same (he p Po)
structure Sg (Dd:Nat->Prop)(w0:World)(m0:Im)(K0:Kd)(rb:Nat)(w:World)(m:Im)(K:Kd)(fuel:Nat)(bs:List (Nat×Nat))(fs:List Fr):Prop where
 Qj:Step w0 w m0 K0 m K
 run:SS w K.b rb (bs.head?.map (·.1)) fs.length fuel
 LY:Frs w K bs fs
 len:bs.length=fs.length
 nd:(rb::bs.map (·.1)).Nodup
 lo:∀k,k∈rb::bs.map (·.1)->w0.heap.size<=k/\k<w.heap.size/\¬U2 m K k
 ok:U3 m
 homes:∀f∈fs,f.home<m.kl.length
 dead:∀k,Dd k->w0.heap.size<=k/\k<w.heap.size/\¬U2 m K k/\UL w k
variable {Dd : Nat -> Prop}
variable {bs : List (Nat × Nat)}
variable {fs : List Fr}
variable {m' : Im}
theorem Sg.img {rb:Nat}{fuel:Nat}(h:Sg Dd w0 m0 K0 rb w m K fuel bs fs)(hs:Step w w' m K m' K'):Sg Dd w0 m0 K0 rb w' m' K' fuel bs fs:=by
 have hsame:∀k,k∈rb::bs.map (·.1)->w'.heap[k]?=w.heap[k]?:=λk hk=>hs.Ut.block k (h.lo k hk).2.1 (h.lo k hk).2.2;refine⟨h.Qj.trans hs,?_,Frs.same hs.cb hs.md bs fs h.homes h.LY (λp hp=>hsame _ ig),h.len,h.nd,λk hk=>⟨(h.lo k hk).1,ZY (h.lo k hk).2.1 hs.Ut.size,λe=>?_⟩,hs.Ub.ok,λf hf=>ZY (h.homes f hf) hs.len,λk hk=>⟨(h.dead k hk).1,ZY (h.dead k hk).2.1 hs.Ut.size,λe=>?_,(h.dead k hk).2.2.2.same (hs.Ut.block k (h.dead k hk).2.1 (h.dead k hk).2.2.1)⟩⟩
 . rw[hs.b];exact h.run.same (hsame rb Po)
 . rcases hs.foot k e with e|e
   . exact(h.lo k hk).2.2 e
   . have:=(h.lo k hk).2.1;omega
 . rcases hs.foot k e with e|e
   . exact(h.dead k hk).2.2.1 e
   . have:=(h.dead k hk).2.1;omega
theorem Sg.below {rb:Nat}{fuel:Nat}(h:Sg Dd w0 m0 K0 rb w m K fuel bs fs)(hb:Below w.heap.size w w'):Sg Dd w0 m0 K0 rb w' m K fuel bs fs:=h.img (Step.below h.Qj.Ub hb)
theorem Sg.top {rb fb mk:Nat}{fuel:Nat}{f f':Fr}(h:Sg Dd w0 m0 K0 rb w m K fuel ((fb,mk)::bs) (f::fs))(h0:Qv w0)(hch:Vt w w' (λk=>k=fb))
 (hr:Un w' fb (some (VJ mk 0)) (some (VJ (K.cb f.home) 0)) f'.self f'.args f'.pc f'.st (bs.head?.map (·.1))) (hh:f'.home=f.home) (hw:f'.ws=f.ws):Sg Dd w0 m0 K0 rb w' m K fuel ((fb,mk)::bs) (f'::fs):=by
 refine aaV ?_;intro hnd;have hsame:∀k,k∈rb::((fb,mk)::bs).map (·.1)->k≠fb->w'.heap[k]?=w.heap[k]?:=λk hk hne=>hch.block k (h.lo k hk).2.1 hne;have hlo:=h.lo fb Vy;refine⟨h.Qj.aside hch qM DL,?_,⟨⟨by rw[hh];exact hr,h.LY.1.yZ,by rw[hw];exact h.LY.1.ws⟩,?_⟩,h.len,h.nd,λk hk=>aeb,h.ok,λg hg=>?_,λk hk=>⟨(h.dead k hk).1,ZY (h.dead k hk).2.1 hch.size,(h.dead k hk).2.2.1,?_⟩⟩
 . exact h.run.same (hsame rb Vy (λe=>hnd.1.1 e))
 . refine Frs.same (m:=m) Ji iV bs fs (λg hg=>h.homes g fU) h.LY.2 (λp hp=>hsame p.1 ?_ ?_)
   . simp only[Zc,ZM];exact .inr (.inr aoL)
   . exact λe=>hnd.2.1 ac0
 . rcases ZM.1 hg with e|e
   . rw[e,hh];exact h.homes f Po
   . exact h.homes g (Zo _ e)
 . by_cases e:k=fb
   . rw[e];exact hr.Vb
   . exact(h.dead k hk).2.2.2.same ai6
theorem Sg.runs {rb:Nat}{fuel fuel':Nat}(h:Sg Dd w0 m0 K0 rb w m K fuel bs fs)(h0:Qv w0)(hch:Vt w w' (λk=>k=rb))(hr:SS w' K.b rb (bs.head?.map (·.1)) fs.length fuel'):Sg Dd w0 m0 K0 rb w' m K fuel' bs fs:=by
 have hnd:=h.nd;rw[YS]at hnd;have hlo:=h.lo rb Po;refine⟨h.Qj.aside hch qM DL,hr,?_,h.len,h.nd,λk hk=>aeb,h.ok,h.homes,λk hk=>⟨(h.dead k hk).1,ZY (h.dead k hk).2.1 hch.size,(h.dead k hk).2.2.1,?_⟩⟩
 rotate_left
 . exact adp
 exact aor
theorem Sg.aside {rb:Nat}{fuel:Nat}{S:Nat->Prop}(h:Sg Dd w0 m0 K0 rb w m K fuel bs fs)(h0:Qv w0)(hch:Vt w w' S)(hS:∀k,S k->w0.heap.size<=k/\¬U2 m K k/\k ∉ rb::bs.map (·.1)/\¬Dd k):Sg Dd w0 m0 K0 rb w' m K fuel bs fs:=by
 have hsame:∀k,k∈rb::bs.map (·.1)->w'.heap[k]?=w.heap[k]?:=λk hk=>hch.block k (h.lo k hk).2.1 (λe=>(hS k e).2.2.1 hk);exact⟨h.Qj.aside hch (λk e=>⟨(hS k e).1,(hS k e).2.1⟩) DL,h.run.same (hsame rb Po),Frs.same (m:=m) Ji iV bs fs h.homes h.LY (λp hp=>hsame _ ig),h.len,h.nd,λk hk=>aeb,h.ok,h.homes,λk hk=>⟨(h.dead k hk).1,ZY (h.dead k hk).2.1 hch.size,(h.dead k hk).2.2.1,(h.dead k hk).2.2.2.same (hch.block k (h.dead k hk).2.1 (λe=>(hS k e).2.2.2 hk))⟩⟩
def TV (Dd:Nat->Prop)(w0:World)(m0:Im)(K0:Kd)(rb:Nat)(g:SN)(e:Ending)(w':World):Prop:=match g with
 | .on m fuel fs=>e=.returned (.tuple #[])/\∃K bs,Sg Dd w0 m0 K0 rb w' m K fuel bs fs
 | .told m v=>e=.returned (.tuple #[])/\∃K,Step w0 w' m0 K0 m K/\UL w' rb/\w'.cell? (VJ rb 24)=some (.pointer none)/\w'.cell? (VJ rb 27)=some (.bool v.obj)/\w'.cell? (VJ rb 28)=some (VI v.n)
 | .stop m n=>e=.panicked (Jc n)/\∃K,Step w0 w' m0 K0 m K
theorem Sg.look {Dd Df:Nat->Prop}{rb:Nat}{fuel:Nat}(h:Sg Dd w0 m0 K0 rb w m K fuel bs fs)(hd:∀k,Df k->w0.heap.size<=k/\k<w.heap.size/\¬U2 m K k/\UL w k):Sg Df w0 m0 K0 rb w m K fuel bs fs:=⟨h.Qj,h.run,h.LY,h.len,h.nd,h.lo,h.ok,h.homes,hd⟩
theorem FD (w:World):Calls prog 90 #[] w λe w'=>e=.returned (VG w.heap.size)/\w'=w.alloc (.cells #[Mm.only.val] 198):=by
 go_enter func90,ntmps90;go_wp2
 go_ret
 exact KP
theorem afR {b rb:Nat}{top:Option Nat}{depth:Nat}(h:SS w b rb top depth 0):Calls prog 137 #[VG rb] w λe w'=>e=.panicked (Jc 2)/\w'=w:=by
 have cf:=h.cf;clear h;simp only[Int.natCast_zero]at cf;go_enter func137,ntmps137;go_wp2;exact vg
theorem agA {b rb:Nat}{top:Option Nat}{depth fuel:Nat}(h:SS w b rb top depth (fuel+1))(hf:fuel<=3000):Calls prog 137 #[VG rb] w λe w'=>e=.returned (.tuple #[])/\w'=w.setCell (VJ rb 26) (VI (fuel:Nat)):=by
 have cf:=h.cf;have fz:=λo=>h.Vb.free o;simp only[XK,WS]at cf;clear h;go_enter func137,ntmps137;go_wp2
 go_end0
 exact KP
variable {f : Fr}
theorem Sg.pop {rb fb mk:Nat}{fuel:Nat}(h:Sg Dd w0 m0 K0 rb w m K fuel ((fb,mk)::bs) (f::fs))(h0:Qv w0)(hch:Vt w w' (λk=>k=rb))(hr:SS w' K.b rb (bs.head?.map (·.1)) fs.length fuel):Sg Dd w0 m0 K0 rb w' m K fuel bs fs:=by
 refine aaV ?_;intro hnd;have hlo:=h.lo rb Po
 have hin:∀k,k∈rb::bs.map (·.1)->k∈rb::((fb,mk)::bs).map (·.1):=λk hk=>by
  rcases ZM.1 hk with e|e
  . rw[e];exact XZ ..
  . simp only[Zc,ZM];exact .inr (.inr e)
 refine⟨h.Qj.aside hch qM DL,hr,?_,by have:=h.len;simp at this;exact this,?_,λk hk=>⟨(h.lo k (hin k hk)).1,ZY (h.lo k (hin k hk)).2.1 hch.size,(h.lo k (hin k hk)).2.2⟩,h.ok,λg hg=>h.homes g fU,λk hk=>⟨(h.dead k hk).1,ZY (h.dead k hk).2.1 hch.size,(h.dead k hk).2.2.1,?_⟩⟩
 . refine Frs.same (m:=m) Ji iV bs fs (λg hg=>h.homes g fU) h.LY.2 (λp hp=>hch.block p.1 (h.lo p.1 (hin _ ig)).2.1 (λe=>hnd.1.2 ac0))
 . rw[YS];exact⟨hnd.1.2,hnd.2.2⟩
 . exact adp
theorem sS {rb fb mk:Nat}{fuel:Nat}(h:Sg Dd w0 m0 K0 rb w m K fuel ((fb,mk)::bs) (f::fs))(h0:Qv w0)(v:Vl)(C':fs.length<=32)(hroom:∀g gs,fs=g::gs->g.st.length<16):
 Calls prog 138 #[VG rb,v.val] w (TV Dd w0 m0 K0 rb (QJ m fuel v fs)):=by
 obtain⟨W1,hW1⟩:∃W1,W1=w.alloc (.cells #[.bool v.obj,VI v.n] 33):=Vx;have hrl:=(h.lo rb Vy).2.1;have hfl:=(h.lo fb Vy).2.1;have ct:=h.run.ct;have cq:=h.run.cq;simp only[XP,ZG,Vq,ZI,XK,WS]at ct cq;have cn:=h.LY.1.raw.cn;have pu:=λo=>h.run.Vb.free o;have t7:(fs.length:Int)<=32:=VH;have HS:Hid _:=h;clear h;unfold Vl.val;go_enter func138,ntmps138
 cases fs with
 | nil=>
  have hbs:bs=[]:=by
   have:=HS.o.len;simp at this;exact this
  subst hbs;simp only[List.head?_nil,Zm,Vq,YJ,Int.natCast_zero,Int.zero_add]at cn cq;obtain⟨o1,t27⟩:=HS.o.run.some (o:=27) VH;obtain⟨o1,t28⟩:=HS.o.run.some (o:=28) VH;go_wp2;have hlo:=HS.o.lo rb Vy;refine yM ?_;obtain⟨X,hX⟩:∃X,X=(((w.setCell (VJ rb 24) (.pointer none)).setCell (VJ rb 25) (VI 0)).setCell (VJ rb 27) (.bool v.obj)).setCell (VJ rb 28) (VI v.n):=Vx;rw[<- hX];have G0:X.heap.size=w.heap.size:=by rw[hX];simp[World.setCell]
  have hce:∀o,(X.alloc (.cells #[.bool v.obj,VI v.n] 33)).cell? (VJ rb o)=X.cell? (VJ rb o):=λo=>Z9 (a:=(VJ rb o)) (ZV _ _ _ (by show rb<X.heap.size;omega));refine⟨rfl,K,HS.o.Qj.aside (S:=λk=>k=rb) ?_ qM DL,?_,(hce _).trans ?_,(hce _).trans ?_,(hce _).trans ?_⟩
  . rw[hX];exact(((((Vt.refl w (λk=>k=rb)).setCell _ _ (λ_=>rfl)).setCell _ _ (λ_=>rfl)).setCell _ _ (λ_=>rfl)).setCell _ _ (λ_=>rfl)).alloc _
  . have:UL X rb:=by rw[hX];exact(((HS.o.run.Vb.setCell _ _).setCell _ _).setCell _ _).setCell _ _
    exact this.same (ZV _ _ _ VH)
  . rw[hX,fo _ _ _ _ VH,fo _ _ _ _ VH,fo _ _ _ _ VH];exact Vr ct
  . rw[hX,fo _ _ _ _ VH];exact Vr (((fo _ _ _ _ VH).trans agc).trans t27)
  . rw[hX];exact Vr ((((fo _ _ _ _ VH).trans agc).trans agc).trans t28)
 | cons g gs=>
  cases bs with
  | nil=>exact absurd HS.o.len Vy
  | cons q bs=>
   obtain⟨gb,gm⟩:=q;simp only[XP,ZG,Vq]at cn;have aqg:(gs.length:Int)<=31:=by simp at t7;omega
   simp only[ZI,XK,WS]at cq;have Cg:=hroom g gs rfl;clear hroom C' t7;go_wp2_with fail;obtain⟨W1,hW1⟩:∃W1,W1=((w.setCell (VJ rb 24) (VG gb)).setCell (VJ rb 25) (VI ((gs.length:Int)+1))).alloc (.cells #[.bool v.obj,VI v.n] 33):=Vx;rw[<- hW1];have hz:((w.setCell (VJ rb 24) (VG gb)).setCell (VJ rb 25) (VI ((gs.length:Int)+1))).heap.size=w.heap.size:=zb4
   have h2:Sg Dd w0 m0 K0 rb W1 m K fuel ((gb,gm)::bs) (g::gs):=by
    rw[hW1];refine Sg.below (HS.o.pop h0 (((Vt.refl w (λk=>k=rb)).setCell _ _ (λ_=>rfl)).setCell _ _ (λ_=>rfl)) ?_) zt7;have:=(HS.o.run.mW (some gb)).DZ (gs.length+1);simpa[Vq]using this
   have hblk:W1.heap[w.heap.size]?=some (.cells #[.bool v.obj,VI v.n] 33):=by
    rw[hW1,<- hz];exact(Z4 _ _).1
   have v0:W1.cell? (VJ w.heap.size 0)=some (.bool v.obj):=by simp only[World.cell?,hblk];rfl
   have v1:W1.cell? (VJ w.heap.size 1)=some (VI v.n):=by simp only[World.cell?,hblk];rfl
   have XS:=h2.run.ct;simp only[XP,ZG,Vq]at XS;have p_:=RX (w:=W1.drew) (h2.LY.1.raw.same rfl) Cg v;unfold Vl.val at p_;have hl2:=(Z5.1 hblk).1;have S6:=(h2.lo rb Vy).2.1;have hgb:rb≠gb:=λe=>by have:=h2.nd;simp[e]at this
   have pe:w.heap.size≠gb:=λe=>by have:=(HS.o.lo gb Vy).2.1;omega
   have H2:Hid _:=h2;clear hW1 hz h2 hblk cq ct cn;refine Uy ?_;refine ZT (S:=(λw'=>w'.cell? (VJ w.heap.size 0)=some (.bool v.obj)/\w'.cell? (VJ w.heap.size 1)=some (VI v.n)/\w'.cell? (VJ rb 24)=some (VG gb))) VE UG (λhHeld=>?_);refine pJ ?_;refine FC ?_;intro Y_ Z_;refine CV ?_;rintro e w3 ⟨rfl,hf3,hc3⟩;have v0:=(Z9 (a:=(VJ w.heap.size 0)) (hc3.block _ hl2 pe)).trans v0;have v0:=(Z9 (a:=(VJ w.heap.size 1)) (hc3.block _ hl2 pe)).trans v1;have XS:=(Z9 (a:=(VJ rb 24)) (hc3.block _ S6 hgb)).trans XS
   try go_wp2_with fail
   refine Z_.go λhHeld=>?_;clear Z_ Y_;refine Um ?_
   go_end0
   refine⟨rfl,K,(gb,gm)::bs,?_⟩;exact H2.o.top (f':={g with st:=v::g.st}) h0 qX hf3 rfl rfl
theorem zI {av:Value}{args:List Vl}{ab nb:Nat}{cur:Array Value}{t:TypeId}(h:UH w av args ab)(h3:args.length<=3)(hg:w.heap[nb]?=some (.cells cur t))(hz:10<=cur.size)(ty:TypeId):
 (Builtin.copy_ #[34,34] ty #[.slice (some (VJ nb 4)) 3 3,av]).run prog w=.ok (VI (args.length:Nat)) (w.setRow nb (cur.toList.take 4++vcs args++cur.toList.drop (4+(vcs args).length)).toArray):=by
 obtain⟨i0,hi,_,h1,_⟩:=YQ Ho;obtain⟨ap,cap,rfl,hx⟩:=h;have hmin:Nat.min args.length 3=args.length:=XT h3;have hvl:=Kr args
 by_cases hne:args=[]
 . subst hne;have UI:=setRow_self w nb cur t (0,0) hg;have e0:(cur.toList.take 4++vcs []++cur.toList.drop (4+(vcs []).length)).toArray=cur:=by simp[vcs]
   rw[e0,UI]
   cases ap with
   | none=>simp[Builtin.copy_,Zu underlying34,Builtin.lenOf,Builtin.firstCells,Go.sizeOf,typeInfo,hi,h1,storeCells,goInt]
   | some a=>simp[Builtin.copy_,Zu underlying34,Builtin.lenOf,Builtin.firstCells,Go.sizeOf,typeInfo,hi,h1,storeCells,goInt,loadCells,loadCellsFrom]
 . obtain⟨ad,rfl,_,hsrc⟩:=hx hne;have hl:=run_loadCells_list (P:=prog) w ad (vcs args) hsrc;have hst:=Wv prog nb 4 t (vcs args) 0 cur w hg (by rw[hvl];omega) (afZ _);rw[hvl]at hl;rw[Yt]at hst;simp[Builtin.copy_,Zu underlying34,Builtin.lenOf,Builtin.firstCells,Go.sizeOf,typeInfo,hi,h1,goInt,hl,hst,hmin]
theorem F5 {nb:Nat}{mp kp:Option Addr}{sf:Vl}{args:List Vl}{snd:Option Nat}{cur:Array Value}(h3:args.length<=3)(hg:w.heap[nb]?=some (.cells cur 212))(hz:cur.size=45)
 (h0:cur[0]?=some (.pointer mp)) (h1:cur[1]?=some (.pointer kp)) (h2:cur[2]?=some (.bool sf.obj)) (h3':cur[3]?=some (VI sf.n)) (h10:cur[10]?=some (VI 0)) (h43:cur[43]?=some (VI 0)) (h44:cur[44]?=some (.pointer (Vq snd))):
 Un (w.setRow nb (cur.toList.take 4++vcs args++cur.toList.drop (4+(vcs args).length)).toArray) nb mp kp sf args 0 [] snd:=by
 have hb:=VP w nb cur (cur.toList.take 4++vcs args++cur.toList.drop (4+(vcs args).length)).toArray 212 _ hg;have hvl:=Kr args;have hl4:(cur.toList.take 4).length=4:=by simp[hz]
 have lo:∀o,o<4->(w.setRow nb (cur.toList.take 4++vcs args++cur.toList.drop (4+(vcs args).length)).toArray).cell? (VJ nb o)=cur[o]?:=λo ho=>by
  simp only[World.cell?,hb,YF];rw[Y1,ZH VH,Zl ho,Zf];rfl
 have mid:∀o,o<(vcs args).length->(w.setRow nb (cur.toList.take 4++vcs args++cur.toList.drop (4+(vcs args).length)).toArray).cell? (VJ nb (4+o))=(vcs args)[o]?:=λo ho=>by
  simp only[World.cell?,hb,YF];rw[Y1,ZP VH,ZH VH,hl4,Nat.add_sub_cancel_left];rfl
 have hi:∀o,4+(vcs args).length<=o->(w.setRow nb (cur.toList.take 4++vcs args++cur.toList.drop (4+(vcs args).length)).toArray).cell? (VJ nb o)=cur[o]?:=λo ho=>by
  simp only[World.cell?,hb,YF];rw[ZP (by simp only[Zw,hl4];omega),Zn,Zw,hl4,show 4+(vcs args).length+(o-(4+(vcs args).length))=o from VH,Zf];rfl
 refine⟨⟨_,hb,?_⟩,(lo 0 VH).trans h0,(lo 1 VH).trans h1,(lo 2 VH).trans h2,(lo 3 VH).trans h3',λi v hv=>?_,h3,(hi 10 VH).trans h10,λi v hv=>(by cases hv),Vy,(hi 43 VH).trans h43,(hi 44 VH).trans h44⟩
 . simp only[Xe,Zw,hl4,Zh,Xt,hz];omega
 . have hlt:=(Z7.1 hv).1;obtain⟨e1,e2⟩:=PV args i v hv;exact⟨(mid (i*2) VH).trans e1,(mid (i*2+1) VH).trans e2⟩
theorem Sg.push {rb nb mk:Nat}{fuel:Nat}(h:Sg Dd w0 m0 K0 rb w m K fuel bs fs)(h0:Qv w0)(hch:Vt w w' (λk=>k=rb))(hr:SS w' K.b rb (some nb) (fs.length+1) fuel)(hn:w.heap.size<=nb)
 (hf:amH w' K nb mk f (bs.head?.map (·.1))) (hh:f.home<m.kl.length):Sg Dd w0 m0 K0 rb w' m K fuel ((nb,mk)::bs) (f::fs):=by
 have hnd:=h.nd;rw[YS]at hnd;have hlo:=h.lo rb Po;have hst:=h.Qj.aside hch qM DL;have hnb:nb ∉ rb::bs.map (·.1):=λe=>by have:=(h.lo nb e).2.1;omega
 refine⟨hst,hr,⟨hf,?_⟩,by simp[h.len],?_,λk hk=>?_,h.ok,λg hg=>?_,λk hk=>⟨(h.dead k hk).1,ZY (h.dead k hk).2.1 hch.size,(h.dead k hk).2.2.1,?_⟩⟩
 rotate_right
 . exact adp
 . exact aor
 . simp only[Zc,YS,ZM,not_or]at hnb ⊢;exact⟨⟨λe=>hnb.1 e.symm,hnd.1⟩,hnb.2,hnd.2⟩
 . have key:k=nb\/k∈rb::bs.map (·.1):=by
    simp only[Zc,ZM]at hk ⊢;rcases hk with e|e|e
    . exact .inr (.inl e)
    . exact .inl e
    . exact .inr (.inr e)
   rcases key with e|e
   . subst e;exact⟨VH,hf.raw.Vb.lt,λe=>by have:=h.Qj.Ub.lt e;omega⟩
   . exact⟨(h.lo k e).1,ZY (h.lo k e).2.1 hch.size,(h.lo k e).2.2⟩
 . rcases ZM.1 hg with e|e
   . rw[e];exact hh
   . exact h.homes g e
def aa1 (Dd:Nat->Prop)(w0:World)(m0:Im)(K0:Kd)(rb:Nat)(g:SN)(w:World)(m:Im)(K:Kd)(e:Ending)(w':World):Prop:=TV Dd w0 m0 K0 rb g e w'/\(e=.returned (.tuple #[])->∀k,k<w.heap.size->¬U2 m K k->k≠rb->w'.heap[k]?=w.heap[k]?)
theorem Ud.findEq (h:Ud w m K)(s:ByteArray)(c:Option Nat):m.find s c=(K.says m s c).map (λx=>(x.1,(K.k.md x.2).ws)):=by
 unfold Kd.says;rw[Jf,show (λc=>m.own c s)=(λc=>(K.mid c s).map (λk=>(K.k.md k).ws)) from funext λc=>h.own c s,yR]
theorem Ud.aiA (h:Ud w m K){s:ByteArray}{c:Option Nat}(hc:∀x,c=some x->x<m.kl.length){d mk:Nat}(e:K.says m s c=some (d,mk)):d<m.kl.length/\K.k.Mk mk:=by
 cases c with
 | none=>unfold Kd.says at e;rw[Ja]at e;cases e
 | some c=>
  obtain⟨h1,h2⟩:=PI _ _ _ _ e;exact⟨fH h.ok h1 (hc c rfl),h.yZ d s mk h2⟩
theorem Dc (nb:Nat)(w:World):(Instr.sliceAt 209 (.pointer (some (VJ nb 4))) none none none).run prog w=.ok (.slice (some (VJ nb 4)) 3 3) w:=by
 obtain⟨i0,hi,_,hs,_⟩:=YQ Ho;simp[Instr.sliceAt,Instr.sureAddr,Instr.sliceBounds,Instr.sliceBound,Zu underlying209,Go.sizeOf,typeInfo,hi,hs,Addr.add,asIntOf]
theorem kK {rb:Nat}{fuel:Nat}(h:Sg Dd w0 m0 K0 rb w m K fuel bs fs)(h0:Qv w0){p:Nat}{s:ByteArray}(hp:(p,s)∈K.k.L)(C_:Option Nat)(Wr:∀x,C_=some x->x<m.kl.length)(hs:s.size<=1000)
 (to:Vl) {av:Value}{args:List Vl}{ab:Nat} (W8:UH w av args ab) (hab:args≠[]->ab<w.heap.size/\ab≠rb/\¬U2 m K ab) (h3:args.length<=3) (C':fs.length<=32) {d mk:Nat} (n_:K.says m s C_=some (d,mk)):
 Calls prog 89 #[VG rb,VG p,.agg #[.pointer (Vq (C_.map K.cb)),.string s],to.val,av] w (aa1 Dd w0 m0 K0 rb (m.send fuel C_ to s args fs) w m K):=by
 obtain⟨W1,hW1⟩:∃W1,W1=(w.alloc (.cells #[.pointer (Vq (C_.map K.cb)),.string s] 59)).alloc (.cells #[.bool to.obj,VI to.n] 33):=Vx;refine amA ?_;intro hB1 Rv b0 b1 q0 q1 h1 M8 Pe
 have LR:∀W,Below W1.heap.size W1 W->Calls prog 136 #[VG K.b,VG p,.agg #[.pointer (Vq (C_.map K.cb)),.string s]] W λe w'=>e=.returned (.agg #[VG (K.cb d),VG mk])/\∃K',Step W w' m K {m with looks:=m.looks+1} K':=λW hW=>by
  have:=BQ (h1.below hW).Qj.Ub hp C_ Wr hs;rw[n_]at this;exact this
 refine ajj ?_;intro hBa hBb HH H1 Nd;obtain⟨ap,gD,T8,_⟩:=W8;subst T8;refine aiS ?_;intro SM Ca;clear h h1 hB1 b0 b1;unfold Vl.val;go_enter func89,ntmps89;go_wp2_with fail;rw[<- hW1];clear hW1;refine Uy ?_;refine aju ?_;intro hHeld;refine IC ?_;refine Zv (rs:=[6,7]) VE Vy ?_;refine(ZO (o:=_) rfl (λY_ Z_=>?_) (ZO (o:=_) rfl (λY_ Z_=>?_) ZA))
 case' refine_2=>
  refine Vg ?_;intro hHeld;clear Z_ Y_;refine amc ?_;intro Y_ Z_ w2 K1 hst h1 hfw hbk RC RR M8
  try go_wp2_with fail
  refine Z_.go λhHeld=>?_;clear Z_ Y_;refine ajL ?_;intro LO u0 u1 uf Z1 Te;refine BJ ?_;intro hHeld;refine Um ?_;obtain⟨W3,hW1⟩:∃W3,W3=(w2.setCell (VJ W1.heap.size 0) ((VG (K.cb d)))).setCell (VJ W1.heap.size 1) (VG mk):=Vx;obtain⟨z,hzz⟩:∃z,z=W1.heap.size:=Vx;rw[<- hW1,<- hzz];have hzb:W3.heap[z]?=some (.cells #[VG (K.cb d),VG mk] 62):=abJ;refine al5 ?_;intro hz1 hc3 hz2 Rp H3 KS M3;clear hzz hW1 LO u0 u1 uf Z1 Te RC RR M8 hst h1 hfw hbk hc3 hz2 Rp
 case' refine_1=>
  refine anN ?_;intro w2 K1 hst h1 hfw hbk RC RR M8
  try go_wp2_with fail
  refine Z_.go λhHeld=>?_;clear Z_ Y_
  try refine UE ?_
  have hs2:W1.heap.size<=w2.heap.size:=hst.Ut.size;refine Ul 7 λY_ Z_=>?_;refine Vg ?_;intro hHeld;clear Z_ Y_
  try refine UE ?_
  refine BJ ?_;intro hHeld;refine Um ?_;obtain⟨W3,hW1⟩:∃W3,W3=w2.alloc (.cells #[VG (K.cb d),VG mk] 62):=Vx;obtain⟨z,hzz⟩:∃z,z=w2.heap.size:=Vx;rw[<- hW1,<- hzz];have hzb:W3.heap[z]?=some (.cells #[VG (K.cb d),VG mk] 62):=jv;refine ahF ?_;intro hz1 hb3 H3 KS M3;clear hzz hW1 RC RR M8 hst h1 hfw hbk hb3 hs2
 all_goals
  have hfw:∀k,U2 m K k->k<w.heap.size:=λk e=>HH.o.Qj.Ub.lt e;have X_:=(KS.o _ VH jl).trans Ca.o.2;have z0:W3.cell? (VJ z 0)=some ((VG (K.cb d))):=by simp only[World.cell?,hzb];rfl
  have z1:W3.cell? (VJ z 1)=some (VG mk):=by simp only[World.cell?,hzb];rfl
  have t0:W3.cell? (VJ (w.heap.size+1) 0)=some (.bool to.obj):=by simp only[World.cell?,X_];rfl
  have t1:W3.cell? (VJ (w.heap.size+1) 1)=some (VI to.n):=by simp only[World.cell?,X_];rfl
  have cq:=H3.o.run.cq;have pu:∀o,W3.frozen? (VJ rb o)=false:=λo=>H3.o.run.Vb.free o;have t9:=H3.o.run.Vb.lt;have M5:=(Z5.1 hzb).1;have MT:=(Z5.1 X_).1;have e1:¬z=rb:=VH;have e3:¬w.heap.size+1=rb:=VH;clear hfw X_ hzb LR hBa hBb;by_cases hd:fs.length=32
  . rw[hd]at cq;go_wp2
    have hsend:m.send fuel C_ to s args fs=.stop {m with looks:=m.looks+1} 4:=by
     unfold Im.send;rw[HH.o.Qj.Ub.findEq,n_];simp[hd]
    rw[hsend];exact⟨rfl,⟨rfl,K1,H3.o.Qj⟩,λe=>EO⟩
  . have hd':¬((fs.length:Int)=32):=by omega
    have hd2:(fs.length:Int)<=31:=VH;go_wp2_with fail;obtain⟨W1,hW1⟩:∃W1,W1=W3.setCell (VJ rb 25) (VI ((fs.length:Int)+1)):=Vx;rw[<- hW1];have hz1:W1.heap.size<=W3.heap.size:=abp;have r6:W3.heap.size<=W1.heap.size:=abp;have hb3:∀k,k<W3.heap.size->k≠rb->W1.heap[k]?=W3.heap[k]?:=λk _ e=>by rw[hW1];exact ZW _ _ _ _ e
    refine ajG ?_;intro y0 y1 x0 x1
    have hr4:SS W1 K1.b rb (bs.head?.map (·.1)) (fs.length+1) fuel:=by
     have:=H3.o.run.DZ (fs.length+1);rw[hW1];simpa using this
    have S4:=hr4.ct;have bN:Hid _:=hr4
    have py:Hid (Vt W3 W1 (λk=>k=rb)):=by
     have hx:Vt W3 W1 (λk=>k=rb):=by rw[hW1];exact(Vt.refl _ (λk=>k=rb)).setCell _ _ (λ_=>rfl)
     exact hx
    have t9:rb<W1.heap.size:=VH;clear hr4 hW1 z0 z1 t0 t1 cq pu hb3;refine Uy ?_;refine ZT (S:=(λw'=>w'.cell? (VJ z 0)=some ((VG (K.cb d)))/\w'.cell? (VJ z 1)=some (VG mk)/\w'.cell? (VJ (w.heap.size+1) 0)=some (.bool to.obj)/\w'.cell? (VJ (w.heap.size+1) 1)=some (VI to.n)/\w'.cell? (VJ rb 24)=some (.pointer (Vq (bs.head?.map (·.1)))))) VE UG (λhHeld=>?_);refine FU ?_;refine Fe ?_;intro hHeld;refine La ?_;refine Nr ?_;obtain⟨cur,V_⟩:∃cur:Array Value,cur=#[VG mk,VG (K.cb d),.bool to.obj,VI to.n,.bool false,VI 0,.bool false,VI 0,.bool false,VI 0,VI 0,.bool false,VI 0,.bool false,VI 0,.bool false,VI 0,.bool false,VI 0,.bool false,VI 0,.bool false,VI 0,.bool false,VI 0,.bool false,VI 0,.bool false,VI 0,.bool false,VI 0,.bool false,VI 0,.bool false,VI 0,.bool false,VI 0,.bool false,VI 0,.bool false,VI 0,.bool false,VI 0,VI 0,.pointer (Vq (bs.head?.map (·.1)))]:=Vx;obtain⟨W5,hW1⟩:∃W5,W5=(W1.alloc (.cells cur 212)).drew:=Vx;obtain⟨nb,hnb⟩:∃nb,nb=W1.heap.size:=Vx;rw[<- V_,<- hW1,<- hnb];have hB1:Below W1.heap.size W1 W5:=by rw[hW1];exact((ZR _ _).alloc UM _).drew
    have Mq:W5.heap[nb]?=some (.cells cur 212):=by rw[hW1,hnb];exact(Z4 _ _).1
    have T8:=Nd.o.1.same (λhn=>by
     obtain⟨a1,a2,a3⟩:=Nd.o.2 hn;rw[hB1.block ab VH,py.o.block ab VH a2,KS.o ab VH a3]
     exact SM.o.block ab a1)
    have Gb:=λty=>zI T8 h3 Mq (by rw[V_];show 10<=45;omega) ty;have hsl:=Dc nb W5;obtain⟨W6,Fk⟩:∃W6,W6=W5.setRow nb (cur.toList.take 4++vcs args++cur.toList.drop (4+(vcs args).length)).toArray:=Vx;rw[<- Fk]at Gb
    have IP:Un W6 nb (some (VJ mk 0)) (some (VJ (K.cb d) 0)) to args 0 [] (bs.head?.map (·.1)):=by
     rw[Fk];exact F5 h3 Mq Pq Pq Pq Pq Pq Pq Pq Pq
    have hb3:∀k,k≠nb->W6.heap[k]?=W5.heap[k]?:=λk e=>by rw[Fk];simp[World.setRow,Zz,VL e]
    have hc3:Vt W5 W6 (λk=>k=nb):=by rw[Fk]at hb3 ⊢;exact⟨rfl,rfl,rfl,agL,λk _ e=>hb3 k e⟩
    have Hk:=(hb3 rb VH).trans (hB1.block rb t9);have hr4:=bN.o.same Hk;have dz:=hr4.ct;have aR:∀o,W6.frozen? (VJ rb o)=false:=λo=>hr4.Vb.free o
    have vr:Hid (Un W6 nb (some (VJ mk 0)) (some (VJ (K.cb d) 0)) to args 0 [] (bs.head?.map (·.1))/\SS W6 K1.b rb (bs.head?.map (·.1)) (fs.length+1) fuel):=⟨IP,hr4⟩
    have uC:Hid (Vt W3 W6 (λk=>k=rb)):=by
     have hx:=(py.o.then aci Js).then hc3 aK;exact hx
    have xV:W3.heap.size<=nb:=VH;clear hc3 IP hr4 Hk hb3 Fk T8 V_ hW1 hB1 y0 y1 x0 x1 S4;have j4:nb<=W1.heap.size:=VH;clear hnb;go_wp2
    have hsend:m.send fuel C_ to s args fs=.on {m with looks:=m.looks+1} fuel (⟨(K.k.md mk).ws,d,to,args,0,[]⟩::fs):=by
     unfold Im.send;rw[HH.o.Qj.Ub.findEq,n_];have:¬32<=fs.length:=VH;simp[this]
    rw[hsend];obtain⟨BS,hmk⟩:=HH.o.Qj.Ub.aiA Wr n_;have hk1:=M3.o
    go_end0
    refine⟨⟨rfl,K1,(nb,mk)::bs,H3.o.push h0 (uC.o.setCell _ _ (λ_=>rfl)) (vr.o.2.mW (some nb)) xV ⟨?_,(hk1.2.2 mk hmk).1,by rw[(hk1.2.2 mk hmk).2]⟩ BS⟩,λ_ k hk hf hr=>(ZW _ _ _ _ hr).trans ((uC.o.block k VH hr).trans ((KS.o k VH hf).trans (SM.o.block k hk)))⟩;rw[hk1.2.1 d BS];exact vr.o.1.same (ZW _ _ _ _ (by show nb≠rb;omega))
def Tv (k:Nat):Value:=.func (.func (doF k)) #[] #[]
def doZ:Array Value:=Array.replicate 23 .nilFunc
def QA:Array Value:=#[.nilFunc,Tv 1,Tv 2,Tv 3,Tv 4,Tv 5,Tv 6,Tv 7,Tv 8,Tv 9,Tv 10,Tv 11,Tv 12,Tv 13,Tv 14,Tv 15,Tv 16,Tv 17,Tv 18,Tv 19,Tv 20,Tv 21,Tv 22]
theorem abI (w:World)(a:Act)(o:Oper)(ho:o.op=Op.alloc 170):(execOp a.eval o).run prog w=.ok (.value (VG w.heap.size)) (w.alloc (.cells doZ 170)):=by
 simp only[execOp,ho];kernel_rfl
theorem iG:(prog.info? 170).map (·.size)=some QA.size:=VE
theorem alM:prog.underlying 170=some (.array 23 169):=VE
theorem acF (w:World)(o:Oper)(ho:o.op=Op.store 170 (Operand.tmp 0) (Operand.tmp 1)):(execOp ({tmps:=#[VG w.heap.size,.agg QA],defers:=[]}:Act).eval o).run prog (w.alloc (.cells doZ 170))=.ok .skip (w.alloc (.cells QA 170)):=by
 have:=run_storeAt_new (P:=prog) w 170 doZ QA iG (by rfl) VE;simp only[execOp,ho];simp[Act.eval,this]
theorem aj0 (w:World):(results f88 #[VG w.heap.size,.agg QA]).run prog (w.alloc (.cells QA 170))=.ok (.agg QA) (w.alloc (.cells QA 170)):=by
 have:=run_loadVar_new (P:=prog) w 170 QA 23 169 alM iG;simp[results,results88,this,asAddr]
theorem jA (w:World):Calls prog 88 #[] w λe w'=>e=.returned (.agg QA)/\w'=w.alloc (.cells QA 170):=by
 go_enter func88,ntmps88;refine wp_seq (wp_region_list (Xm (λK hK=>?_)));rw[ZU VE];refine Pn (abI _ _ _ rfl) ?_;refine hK _ _ (wpList_nil ?_);refine wp_seq (wp_region_list (Xm (λK hK=>?_)));rw[ZU VE];refine Pn (r':=.ok (.value (.agg QA)) (w.alloc (.cells doZ 170))) VE ?_;refine hK _ _ (Xm (λK hK=>?_));rw[ZU VE];refine Pn (acF w _ rfl) ?_;refine hK _ _ (wpList_nil ?_);refine wp_ret ?_;exact ZQ (aj0 w) rfl KP
def Fp (b:Nat)(fuel:Nat):Array Value:=#[VG b,.nilFunc,Tv 1,Tv 2,Tv 3,Tv 4,Tv 5,Tv 6,Tv 7,Tv 8,Tv 9,Tv 10,Tv 11,Tv 12,Tv 13,Tv 14,Tv 15,Tv 16,Tv 17,Tv 18,Tv 19,Tv 20,Tv 21,Tv 22,.pointer none,VI 0,VI (fuel:Nat),.bool false,VI 0]
theorem AZ (m:Im)(n:Nat)(s:ByteArray)(c:Option Nat):Im.find {m with looks:=n} s c=m.find s c:=by rw[Jf,Jf];rfl
theorem bI {rb:Nat}{fuel:Nat}(h:Sg Dd w0 m0 K0 rb w m K fuel bs fs)(h0:Qv w0){p:Nat}{s:ByteArray}(hp:(p,s)∈K.k.L)(C_:Option Nat)(Wr:∀x,C_=some x->x<m.kl.length)(hs:s.size<=1000)
 (to:Vl) {av:Value}{args:List Vl}{ab:Nat} (W8:UH w av args ab) (hab:args≠[]->ab<w.heap.size/\ab≠rb/\¬U2 m K ab) (h3:args.length<=3) (C':fs.length<=32) (n_:K.says m s C_=none):
 Calls prog 89 #[VG rb,VG p,.agg #[.pointer (Vq (C_.map K.cb)),.string s],to.val,av] w (aa1 Dd w0 m0 K0 rb (m.send fuel C_ to s args fs) w m K):=by
 obtain⟨W1,hW1⟩:∃W1,W1=(w.alloc (.cells #[.pointer (Vq (C_.map K.cb)),.string s] 59)).alloc (.cells #[.bool to.obj,VI to.n] 33):=Vx;refine amA ?_;intro hB1 Rv b0 b1 q0 q1 h1 M8 Pe
 have LR:∀W,Below W1.heap.size W1 W->Calls prog 136 #[VG K.b,VG p,.agg #[.pointer (Vq (C_.map K.cb)),.string s]] W λe w'=>e=.returned (.agg #[.pointer none,.pointer none])/\∃K',Step W w' m K {m with looks:=m.looks+1} K':=λW hW=>by
  have:=BQ (h1.below hW).Qj.Ub hp C_ Wr hs;rw[n_]at this;exact this
 refine ajj ?_;intro hBa hBb HH H1 Nd;obtain⟨ap,gD,T8,_⟩:=W8;subst T8;refine aiS ?_;intro SM Ca;clear h h1 hB1 b0 b1;unfold Vl.val;go_enter func89,ntmps89;go_wp2_with fail;rw[<- hW1];clear hW1;refine Uy ?_;refine aju ?_;intro hHeld;refine IC ?_;refine Zv (rs:=[6,7]) VE Vy ?_;refine(ZO (o:=_) rfl (λY_ Z_=>?_) (ZO (o:=_) rfl (λY_ Z_=>?_) ZA))
 case' refine_2=>
  refine Vg ?_;intro hHeld;clear Z_ Y_;refine amc ?_;intro Y_ Z_ w2 K1 hst h1 hfw hbk RC RR M8
  try go_wp2_with fail
  refine Z_.go λhHeld=>?_;clear Z_ Y_;refine ajL ?_;intro LO u0 u1 uf Z1 Te;refine BJ ?_;intro hHeld;refine Um ?_;obtain⟨W3,hW1⟩:∃W3,W3=(w2.setCell (VJ W1.heap.size 0) (.pointer none)).setCell (VJ W1.heap.size 1) (.pointer none):=Vx;obtain⟨z,hzz⟩:∃z,z=W1.heap.size:=Vx;rw[<- hW1,<- hzz];have hzb:W3.heap[z]?=some (.cells #[.pointer none,.pointer none] 62):=abJ;refine al5 ?_;intro hz1 hc3 hz2 Rp H3 KS M3
  have Jx:Hid (∀k,U2 {m with looks:=m.looks+1} K1 k->U2 m K k\/(W1.heap.size<=k/\k≠z)):=by
   have hx:∀k,U2 {m with looks:=m.looks+1} K1 k->U2 m K k\/(W1.heap.size<=k/\k≠z):=λk e=>by
    rcases hst.foot k e with e1|e1
    . exact .inl e1
    . simp at e1;exact .inr mF
   exact hx
  clear hzz hW1 LO u0 u1 uf Z1 Te RC RR M8 hst h1 hfw hbk hc3 hz2 Rp
 case' refine_1=>
  refine anN ?_;intro w2 K1 hst h1 hfw hbk RC RR M8
  try go_wp2_with fail
  refine Z_.go λhHeld=>?_;clear Z_ Y_
  try refine UE ?_
  have hs2:W1.heap.size<=w2.heap.size:=hst.Ut.size;refine Ul 7 λY_ Z_=>?_;refine Vg ?_;intro hHeld;clear Z_ Y_
  try refine UE ?_
  refine BJ ?_;intro hHeld;refine Um ?_;obtain⟨W3,hW1⟩:∃W3,W3=w2.alloc (.cells #[.pointer none,.pointer none] 62):=Vx;obtain⟨z,hzz⟩:∃z,z=w2.heap.size:=Vx;rw[<- hW1,<- hzz];have hzb:W3.heap[z]?=some (.cells #[.pointer none,.pointer none] 62):=jv;refine ahF ?_;intro hz1 hb3 H3 KS M3
  have Jx:Hid (∀k,U2 {m with looks:=m.looks+1} K1 k->U2 m K k\/(W1.heap.size<=k/\k≠z)):=by
   have hx:∀k,U2 {m with looks:=m.looks+1} K1 k->U2 m K k\/(W1.heap.size<=k/\k≠z):=λk e=>by
    have h4:=h1.Qj.Ub.lt e;rcases hst.foot k e with e1|e1
    . exact .inl e1
    . have e1:W1.heap.size<=k:=e1;exact .inr ⟨e1,VH⟩
   exact hx
  clear hzz hW1 RC RR M8 hst h1 hfw hbk hb3 hs2
 all_goals
  have hfw:∀k,U2 m K k->k<w.heap.size:=λk e=>HH.o.Qj.Ub.lt e;have LN:=(KS.o _ VH jl).trans Ca.o.1;have X_:=(KS.o _ VH jl).trans Ca.o.2;have q0:W3.cell? (VJ w.heap.size 0)=some (.pointer (Vq (C_.map K.cb))):=by simp only[World.cell?,LN];rfl
  have z1:W3.cell? (VJ z 1)=some (.pointer none):=by simp only[World.cell?,hzb];rfl
  have M8:W3.cell? (VJ rb 0)=some (VG K.b):=by
   have:=H3.o.run.c0;rw[M3.o.1]at this;exact this
  have M5:=(Z5.1 hzb).1;have Kx:=(Z5.1 LN).1;have MT:=(Z5.1 X_).1;have e1:¬z=rb:=VH;have e3:¬w.heap.size+1=rb:=VH;have e6:¬z=w.heap.size:=VH;obtain⟨WN,pH⟩:∃WN,WN=(W3.alloc (.cells #[Mm.only.val] 198)).drew:=Vx;have p5:Below W3.heap.size W3 WN:=by rw[pH];exact((ZR _ _).alloc UM _).drew
  obtain⟨KN,oA,Ay,sx,ud⟩:∃KN,Step W3 WN {m with looks:=m.looks+1} K1 {m with looks:=m.looks+1} KN/\KN.b=K1.b/\KN.cb=K1.cb/\(W3.heap.size,Qy)∈KN.k.L:=by
   refine⟨K1.nowhere W3.heap.size Qy,?_,rfl,rfl,XZ ..⟩;rw[pH];exact(H3.o.Qj.Ub.nowhere Qy).trans (Step.below (H3.o.Qj.Ub.nowhere Qy).Ub (ZR _ _).drew)
  have tB:C_.map KN.cb=C_.map K.cb:=by
   cases C_ with
   | none=>rfl
   | some c=>rw[sx];exact YV some (M3.o.2.1 c (Wr c rfl))
  have MA:=BQ oA.Ub (p:=W3.heap.size) (s:=Qy) ud C_ Wr Vz;rw[tB,Ay.trans M3.o.1]at MA;obtain⟨r2,hr2⟩:∃r2,KN.says {m with looks:=m.looks+1} Qy C_=r2:=Vx;rw[hr2]at MA;unfold EX at MA;obtain⟨fh,ju⟩:∃fh,fh=Vq (r2.map (λx=>KN.cb x.1)):=Vx;obtain⟨fm,gC⟩:∃fm,fm=Vq (r2.map (·.2)):=Vx;rw[<- ju,<- gC]at MA;rw[show Qy=(⟨#[100,110,117,47,49]⟩:ByteArray) from rfl]at MA
  have LT:Hid (KN.says {m with looks:=m.looks+1} Qy C_=r2/\fh=Vq (r2.map (λx=>KN.cb x.1))/\fm=Vq (r2.map (·.2))):=⟨hr2,ju,gC⟩
  have Fo:Hid _:=oA
  have wt:Hid (W3.heap[z]?=some (.cells #[.pointer none,.pointer none] 62)/\W3.heap[w.heap.size+1]?=some (.cells #[.bool to.obj,VI to.n] 33)):=⟨hzb,X_⟩
  have hNF:∀k,k<W3.heap.size->(k=w.heap.size\/k=w.heap.size+1\/k=z)->¬U2 {m with looks:=m.looks+1} KN k:=λk hk e e'=>by
   rcases oA.foot k e' with e7|e7
   . rcases Jx.o k e7 with e8|e8
     . have:=HH.o.Qj.Ub.lt e8;omega
     . omega
   . omega
  have Db:Hid _:=hNF;have j6:Hid _:=Ay;clear LN X_ hzb LR hBa hBb tB hr2 ju gC oA hNF hfw Ay sx ud;go_wp2_with fail;refine Uy ?_;refine ZT (S:=(λw'=>w'.cell? (VJ w.heap.size 0)=some (.pointer (Vq (C_.map K.cb)))/\w'.cell? (VJ rb 0)=some (VG K.b))) VE UG (λhHeld=>?_);refine pJ ?_;refine Uh 5 ?_;refine Uh 6 ?_;refine Ur 7 ?_;refine Ul 4 λY_ Z_=>?_;go_simp;refine(FD _).mono ?_;rintro e wN ⟨rfl,rfl⟩
  try go_wp2_with fail
  refine Z_.go λhHeld=>?_;clear Z_ Y_
  try refine UE ?_
  rw[<- pH];clear pH;have hzl:=ZY M5 p5.size;refine Ul 8 λY_ Z_=>?_;go_simp;refine MA.mono ?_;rintro e w2 ⟨rfl,K1,z'⟩
  have Z2:∀k,k<W3.heap.size->(k=w.heap.size\/k=w.heap.size+1\/k=z)->w2.heap[k]?=W3.heap[k]?:=λk hk e=>(z'.Ut.block k (ZY hk p5.size) (Db.o k hk e)).trans (p5.block k hk);have q1:=(Z9 (a:=(VJ w.heap.size 0)) (Z2 _ Kx NP)).trans q0;have h4:=(H3.o.img Fo.o).img z';have r04:w2.cell? (VJ rb 0)=some (VG K.b):=by {have:=h4.run.c0;rw[z'.b,j6.o,M3.o.1]at this;exact this}
  try go_wp2_with fail
  refine Z_.go λhHeld=>?_;clear Z_ Y_
  try refine UE ?_
  have hz1:=(Z2 z M5 (.inr JQ)).trans wt.o.1;have ia:=(Z2 _ MT oG).trans wt.o.2;have u0:w2.cell? (VJ z 0)=some (.pointer none):=by simp only[World.cell?,hz1];rfl
  have u1:w2.cell? (VJ z 1)=some (.pointer none):=by simp only[World.cell?,hz1];rfl
  have uf:∀o,w2.frozen? (VJ z o)=false:=λo=>UL.free ⟨_,_,hz1⟩ o
  have ai:Hid (∀k,k<w.heap.size->¬U2 m K k->w2.heap[k]?=w.heap[k]?):=by
   have hx:∀k,k<w.heap.size->¬U2 m K k->w2.heap[k]?=w.heap[k]?:=λk hk hf=>(z'.Ut.block k VH (λe=>by
    rcases Fo.o.foot k e with e7|e7
    . rcases Jx.o k e7 with e8|e8
      . exact hf e8
      . omega
    . omega)).trans ((p5.block k VH).trans ((KS.o k VH hf).trans (SM.o.block k hk)))
   exact hx
  have Rp:¬U2 {m with looks:=m.looks+1+1} K1 z:=λe=>by
   rcases z'.foot z e with e7|e7
   . exact Db.o z M5 (.inr JQ) e7
   . omega
  have H1:Hid (Sg Dd w0 m0 K0 rb w2 {m with looks:=m.looks+1+1} K1 fuel bs fs/\w2.heap[z]?=some (.cells #[.pointer none,.pointer none] 62)/\w2.heap[w.heap.size+1]?=some (.cells #[.bool to.obj,VI to.n] 33)/\¬U2 {m with looks:=m.looks+1+1} K1 z):=⟨h4,hz1,ia,Rp⟩
  have M3:Hid ((∀c,c<m.kl.length->K1.cb c=KN.cb c)/\∀k,KN.k.Mk k->K1.k.Mk k/\K1.k.md k=KN.k.md k):=⟨z'.cb,z'.md⟩
  have M5:=(Z5.1 hz1).1;clear hz1 ia Z2 h4 z' Rp MA;refine Ul 9 λY_ Z_=>?_;refine Vg ?_;intro hHeld;clear Z_ Y_;refine Um ?_;obtain⟨W1,hW1⟩:∃W1,W1=(w2.setCell (VJ z 0) (.pointer fh)).setCell (VJ z 1) (.pointer fm):=Vx;rw[<- hW1];have hc3:Vt w2 W1 (λk=>k=z):=ajP;have vm:Hid _:=hc3
  have H3:Hid (Sg Dd w0 m0 K0 rb W1 {m with looks:=m.looks+1+1} K1 fuel bs fs):=by
   have hx:=H1.o.1.aside h0 hc3 (λk e=>by rw[e];exact⟨amh,H1.o.2.2.2,λe'=>aoz,λe'=>amO⟩);exact hx
  have hzb:W1.heap[z]?=some (.cells #[.pointer fh,.pointer fm] 62):=by rw[hW1];exact set2 H1.o.2.1
  have MT:=(Z5.1 H1.o.2.2.1).1;have X_:=(hc3.block _ MT VH).trans H1.o.2.2.1;have z0:W1.cell? (VJ z 0)=some (.pointer fh):=by simp only[World.cell?,hzb];rfl
  have z1:W1.cell? (VJ z 1)=some (.pointer fm):=by simp only[World.cell?,hzb];rfl
  have M5:=(Z5.1 hzb).1;clear hW1 u0 u1 uf q0 M8 q1 r04
  cases r2 with
  | none=>
   obtain⟨hr2,rfl,rfl⟩:=LT.o;have n1:Vq ((none:Option (Nat×Nat)).map (λx=>KN.cb x.1))=none:=rfl;have n2:Vq ((none:Option (Nat×Nat)).map (·.2))=none:=rfl;rw[n1]at z0 ⊢;rw[n2]at z1;clear n1 n2;go_wp2
   have u9:m.send fuel C_ to s args fs=.stop {m with looks:=m.looks+2} 1:=by
    have e8:=Fo.o.Ub.findEq Qy C_;rw[hr2,AZ]at e8;unfold Im.send;rw[HH.o.Qj.Ub.findEq,n_,e8];rfl
   rw[u9];exact⟨rfl,⟨rfl,K1,(H3.o.below zt7).Qj⟩,λe=>EO⟩
  | some x=>
   obtain⟨d,mk⟩:=x;obtain⟨hr2,rfl,rfl⟩:=LT.o;have n1:Vq ((some (d,mk):Option (Nat×Nat)).map (λx=>KN.cb x.1))=some (VJ (KN.cb d) 0):=rfl;have n2:Vq ((some (d,mk):Option (Nat×Nat)).map (·.2))=some (VJ mk 0):=rfl;rw[n1]at z0 hzb ⊢;rw[n2]at z1 hzb;clear n1 n2;obtain⟨BS,hmk⟩:=Fo.o.Ub.aiA Wr hr2;have DP:=(M3.o.1 d BS).symm;rw[DP]at z0 hzb ⊢
   have J':m.find Qy C_=some (d,(K1.k.md mk).ws):=by
    have e8:=Fo.o.Ub.findEq Qy C_;rw[hr2,AZ]at e8;rw[e8,(M3.o.2 mk hmk).2];rfl
   have di:Hid _:=J'
   have D0:Hid (d<m.kl.length/\K1.k.Mk mk):=⟨BS,(M3.o.2 mk hmk).1⟩
   clear J' BS hmk hr2 DP;have t0:W1.cell? (VJ (w.heap.size+1) 0)=some (.bool to.obj):=by simp only[World.cell?,X_];rfl
   have t1:W1.cell? (VJ (w.heap.size+1) 1)=some (VI to.n):=by simp only[World.cell?,X_];rfl
   have cq:=H3.o.run.cq;have pu:∀o,W1.frozen? (VJ rb o)=false:=λo=>H3.o.run.Vb.free o;have AC:=H3.o.run.Vb.lt;have MT:=(Z5.1 X_).1;clear X_ hzb;by_cases hd:fs.length=32
   . rw[hd]at cq;go_wp2
     have hsend:m.send fuel C_ to s args fs=.stop {m with looks:=m.looks+2} 4:=by
      unfold Im.send;rw[HH.o.Qj.Ub.findEq,n_,di.o];simp[hd]
     rw[hsend];exact⟨rfl,⟨rfl,K1,(H3.o.below zt7).Qj⟩,λe=>EO⟩
   . have hd':¬((fs.length:Int)=32):=by omega
     have hd2:(fs.length:Int)<=31:=VH;go_wp2_with fail;obtain⟨W3,hW1⟩:∃W3,W3=(W1.setCell (VJ rb 25) (VI ((fs.length:Int)+1))).alloc (.cells #[.bool false,VI (args.length:Nat)] 33):=Vx;rw[<- hW1];have r6:W1.heap.size<=W3.heap.size:=abp;have hb3:∀k,k<W1.heap.size->k≠rb->W3.heap[k]?=W1.heap[k]?:=λk hk e=>by rw[hW1,ZV _ _ _ (by simpa[World.setCell]using hk)];exact ZW _ _ _ _ e
     refine ajG ?_;intro y0 y1 x0 x1
     have hr2:SS W3 K1.b rb (bs.head?.map (·.1)) (fs.length+1) fuel:=by
      have:=H3.o.run.DZ (fs.length+1);rw[hW1];have h1:=this.same (w':=(W1.setCell (VJ rb 25) (VI ((fs.length+1:Nat):Int))).alloc (.cells #[.bool false,VI (args.length:Nat)] 33)) (ZV _ _ _ (by simpa[World.setCell]using AC));simpa using h1
     have S4:=hr2.ct;have LT:Hid _:=hr2
     have py:Hid (Vt W1 W3 (λk=>k=rb)):=by
      have hx:Vt W1 W3 (λk=>k=rb):=by rw[hW1];exact((Vt.refl _ (λk=>k=rb)).setCell _ _ (λ_=>rfl)).alloc _
      exact hx
     have AC:rb<W3.heap.size:=VH
     have sh:W3.heap[W1.heap.size]?=some (.cells #[.bool false,VI (args.length:Nat)] 33):=by
      have:=(Z4 (W1.setCell (VJ rb 25) (VI ((fs.length:Int)+1))) (.cells #[.bool false,VI (args.length:Nat)] 33)).1;rw[hW1];simpa[World.setCell]using this
     have o5:Hid _:=sh;clear sh hr2 hW1 z0 z1 t0 t1 cq pu hb3;refine Uy ?_;refine ZT (S:=(λw'=>w'.cell? (VJ z 0)=some ((VG (K1.cb d)))/\w'.cell? (VJ z 1)=some (VG mk)/\w'.cell? (VJ (w.heap.size+1) 0)=some (.bool to.obj)/\w'.cell? (VJ (w.heap.size+1) 1)=some (VI to.n)/\w'.cell? (VJ rb 24)=some (.pointer (Vq (bs.head?.map (·.1)))))) VE UG (λhHeld=>?_);refine FU ?_;refine Fe ?_;intro hHeld;refine La ?_;refine Nr ?_;obtain⟨cur,V_⟩:∃cur:Array Value,cur=#[VG mk,VG (K1.cb d),.bool to.obj,VI to.n,.bool false,VI 0,.bool false,VI 0,.bool false,VI 0,VI 0,.bool false,VI 0,.bool false,VI 0,.bool false,VI 0,.bool false,VI 0,.bool false,VI 0,.bool false,VI 0,.bool false,VI 0,.bool false,VI 0,.bool false,VI 0,.bool false,VI 0,.bool false,VI 0,.bool false,VI 0,.bool false,VI 0,.bool false,VI 0,.bool false,VI 0,.bool false,VI 0,VI 0,.pointer (Vq (bs.head?.map (·.1)))]:=Vx;obtain⟨V5,qq⟩:∃V5,V5=(W3.alloc (.cells cur 212)).drew:=Vx;obtain⟨nb,hnb⟩:∃nb,nb=W3.heap.size:=Vx;rw[<- V_,<- qq,<- hnb];have hB1:Below W3.heap.size W3 V5:=by rw[qq];exact((ZR _ _).alloc UM _).drew
     have Mq:V5.heap[nb]?=some (.cells cur 212):=by rw[qq,hnb];exact(Z4 _ _).1
     have T8:UH V5 (.slice (some (VJ W1.heap.size 0)) 1 1) [⟨false,(args.length:Nat)⟩] W1.heap.size:=by
      refine⟨_,1,rfl,λ_=>⟨_,rfl,rfl,?_⟩⟩;exact World.news_of_block (cs:=#[.bool false,VI (args.length:Nat)]) ((hB1.block _ ((Z5.1 o5.o).1)).trans o5.o)
     have Gb:=λty=>zI T8 Vy Mq (by rw[V_];show 10<=45;omega) ty;have hsl:=Dc nb V5;obtain⟨W6,hW1⟩:∃W6,W6=V5.setRow nb (cur.toList.take 4++vcs [⟨false,(args.length:Nat)⟩]++cur.toList.drop (4+(vcs [⟨false,(args.length:Nat)⟩]).length)).toArray:=Vx;rw[<- hW1]at Gb
     have IP:Un W6 nb (some (VJ mk 0)) (some (VJ (K1.cb d) 0)) to [⟨false,(args.length:Nat)⟩] 0 [] (bs.head?.map (·.1)):=by
      rw[hW1];exact F5 Vy Mq Pq Pq Pq Pq Pq Pq Pq Pq
     have hb3:∀k,k≠nb->W6.heap[k]?=V5.heap[k]?:=λk e=>by rw[hW1];simp[World.setRow,Zz,VL e]
     have hc3:Vt V5 W6 (λk=>k=nb):=by rw[hW1]at hb3 ⊢;exact⟨rfl,rfl,rfl,agL,λk _ e=>hb3 k e⟩
     have Hk:=(hb3 rb VH).trans (hB1.block rb AC);have hr2:=LT.o.same Hk;have dz:=hr2.ct;have aR:∀o,W6.frozen? (VJ rb o)=false:=λo=>hr2.Vb.free o
     have vr:Hid (Un W6 nb (some (VJ mk 0)) (some (VJ (K1.cb d) 0)) to [⟨false,(args.length:Nat)⟩] 0 [] (bs.head?.map (·.1))/\SS W6 K1.b rb (bs.head?.map (·.1)) (fs.length+1) fuel):=⟨IP,hr2⟩
     have uC:Hid (Vt W1 W6 (λk=>k=rb)):=by
      have hx:=(py.o.then aci Js).then hc3 aK;exact hx
     have xV:W1.heap.size<=nb:=VH;clear hc3 IP hr2 Hk hb3 hW1 T8 V_ qq hB1 y0 y1 x0 x1 S4 r6;have gd:W3.heap.size<=nb:=VH;have gd:nb<=W3.heap.size:=VH;clear hnb;go_wp2
     have hsend:m.send fuel C_ to s args fs=.on {m with looks:=m.looks+2} fuel (⟨(K1.k.md mk).ws,d,to,[⟨false,(args.length:Nat)⟩],0,[]⟩::fs):=by
      unfold Im.send;rw[HH.o.Qj.Ub.findEq,n_,di.o];have:¬32<=fs.length:=VH;simp[this]
     rw[hsend]
     go_end0
     exact⟨⟨rfl,K1,(nb,mk)::bs,H3.o.push h0 (uC.o.setCell _ _ (λ_=>rfl)) (vr.o.2.mW (some nb)) xV ⟨vr.o.1.same (ZW _ _ _ _ (by show nb≠rb;omega)),D0.o.2,rfl⟩ D0.o.1⟩,λ_ k hk hf hr=>(ZW _ _ _ _ hr).trans ((uC.o.block k (by omega) hr).trans ((vm.o.block k (by omega) (by omega)).trans (ai.o k hk hf)))⟩
def TQ (x:Kn.W)(pl:Option Addr):Array Value:=#[VI (kindOf x.k:Nat),VI x.n,.string (VF x.a),.string (VF x.sel),.string (VF x.b),.pointer pl]
def Uo (x:Kn.W)(pl:Option Addr):Value:=.agg (TQ x pl)
structure Bx (Dd:Nat->Prop)(w0:World)(m0:Im)(K0:Kd)(rb:Nat)(w W1:World)(m:Im)(K:Kd)(fuel fb mk:Nat)(bs:List (Nat×Nat))(f:Fr)(fs:List Fr)(x:Kn.W)(pl:Option Addr):Prop where
 sg:Sg Dd w0 m0 K0 rb W1 m K fuel ((fb,mk)::bs) (f::fs)
 below:Below w.heap.size w W1
 blk:W1.heap[w.heap.size]?=some (.cells (TQ x pl) 146)
 x1:W1.cell? (VJ w.heap.size 1)=some (VI x.n)
 x2:W1.cell? (VJ w.heap.size 2)=some (.string (VF x.a))
 x3:W1.cell? (VJ w.heap.size 3)=some (.string (VF x.sel))
 x4:W1.cell? (VJ w.heap.size 4)=some (.string (VF x.b))
 x5:W1.cell? (VJ w.heap.size 5)=some (.pointer pl)
 ct:W1.cell? (VJ rb 24)=some (VG fb)
 c0:W1.cell? (VJ rb 0)=some (VG K.b)
 n1:rb≠fb
 n2:w.heap.size≠fb
 n3:w.heap.size≠rb
 l1:rb<W1.heap.size
 l2:fb<W1.heap.size
 l3:w.heap.size<W1.heap.size
 nf:¬U2 m K w.heap.size
theorem Sg.box {rb:Nat}{fuel fb mk:Nat}(h:Sg Dd w0 m0 K0 rb w m K fuel ((fb,mk)::bs) (f::fs))(x:Kn.W)(pl:Option Addr){W1:World}(hW:W1=w.alloc (.cells (TQ x pl) 146)):Bx Dd w0 m0 K0 rb w W1 m K fuel fb mk bs f fs x pl:=by
 subst hW;have hB:Below w.heap.size w (w.alloc (.cells (TQ x pl) 146)):=(ZR _ w).alloc UM _;have h1:=h.below hB;have hb:(w.alloc (.cells (TQ x pl) 146)).heap[w.heap.size]?=some (.cells (TQ x pl) 146):=(Z4 w _).1;refine aaV ?_;intro hnd;have l1:=(h.lo rb Vy).2.1;have l1:=(h.lo fb Vy).2.1
 refine⟨h1,hB,hb,?_,?_,?_,?_,?_,h1.run.ct,h1.run.c0,hnd.1.1,VH,VH,Vo,Vo,Vy,λe=>by have:=h.Qj.Ub.lt e;omega⟩<;>(simp only[World.cell?,hb];rfl)
theorem eG {rb:Nat}{fuel fb mk:Nat}(h:Sg Dd w0 m0 K0 rb w m K fuel ((fb,mk)::bs) (f::fs))(h0:Qv w0)(x:Kn.W)(pl:Option Addr)(hk:x.k=110)(hr:f.st.length<16):
 Calls prog 114 #[VG rb,Uo x pl] w (TV Dd w0 m0 K0 rb (VA m fuel x f fs)):=by
 have hw:VA m fuel x f fs=.on m fuel ({f with st:=⟨false,x.n⟩::f.st}::fs):=pX;rw[hw];obtain⟨W1,hW1⟩:∃W1,W1=w.alloc (.cells (TQ x pl) 146):=Vx;refine Ju ?_;intro B ct;have x1:=B.x1;have l1:=B.l1;have l3:=B.l3;have p_:=RX (w:=W1.drew) yG hr ⟨false,x.n⟩;have HB:Hid _:=B;unfold TQ at hW1;unfold Vl.val at p_;unfold Uo TQ;clear B hw h hk;go_enter func114,ntmps114;go_wp2_with fail;rw[<- hW1];clear hW1;refine Uy ?_;refine ZT (S:=(λw'=>w'.cell? (VJ rb 24)=some (VG fb)/\w'.cell? (VJ w.heap.size 1)=some (VI x.n))) VE UG (λhHeld=>?_);refine zr3 ?_;refine Ur 6 ?_;refine Ul 7 λY_ Z_=>?_;refine aen ?_;intro w3 hf3 hc3 YY;have x1:=(Z9 (a:=(VJ w.heap.size 1)) iw).trans x1
 try go_wp2_with fail
 refine Z_.go λhHeld=>?_;clear Z_ Y_;refine Um ?_
 go_end0
 exact⟨rfl,K,_,HB.o.sg.top (f':={f with st:=⟨false,x.n⟩::f.st}) h0 qX hf3 rfl rfl⟩
theorem zh (b:Bool)(w:World):Calls prog 146 #[.bool b] w λe w'=>e=.returned (vG b).val/\Below w.heap.size w w':=by
 unfold vG Vl.val
 cases b with
 | true=>
  go_enter func146,ntmps146;go_wp2;refine ZQ (Jg (z:=w.heap.size) results146 (.bool false) (VI 1) rfl (Ug _ _ _ _ 0 rfl) (Ug _ _ _ _ 1 rfl)) rfl alR
 | false=>
  go_enter func146,ntmps146;go_wp2;refine ZQ (Jg (z:=w.heap.size) results146 (.bool false) (VI 0) rfl (Ug _ _ _ _ 0 rfl) (Ug _ _ _ _ 1 rfl)) rfl alR
theorem Bx.gave {rb:Nat}{w W1 w2:World}{fuel fb mk:Nat}{x:Kn.W}{pl:Option Addr}(h:Bx Dd w0 m0 K0 rb w W1 m K fuel fb mk bs f fs x pl)(h0:Qv w0)(hc:Vt W1 w2 (λk=>k=fb)):Step w0 w2 m0 K0 m K:=
 h.sg.Qj.aside hc (λk e=>by have:=h.sg.lo fb Vy;rw[e];exact⟨this.1,this.2.2⟩) DL
theorem agE {rb:Nat}{fuel fb mk:Nat}(h:Sg Dd w0 m0 K0 rb w m K fuel ((fb,mk)::bs) (f::fs))(h0:Qv w0)(x:Kn.W)(pl:Option Addr)(hk:x.k=109)(hr:f.st.length<16):
 Calls prog 115 #[VG rb,Uo x pl] w (TV Dd w0 m0 K0 rb (VA m fuel x f fs)):=by
 have hw:VA m fuel x f fs=.on m fuel ({f with st:=f.self::f.st}::fs):=pX;rw[hw];obtain⟨W1,hW1⟩:∃W1,W1=w.alloc (.cells (TQ x pl) 146):=Vx;refine Ju ?_;intro B ct;have l1:=B.l1;have s2:=B.sg.LY.1.raw.c2;have s2:=B.sg.LY.1.raw.c3;have p_:=RX (w:=W1.drew) yG hr f.self;unfold Vl.val at p_;have HB:Hid _:=B;unfold TQ at hW1;unfold Uo TQ;clear B h hw hk ;go_enter func115,ntmps115;go_wp2_with fail;rw[<- hW1];clear hW1;refine Uy ?_;refine ZT (S:=(λw'=>w'.cell? (VJ rb 24)=some (VG fb)/\w'.cell? (VJ fb 2)=some (.bool f.self.obj)/\w'.cell? (VJ fb 3)=some (VI f.self.n))) VE UG (λhHeld=>?_);refine zC ?_;refine Uh 9 ?_;refine Ur 10 ?_;refine Ul 11 λY_ Z_=>?_;refine aen ?_;intro w3 hf3 hc3 YY;have s2:=hf3.c2;have s2:=hf3.c3
 try go_wp2_with fail
 refine Z_.go λhHeld=>?_;clear Z_ Y_;refine Um ?_
 go_end0
 exact⟨rfl,K,_,HB.o.sg.top (f':={f with st:=f.self::f.st}) h0 qX hf3 rfl rfl⟩
theorem alG {rb:Nat}{fuel fb mk:Nat}(h:Sg Dd w0 m0 K0 rb w m K fuel ((fb,mk)::bs) (f::fs))(h0:Qv w0)(x:Kn.W)(pl:Option Addr)(hk:x.k=97)(hr:f.st.length<16)(i:Nat)(hi:x.n=i)(i3:i<3)(v:Vl)(hv:f.args[i]?=some v):
 Calls prog 116 #[VG rb,Uo x pl] w (TV Dd w0 m0 K0 rb (VA m fuel x f fs)):=by
 have hw:VA m fuel x f fs=.on m fuel ({f with st:=v::f.st}::fs):=by unfold VA;simp[hk,hi,hv]
 rw[hw];obtain⟨W1,hW1⟩:∃W1,W1=w.alloc (.cells (TQ x pl) 146):=Vx;refine Ju ?_;intro B ct;have x1:=B.x1;have l1:=B.l1;have l3:=B.l3;rw[hi]at x1;have i3':(i:Int)<3:=VH;obtain⟨s2,s2⟩:=B.sg.LY.1.raw.ca i v hv;have p_:=RX (w:=W1.drew) yG hr v;unfold Vl.val at p_;have HV:Hid _:=hv;have HB:Hid _:=B;unfold TQ at hW1;unfold Uo TQ;clear B h hw hk hi hv;go_enter func116,ntmps116;go_wp2_with fail;rw[<- hW1];clear hW1;refine Uy ?_;refine ZT (S:=(λw'=>w'.cell? (VJ rb 24)=some (VG fb)/\w'.cell? (VJ w.heap.size 1)=some (VI (i:Nat))/\w'.cell? (VJ fb (4+i*2))=some (.bool v.obj)/\w'.cell? (VJ fb (4+i*2+1))=some (VI v.n))) VE UG (λhHeld=>?_);refine KG ?_;refine Ur 11 ?_;refine jf ?_;intro hHeld;refine Ur 13 ?_;refine Ul 14 λY_ Z_=>?_;refine aen ?_;intro w3 hf3 hc3 YY;have x1:=(Z9 (a:=(VJ w.heap.size 1)) iw).trans x1;have s2:=(hf3.ca i v HV.o).1;have s2:=(hf3.ca i v HV.o).2
 try go_wp2_with fail
 refine Z_.go λhHeld=>?_;clear Z_ Y_;refine Um ?_
 go_end0
 exact⟨rfl,K,_,HB.o.sg.top (f':={f with st:=v::f.st}) h0 qX hf3 rfl rfl⟩
theorem bK {rb:Nat}{fuel fb mk:Nat}(h:Sg Dd w0 m0 K0 rb w m K fuel ((fb,mk)::bs) (f::fs))(h0:Qv w0)(x:Kn.W)(pl:Option Addr)(hk:x.k=43){a b:Int}{r:List Vl}(hst:f.st=⟨false,b⟩::⟨false,a⟩::r):
 Calls prog 119 #[VG rb,Uo x pl] w (TV Dd w0 m0 K0 rb (VA m fuel x f fs)):=by
 have hw:VA m fuel x f fs=.on m fuel ({f with st:=⟨false,Kn.wrap64 (a+b)⟩::r}::fs):=JD;rw[hw];obtain⟨W1,hW1⟩:∃W1,W1=w.alloc (.cells (TQ x pl) 146):=Vx;refine jr ?_;intro B ct l1 Wd lw h_ hcall;rw[show Kn.wrap64 (a+b)=Go.RowKit.wrap64 (a+b) from adz];have HB:Hid _:=B;unfold TQ at hW1;unfold Uo TQ;clear B h hw hk hst;go_enter func119,ntmps119;go_wp2_with fail;rw[<- hW1];clear hW1;clear Wd lw;refine rD ?_;intro w2 hf2 hc2 XS;have p_:=RX hf2 VH ⟨false,Go.RowKit.wrap64 (a+b)⟩;unfold Vl.val at p_;clear hcall hf2;go_wp2_with fail;refine p_.mono ?_;rintro e w2 ⟨rfl,hf2,hc3⟩;have za:Hid _:=hf2;clear hf2 p_;go_wp2
 go_end0
 exact⟨rfl,K,_,HB.o.sg.top (f':={f with st:=⟨false,Go.RowKit.wrap64 (a+b)⟩::r}) h0 (hc2.then hc3 Qi) za.o rfl rfl⟩
theorem aF {rb:Nat}{fuel fb mk:Nat}(h:Sg Dd w0 m0 K0 rb w m K fuel ((fb,mk)::bs) (f::fs))(h0:Qv w0)(x:Kn.W)(pl:Option Addr)(hk:x.k=43){a b:Vl}{r:List Vl}(hst:f.st=b::a::r)(ho:(a.obj||b.obj)=true):
 Calls prog 119 #[VG rb,Uo x pl] w (TV Dd w0 m0 K0 rb (VA m fuel x f fs)):=by
 have hw:VA m fuel x f fs=.stop m 3:=jh;rw[hw];obtain⟨W1,hW1⟩:∃W1,W1=w.alloc (.cells (TQ x pl) 146):=Vx;refine fF ?_;intro B Wd lw hcall HB;unfold TQ at hW1;unfold Uo TQ;clear B h hw hk hst ho;go_enter func119,ntmps119;exact agz
theorem aN {rb:Nat}{fuel fb mk:Nat}(h:Sg Dd w0 m0 K0 rb w m K fuel ((fb,mk)::bs) (f::fs))(h0:Qv w0)(x:Kn.W)(pl:Option Addr)(hk:x.k=45){a b:Int}{r:List Vl}(hst:f.st=⟨false,b⟩::⟨false,a⟩::r):
 Calls prog 120 #[VG rb,Uo x pl] w (TV Dd w0 m0 K0 rb (VA m fuel x f fs)):=by
 have hw:VA m fuel x f fs=.on m fuel ({f with st:=⟨false,Kn.wrap64 (a-b)⟩::r}::fs):=JD;rw[hw];obtain⟨W1,hW1⟩:∃W1,W1=w.alloc (.cells (TQ x pl) 146):=Vx;refine jr ?_;intro B ct l1 Wd lw h_ hcall;rw[show Kn.wrap64 (a-b)=Go.RowKit.wrap64 (a-b) from adz];have HB:Hid _:=B;unfold TQ at hW1;unfold Uo TQ;clear B h hw hk hst;go_enter func120,ntmps120;go_wp2_with fail;rw[<- hW1];clear hW1;clear Wd lw;refine rD ?_;intro w2 hf2 hc2 XS;have p_:=RX hf2 VH ⟨false,Go.RowKit.wrap64 (a-b)⟩;unfold Vl.val at p_;clear hcall hf2;go_wp2_with fail;refine p_.mono ?_;rintro e w2 ⟨rfl,hf2,hc3⟩;have za:Hid _:=hf2;clear hf2 p_;go_wp2
 go_end0
 exact⟨rfl,K,_,HB.o.sg.top (f':={f with st:=⟨false,Go.RowKit.wrap64 (a-b)⟩::r}) h0 (hc2.then hc3 Qi) za.o rfl rfl⟩
theorem aU {rb:Nat}{fuel fb mk:Nat}(h:Sg Dd w0 m0 K0 rb w m K fuel ((fb,mk)::bs) (f::fs))(h0:Qv w0)(x:Kn.W)(pl:Option Addr)(hk:x.k=45){a b:Vl}{r:List Vl}(hst:f.st=b::a::r)(ho:(a.obj||b.obj)=true):
 Calls prog 120 #[VG rb,Uo x pl] w (TV Dd w0 m0 K0 rb (VA m fuel x f fs)):=by
 have hw:VA m fuel x f fs=.stop m 3:=jh;rw[hw];obtain⟨W1,hW1⟩:∃W1,W1=w.alloc (.cells (TQ x pl) 146):=Vx;refine fF ?_;intro B Wd lw hcall HB;unfold TQ at hW1;unfold Uo TQ;clear B h hw hk hst ho;go_enter func120,ntmps120;exact agz
theorem bD {rb:Nat}{fuel fb mk:Nat}(h:Sg Dd w0 m0 K0 rb w m K fuel ((fb,mk)::bs) (f::fs))(h0:Qv w0)(x:Kn.W)(pl:Option Addr)(hk:x.k=42){a b:Int}{r:List Vl}(hst:f.st=⟨false,b⟩::⟨false,a⟩::r):
 Calls prog 121 #[VG rb,Uo x pl] w (TV Dd w0 m0 K0 rb (VA m fuel x f fs)):=by
 have hw:VA m fuel x f fs=.on m fuel ({f with st:=⟨false,Kn.wrap64 (a*b)⟩::r}::fs):=JD;rw[hw];obtain⟨W1,hW1⟩:∃W1,W1=w.alloc (.cells (TQ x pl) 146):=Vx;refine jr ?_;intro B ct l1 Wd lw h_ hcall;rw[show Kn.wrap64 (a*b)=Go.RowKit.wrap64 (a*b) from adz];have HB:Hid _:=B;unfold TQ at hW1;unfold Uo TQ;clear B h hw hk hst;go_enter func121,ntmps121;go_wp2_with fail;rw[<- hW1];clear hW1;clear Wd lw;refine rD ?_;intro w2 hf2 hc2 XS;have p_:=RX hf2 VH ⟨false,Go.RowKit.wrap64 (a*b)⟩;unfold Vl.val at p_;clear hcall hf2;go_wp2_with fail;refine p_.mono ?_;rintro e w2 ⟨rfl,hf2,hc3⟩;have za:Hid _:=hf2;clear hf2 p_;go_wp2
 go_end0
 exact⟨rfl,K,_,HB.o.sg.top (f':={f with st:=⟨false,Go.RowKit.wrap64 (a*b)⟩::r}) h0 (hc2.then hc3 Qi) za.o rfl rfl⟩
theorem aC {rb:Nat}{fuel fb mk:Nat}(h:Sg Dd w0 m0 K0 rb w m K fuel ((fb,mk)::bs) (f::fs))(h0:Qv w0)(x:Kn.W)(pl:Option Addr)(hk:x.k=42){a b:Vl}{r:List Vl}(hst:f.st=b::a::r)(ho:(a.obj||b.obj)=true):
 Calls prog 121 #[VG rb,Uo x pl] w (TV Dd w0 m0 K0 rb (VA m fuel x f fs)):=by
 have hw:VA m fuel x f fs=.stop m 3:=jh;rw[hw];obtain⟨W1,hW1⟩:∃W1,W1=w.alloc (.cells (TQ x pl) 146):=Vx;refine fF ?_;intro B Wd lw hcall HB;unfold TQ at hW1;unfold Uo TQ;clear B h hw hk hst ho;go_enter func121,ntmps121;exact agz
theorem oK {rb:Nat}{fuel fb mk:Nat}(h:Sg Dd w0 m0 K0 rb w m K fuel ((fb,mk)::bs) (f::fs))(h0:Qv w0)(x:Kn.W)(pl:Option Addr)(hk:x.k=60){a b:Int}{r:List Vl}(hst:f.st=⟨false,b⟩::⟨false,a⟩::r):
 Calls prog 122 #[VG rb,Uo x pl] w (TV Dd w0 m0 K0 rb (VA m fuel x f fs)):=by
 have hw:VA m fuel x f fs=.on m fuel ({f with st:=vG (decide (a<b))::r}::fs):=JD;rw[hw];obtain⟨W1,hW1⟩:∃W1,W1=w.alloc (.cells (TQ x pl) 146):=Vx;refine jr ?_;intro B ct l1 Wd lw h_ hcall;have HB:Hid _:=B;unfold TQ at hW1;unfold Uo TQ;clear B h hw hk hst;go_enter func122,ntmps122;go_wp2_with fail;rw[<- hW1];clear hW1;refine rD ?_;intro w2 hf2 hc2 XS;have S6:=ZY l1 hc2.size;have htr:=zh (decide (a<b)) w2.drew;have QP:Hid _:=hf2;clear hcall hf2;go_wp2_with fail;refine Uy ?_;refine ZT (S:=(λw'=>w'.cell? (VJ rb 24)=some (VG fb))) VE UG (λhHeld=>?_);refine zr3 ?_;refine Ur 6 ?_;refine Ul 7 λY_ Z_=>?_;go_simp;refine htr.mono ?_;rintro e w2 ⟨rfl,hb3⟩;have XS:=(hb3.cell (p:=(VJ rb 24)) S6).trans XS
 try go_wp2_with fail
 refine Z_.go λhHeld=>?_;clear Z_ Y_
 try refine UE ?_
 have xT:=RH hb3;have hf2:=QP.o.same (xT.block fb QP.o.Vb.lt);have p_:=RX hf2 VH (vG (decide (a<b)));have S6:=ZY S6 xT.size;clear htr hb3 hf2;refine Ul 8 λY_ Z_=>?_;refine CV ?_;rintro e w2 ⟨rfl,hf2,hc4⟩;have XS:=(Z9 (a:=(VJ rb 24)) (hc4.block _ S6 HB.o.n1)).trans XS
 try go_wp2_with fail
 refine Z_.go λhHeld=>?_;clear Z_ Y_;refine Um ?_
 go_end0
 exact⟨rfl,K,_,HB.o.sg.top (f':={f with st:=vG (decide (a<b))::r}) h0 ((hc2.then (Vt.of_below xT (λ_=>False)) Js).then hc4 Qi) hf2 rfl rfl⟩
theorem mD {rb:Nat}{fuel fb mk:Nat}(h:Sg Dd w0 m0 K0 rb w m K fuel ((fb,mk)::bs) (f::fs))(h0:Qv w0)(x:Kn.W)(pl:Option Addr)(hk:x.k=60){a b:Vl}{r:List Vl}(hst:f.st=b::a::r)(ho:(a.obj||b.obj)=true):
 Calls prog 122 #[VG rb,Uo x pl] w (TV Dd w0 m0 K0 rb (VA m fuel x f fs)):=by
 have hw:VA m fuel x f fs=.stop m 3:=jh;rw[hw];obtain⟨W1,hW1⟩:∃W1,W1=w.alloc (.cells (TQ x pl) 146):=Vx;refine fF ?_;intro B Wd lw hcall HB;unfold TQ at hW1;unfold Uo TQ;clear B h hw hk hst ho;go_enter func122,ntmps122;exact agz
theorem ajZ {rb:Nat}{fuel fb mk:Nat}(h:Sg Dd w0 m0 K0 rb w m K fuel ((fb,mk)::bs) (f::fs))(h0:Qv w0)(x:Kn.W)(pl:Option Addr)(hk:x.k=111){v:Vl}{r:List Vl}(hst:f.st=v::r):
 Calls prog 124 #[VG rb,Uo x pl] w (TV Dd w0 m0 K0 rb (VA m fuel x f fs)):=by
 have hw:VA m fuel x f fs=.on m fuel ({f with st:=r}::fs):=JD;rw[hw];obtain⟨W1,hW1⟩:∃W1,W1=w.alloc (.cells (TQ x pl) 146):=Vx;refine rW ?_;intro B Wd lw Q_;have hcall:=take_any Q_;clear Q_;have HB:Hid _:=B;unfold TQ at hW1;unfold Uo TQ;clear B h hw hk hst;go_enter func124,ntmps124;go_wp2_with fail;rw[<- hW1];clear hW1;refine hcall.mono ?_;rintro e w2 ⟨rfl,hf2,hc2⟩;have QP:Hid _:=hf2;clear hcall hf2;go_wp2
 go_end0
 exact⟨rfl,K,_,HB.o.sg.top (f':={f with st:=r}) h0 hc2 QP.o rfl rfl⟩
theorem anX {rb:Nat}{fuel fb mk:Nat}(h:Sg Dd w0 m0 K0 rb w m K fuel ((fb,mk)::bs) (f::fs))(h0:Qv w0)(x:Kn.W)(pl:Option Addr)(hk:x.k=62)(i:Nat)(hi:x.n=i):
 Calls prog 126 #[VG rb,Uo x pl] w (TV Dd w0 m0 K0 rb (VA m fuel x f fs)):=by
 have hw:VA m fuel x f fs=.on m fuel ({f with pc:=i}::fs):=by unfold VA;simp[hk,hi]
 rw[hw];obtain⟨W1,hW1⟩:∃W1,W1=w.alloc (.cells (TQ x pl) 146):=Vx;refine Ju ?_;intro B ct;have x1:=B.x1;rw[hi]at x1;have Q_:=B.sg.LY.1.raw;have cp:=Q_.cp;have fz:=λo=>Q_.Vb.free o;have Z1:¬fb=rb:=λe=>B.n1 e.symm;have Z1:¬fb=w.heap.size:=λe=>B.n2 e.symm;clear Q_;have HB:Hid _:=B;unfold TQ at hW1;unfold Uo TQ;clear B h hw hk hi;go_enter func126,ntmps126;go_wp2_with fail;rw[<- hW1];clear hW1;refine Uy ?_;refine ajB ?_;intro hHeld;refine Il ?_;intro Y_ Z_;refine Vg ?_;intro hHeld;clear Z_ Y_;refine Um ?_
 go_end0
 exact⟨rfl,K,_,HB.o.sg.top (f':={f with pc:=i}) h0 ((Vt.refl W1 (λk=>k=fb)).setCell _ _ (λ_=>rfl)).drew ((HB.o.sg.LY.1.raw.goto i).same rfl) rfl rfl⟩
theorem afg {rb:Nat}{fuel fb mk:Nat}(h:Sg Dd w0 m0 K0 rb w m K fuel ((fb,mk)::bs) (f::fs))(h0:Qv w0)(x:Kn.W)(pl:Option Addr)(hk:x.k=114){v:Vl}{r:List Vl}(hst:f.st=v::r)(C':fs.length<=32)(hroom:∀g gs,fs=g::gs->g.st.length<16):
 Calls prog 135 #[VG rb,Uo x pl] w (TV Dd w0 m0 K0 rb (VA m fuel x f fs)):=by
 have hw:VA m fuel x f fs=QJ m fuel v fs:=JD;rw[hw];obtain⟨W1,hW1⟩:∃W1,W1=w.alloc (.cells (TQ x pl) 146):=Vx;refine rW ?_;intro B Wd lw Q_;have hcall:=take_any Q_;clear Q_;have HB:Hid _:=B;unfold TQ at hW1;unfold Uo TQ;clear B h hw hk hst;go_enter func135,ntmps135;go_wp2_with fail;rw[<- hW1];clear hW1;refine hcall.mono ?_;rintro e w2 ⟨rfl,hf2,hc2⟩;have h2:=HB.o.sg.top (f':={f with st:=r}) h0 hc2 hf2 rfl rfl;have SP:=sS h2 h0 v C' hroom;clear hcall hf2 h2;unfold Vl.val at *;go_wp2_with fail;refine SP.mono ?_;intro e w2 hp
 cases fs with
 | nil=>
  obtain⟨rfl,hr⟩:=hp;have HP:Hid _:=hr;clear hr SP;go_wp2
  go_end0
  exact⟨rfl,HP.o⟩
 | cons g gs=>
  obtain⟨rfl,hr⟩:=hp;have HP:Hid _:=hr;clear hr SP;go_wp2
  go_end0
  exact⟨rfl,HP.o⟩
theorem jU {rb:Nat}{fuel fb mk:Nat}(h:Sg Dd w0 m0 K0 rb w m K fuel ((fb,mk)::bs) (f::fs))(h0:Qv w0)(x:Kn.W)(pl:Option Addr)(hk:x.k=63)(i:Nat)(hi:x.n=i){r:List Vl}(hst:f.st=⟨false,0⟩::r):
 Calls prog 127 #[VG rb,Uo x pl] w (TV Dd w0 m0 K0 rb (VA m fuel x f fs)):=by
 have hw:VA m fuel x f fs=.on m fuel ({f with st:=r,pc:=i}::fs):=by unfold VA;simp[hk,hi,hst]
 rw[hw];obtain⟨W1,hW1⟩:∃W1,W1=w.alloc (.cells (TQ x pl) 146):=Vx;refine Ju ?_;intro B ct;have x1:=B.x1;have l1:=B.l1;have l3:=B.l3;rw[hi]at x1;refine aW ?_;intro Wd lw Q_;rw[hst]at Q_;have hcall:=Lu Q_;clear Q_;have HB:Hid _:=B;unfold TQ at hW1;unfold Uo TQ;clear B h hw hk hst hi;go_enter func127,ntmps127;go_wp2_with fail;rw[<- hW1];clear hW1;refine rD ?_;intro w2 hf2 hc2 XS;have x1:=(Z9 (a:=(VJ w.heap.size 1)) (hc2.block _ l3 HB.o.n2)).trans x1;have cp:=hf2.cp;have fz:=λo=>hf2.Vb.free o;have Z1:¬fb=rb:=λe=>HB.o.n1 e.symm;have Z1:¬fb=w.heap.size:=λe=>HB.o.n2 e.symm;have QP:Hid _:=hf2;clear hcall hf2 Wd lw;go_wp2_with fail;refine Uy ?_;refine ajB ?_;intro hHeld;refine Il ?_;intro Y_ Z_;refine Vg ?_;intro hHeld;clear Z_ Y_;refine Um ?_
 go_end0
 exact⟨rfl,K,_,HB.o.sg.top (f':={f with st:=r,pc:=i}) h0 (hc2.then ((Vt.refl w2 (λk=>k=fb)).setCell _ _ (λ_=>rfl)).drew Qi) ((QP.o.goto i).same rfl) rfl rfl⟩
theorem mX {rb:Nat}{fuel fb mk:Nat}(h:Sg Dd w0 m0 K0 rb w m K fuel ((fb,mk)::bs) (f::fs))(h0:Qv w0)(x:Kn.W)(pl:Option Addr)(hk:x.k=63)(i:Nat)(hi:x.n=i){r:List Vl}{n:Int}(hn:n≠0)(hst:f.st=⟨false,n⟩::r):
 Calls prog 127 #[VG rb,Uo x pl] w (TV Dd w0 m0 K0 rb (VA m fuel x f fs)):=by
 have hw:VA m fuel x f fs=.on m fuel ({f with st:=r}::fs):=by unfold VA;simp[hk,hi,hst,hn]
 rw[hw];obtain⟨W1,hW1⟩:∃W1,W1=w.alloc (.cells (TQ x pl) 146):=Vx;have B:=h.box x pl hW1;have x1:=B.x1;rw[hi]at x1;refine aW ?_;intro Wd lw Q_;rw[hst]at Q_;have hcall:=Lu Q_;clear Q_;have HB:Hid _:=B;unfold TQ at hW1;unfold Uo TQ;clear B h hw hk hst hi;go_enter func127,ntmps127;go_wp2_with fail;rw[<- hW1];clear hW1;refine hcall.mono ?_;rintro e w2 ⟨rfl,hf2,hc2⟩;have QP:Hid _:=hf2;clear hcall hf2 Wd lw;go_wp2
 go_end0
 exact⟨rfl,K,_,HB.o.sg.top (f':={f with st:=r}) h0 hc2 QP.o rfl rfl⟩
theorem aeC {rb:Nat}{fuel fb mk:Nat}(h:Sg Dd w0 m0 K0 rb w m K fuel ((fb,mk)::bs) (f::fs))(h0:Qv w0)(x:Kn.W)(pl:Option Addr)(hk:x.k=63){n:Int}{r:List Vl}(hst:f.st=⟨true,n⟩::r):
 Calls prog 127 #[VG rb,Uo x pl] w (TV Dd w0 m0 K0 rb (VA m fuel x f fs)):=by
 have hw:VA m fuel x f fs=.stop m 3:=JD;rw[hw];obtain⟨W1,hW1⟩:∃W1,W1=w.alloc (.cells (TQ x pl) 146):=Vx;refine rW ?_;intro B Wd lw Q_;have hcall:=BL Q_;clear Q_;have HB:Hid _:=B;unfold TQ at hW1;unfold Uo TQ;clear B h hw hk hst;go_enter func127,ntmps127;go_wp2_with fail;rw[<- hW1];clear hW1;refine hcall.mono ?_;rintro e w2 ⟨rfl,hc2⟩;clear hcall Wd lw;go_wp2;exact ahs
theorem ak3 {rb:Nat}{fuel fb mk:Nat}(h:Sg Dd w0 m0 K0 rb w m K fuel ((fb,mk)::bs) (f::fs))(h0:Qv w0)(x:Kn.W)(pl:Option Addr)(hk:x.k=100){v:Vl}{r:List Vl}(hst:f.st=v::r)(hr:r.length+1<16):
 Calls prog 125 #[VG rb,Uo x pl] w (TV Dd w0 m0 K0 rb (VA m fuel x f fs)):=by
 have hw:VA m fuel x f fs=.on m fuel ({f with st:=v::v::r}::fs):=JD;rw[hw];obtain⟨W1,hW1⟩:∃W1,W1=w.alloc (.cells (TQ x pl) 146):=Vx;refine Ju ?_;intro B ct;have l1:=B.l1;refine aW ?_;intro Wd lw Q_;rw[hst]at Q_;have hcall:=take_any Q_;unfold Vl.val at hcall;clear Q_;have HB:Hid _:=B;unfold TQ at hW1;unfold Uo TQ;clear B h hw hk hst;go_enter func125,ntmps125;go_wp2_with fail;rw[<- hW1];clear hW1;refine hcall.mono ?_;rintro e w2 ⟨rfl,hf2,hc2⟩;have S6:=ZY l1 hc2.size;clear hcall Wd lw;go_wp2_with fail;obtain⟨W1,hW1⟩:∃W1,W1=w2.alloc (.cells #[.bool v.obj,VI v.n] 33):=Vx;rw[<- hW1];have hb3:Below w2.heap.size w2 W1:=fQ;have hv3:W1.heap[w2.heap.size]?=some (.cells #[.bool v.obj,VI v.n] 33):=abf;have v0:W1.cell? (VJ w2.heap.size 0)=some (.bool v.obj):=by simp only[World.cell?,hv3];rfl
 have v1:W1.cell? (VJ w2.heap.size 1)=some (VI v.n):=by simp only[World.cell?,hv3];rfl
 have YY:=(hb3.cell (p:=(VJ rb 24)) S6).trans ((Z9 (a:=(VJ rb 24)) iY).trans ct);have S6:=ZY S6 hb3.size;have xF:=(Z5.1 hv3).1;have hf3:=hf2.same (hb3.block fb hf2.Vb.lt);have vi:w2.heap.size≠fb:=λe=>by have:=hf2.Vb.lt;omega
 have p_:=RX (w:=W1.drew) (hf3.same rfl) VH v;unfold Vl.val at p_;have B7:=UQ (hc2.then (Vt.of_below hb3 (λ_=>False)) Js);clear hW1 hf2 hf3 hv3 hb3 hc2;refine Uy ?_;refine ag1 ?_;intro hHeld;refine pJ ?_;refine FC ?_;intro Y_ Z_;refine CV ?_;rintro e w4 ⟨rfl,hf2,hc2⟩;have S4:=(Z9 (a:=(VJ rb 24)) (hc2.block _ S6 HB.o.n1)).trans YY;have v04:=(Z9 (a:=(VJ w2.heap.size 0)) iL).trans v0;have v14:=(Z9 (a:=(VJ w2.heap.size 1)) iL).trans v1
 try go_wp2_with fail
 refine Z_.go λhHeld=>?_;clear Z_ Y_;refine Um ?_;have hs4:=hc2.size;have S6:=ZY S6 hs4;have xF:=ZY xF hs4;have BT:=RX (w:=w4.drew) (hf2.same rfl) Ea v;unfold Vl.val at BT;have B7:=UQ (B7.o.then ((Vt.refl W1 _).drew.then hc2 Qi) Qi);clear p_ hf2 hc2 YY v0 v1 hs4;go_wp2_with fail;refine Uy ?_;refine ag1 ?_;intro hHeld;refine pJ ?_;refine FC ?_;intro Y_ Z_;go_simp;refine BT.mono ?_;rintro e w5 ⟨rfl,hf2,hc2⟩;have YY:=(Z9 (a:=(VJ rb 24)) (hc2.block _ S6 HB.o.n1)).trans S4;have v0:=(Z9 (a:=(VJ w2.heap.size 0)) iL).trans v04;have v0:=(Z9 (a:=(VJ w2.heap.size 1)) iL).trans v14
 try go_wp2_with fail
 refine Z_.go λhHeld=>?_;clear Z_ Y_;refine Um ?_
 go_end0
 exact⟨rfl,K,_,HB.o.sg.top (f':={f with st:=v::v::r}) h0 (B7.o.then ((Vt.refl w4 _).drew.then hc2 Qi) Qi) hf2 rfl rfl⟩
end Go.Proofs.Rz
