import Derived.Laws.BitsLemmas
import Derived.Test.YtkghmgoefiepeaaGreatDoorA
set_option linter.all false
set_option maxHeartbeats 4000000
set_option maxRecDepth 100000
namespace Kn
open Go
abbrev bl (s:ByteArray):List UInt8:=s.data.toList
def VB (s:ByteArray):(bl s).length=s.size:=rfl
def Si (s:ByteArray)(k:Nat)(h:k<s.size):(bl s)[k]?=some s[k]:=by
 rw[Z8 (by rw[VB];exact h)];rfl
def isSmall (c:UInt8):Bool:=decide (97<=c.toNat)&&decide (c.toNat<=122)
def Rf (c:UInt8):Bool:=decide (65<=c.toNat)&&decide (c.toNat<=90)
def U8 (c:UInt8):Bool:=decide (48<=c.toNat)&&decide (c.toNat<=57)
def className (l:List UInt8):Bool:=decide (1<=l.length)&&decide (l.length<=6)&&Rf (l[0]?.getD 0)&&(l.drop 1).all isSmall
def selector (l:List UInt8):Bool:=
 decide (3<=l.length)&&decide (l.length<=8)&&decide (l[l.length-2]?.getD 0=47)&&decide (48<=(l[l.length-1]?.getD 0).toNat)&&decide ((l[l.length-1]?.getD 0).toNat<=51)&&(l.take (l.length-2)).all isSmall
def U6 (l:List UInt8):Nat:=(l[l.length-1]?.getD 0).toNat-48
def numOf (l:List UInt8):Nat:=l.foldl (λn d=>10*n+(d.toNat-48)) 0
def number (l:List UInt8)(most:Nat):Option Nat:=if 1<=l.length&&decide (l.length<=most)&&l.all U8 then some (numOf l) else none
def tH (l:List UInt8)(p:UInt8->Bool)(a:Nat):(l.drop a).all p=true↔∀j c,a<=j->l[j]?=some c->p c=true:=by
 rw[Y9];constructor
 . intro h j c ha hj;refine h c (ZK (i:=j-a) ?_);rw[Zn,show a+(j-a)=j from VH];exact hj
 . intro h c hc;exact ahm
def Ib (l:List UInt8)(p:UInt8->Bool)(n:Nat):(l.take n).all p=true↔∀j c,j<n->l[j]?=some c->p c=true:=by
 rw[Y9];constructor
 . intro h j c ha hj;refine h c (ZK (i:=j) ?_);rw[Zl ha];exact hj
 . intro h c hc;obtain⟨k,hk⟩:=YG.1 hc;by_cases hkn:k<n
   . rw[Zl hkn]at hk;exact h k c hkn hk
   . rw[Yj VH]at hk;cases hk
def OU (s:ByteArray)(a b:Nat):(s.extract a b).data.toList=(s.data.toList.take b).drop a:=by
 rw[ByteArray.data_extract,Array.toList_extract,List.extract_eq_take_drop,WH]
def fK (s:ByteArray)(b:Nat):(s.extract 0 b).data.toList=(bl s).take b:=by rw[OU];rfl
def Qw (s:ByteArray)(k:Nat)(h:k<s.size):(bl s)[k]?.getD 0=s[k]:=by rw[Si s k h];rfl
def Vk (l:List UInt8)(most:Nat):Int:=match number l most with|some n=>(n:Int)|none=>-1
def Sj {c:UInt8}:U8 c=true↔48<=c.toNat/\c.toNat<=57:=by simp[U8]
def xw (l:List UInt8)(c:UInt8):numOf (l++[c])=10*numOf l+(c.toNat-48):=by simp[numOf,Wy]
def take_snoc (s:ByteArray)(k:Nat)(h:k<s.size):(bl s).take (k+1)=(bl s).take k++[s[k]]:=by
 rw[List.take_succ_eq_append_getElem (by rw[VB];exact h)];rfl
def Dk (s:ByteArray)(k:Nat)(h:k<s.size):numOf ((bl s).take (k+1))=10*numOf ((bl s).take k)+(s[k].toNat-48):=by
 rw[take_snoc s k h,xw]
theorem IK:∀(l:List UInt8) (a k:Nat),a<10 ^ k->l.all U8=true->l.foldl (λn d=>10*n+(d.toNat-48)) a<10 ^ (k+l.length)
 | [],a,k,h,_=>Nv
 | c::r,a,k,h,hd=>by
  simp only[List.all_cons,ZB]at hd;have h1:=Sj.1 hd.1;have:=IK r (10*a+(c.toNat-48)) (k+1) (by rw[Nat.pow_succ];omega) hd.2;simp only[WT,ZI];rw[show k+(r.length+1)=k+1+r.length from VH];exact this
def IY (l:List UInt8)(k:Nat)(h:l.length<=k)(hd:l.all U8=true):numOf l<10 ^ k:=by
 have:=IK l 0 0 Vy hd;rw[YU]at this;exact ZY this (Yb VH h)
def Oj (l:List UInt8)(m:Nat)(h:¬(1<=l.length/\l.length<=m/\l.all U8=true)):number l m=none:=by
 unfold number;rw[ZX];intro hh;simp only[ZB,Zq]at hh;exact h ⟨hh.1.1,hh.1.2,hh.2⟩
def Fa (l:List UInt8)(m:Nat)(h1:1<=l.length)(h2:l.length<=m)(h3:l.all U8=true):number l m=some (numOf l):=by
 unfold number;rw[ZU];simp only[ZB,Zq];exact⟨⟨h1,h2⟩,h3⟩
def jo (l:List UInt8)(m:Nat)(h:¬(1<=l.length/\l.length<=m)):Vk l m=-1:=by
 unfold Vk;rw[Oj l m (λhh=>h ⟨hh.1,hh.2.1⟩)]
def uV (l:List UInt8)(m k:Nat)(c:UInt8)(hc:l[k]?=some c)(hd:U8 c=false):Vk l m=-1:=by
 unfold Vk;rw[Oj l m];intro hh;have:=Y9.1 hh.2.2 c (ZK hc);rw[hd]at this;cases this
def bC (s:ByteArray)(m:Nat)(h1:1<=s.size)(h2:s.size<=m)(h3:∀j c,j<s.size->(bl s)[j]?=some c->U8 c=true):Vk (bl s) m=(numOf ((bl s).take s.size):Nat):=by
 have e:(bl s).take s.size=bl s:=XU G8;have:=(Ib _ _ _).2 h3;rw[e]at this;unfold Vk;rw[Fa _ m (by rw[VB];exact h1) (by rw[VB];exact h2) this,e]
abbrev VF (l:List UInt8):ByteArray:=⟨l.toArray⟩
def NV (l:List UInt8):bl (VF l)=l:=rfl
def abl (s:ByteArray):VF (bl s)=s:=rfl
def adB {a b:ByteArray}(h:bl a=bl b):a=b:=by rw[<- abl a,<- abl b,h]
def N9 (s:ByteArray)(a:Nat):s.extract a s.size=VF ((bl s).drop a):=by
 apply adB;rw[NV];show (s.extract a s.size).data.toList=_;rw[OU];congr 1;exact Yv
def Gj (s:ByteArray)(a b:Nat):s.extract a b=VF (((bl s).take b).drop a):=by
 apply adB;rw[NV];exact OU s a b
structure W where
 k:Nat
 n:Int
 sel:List UInt8
 a:List UInt8
 b:List UInt8
def w0:W:=⟨0,0,[],[],[]⟩
def Tm (x:W)(at_:Int):Value:=.agg #[.int .u8 x.k,VI x.n,.string (VF x.sel),.string (VF x.a),.string (VF x.b),VI at_]
def Va (l:List UInt8):Option W:=
 if l=[115,101,108,102] then some ⟨109,0,[],[],[]⟩
 else if l=[112,111,112] then some ⟨111,0,[],[],[]⟩
 else if l=[100,117,112] then some ⟨100,0,[],[],[]⟩
 else if l=[114,101,116] then some ⟨114,0,[],[],[]⟩
 else if l=[43] then some ⟨43,0,[],[],[]⟩
 else if l=[45] then some ⟨45,0,[],[],[]⟩
 else if l=[42] then some ⟨42,0,[],[],[]⟩
 else if l=[60] then some ⟨60,0,[],[],[]⟩
 else if l=[61] then some ⟨61,0,[],[],[]⟩
 else none
def Vw:List UInt8->List (List UInt8)
 | []=>[[]]
 | c::r=>if c=46 then []::Vw r else match Vw r with|[]=>[[c]]|p::q=>(c::p)::q
theorem PZ:∀(p:List UInt8),(∀c∈p,c≠46)->Vw p=[p]
 | [],_=>rfl
 | c::r,h=>by
  have h1:=PZ r (λx hx=>h x (by simp[hx]));have h2:¬c=46:=h c Vy;rw[Vw,ZX h2,h1]
theorem QU:∀(p r:List UInt8),(∀c∈p,c≠46)->Vw (p++46::r)=p::Vw r
 | [],r,_=>by rw[Yg,Vw,ZU rfl]
 | c::p,r,h=>by
  have h1:=QU p r (λx hx=>h x (by simp[hx]));have h2:¬c=46:=h c Vy;rw[YR,Vw,ZX h2,h1]
def aI (l:List UInt8)(a:Nat)(h:∀j c,a<=j->l[j]?=some c->c≠46):Vw (l.drop a)=[(l.take l.length).drop a]:=by
 rw[Yv];refine PZ _ λc hc=>?_;exact ahm
def ac6 (l:List UInt8)(a k:Nat)(I0:a<=k)(hk:l[k]?=some 46)(h:∀j c,a<=j->j<k->l[j]?=some c->c≠46):Vw (l.drop a)=(l.take k).drop a::Vw (l.drop (k+1)):=by
 obtain⟨hlt,hg⟩:=Z7.1 hk
 have e:l.drop a=(l.take k).drop a++46::l.drop (k+1):=by
  have e1:l=l.take k++46::l.drop (k+1):=by
   have:=Yw k l;rw[Yx hlt,hg]at this;exact this.symm
  have e2:(l.take k).length=k:=aed;have e2:(l.take k++46::l.drop (k+1)).drop a=(l.take k).drop a++46::l.drop (k+1):=Yp VH;rw[<- e2,<- e1]
 rw[e];refine QU _ _ λc hc=>?_;obtain⟨i,hi⟩:=YG.1 hc;rw[Zn]at hi;by_cases hik:a+i<k
 . rw[Zl hik]at hi;exact h (a+i) c VH hik hi
 . rw[Yj VH]at hi;cases hi
theorem Rq:∀(l p:List UInt8),p∈Vw l->p.length<=l.length
 | [],p,h=>by simp[Vw]at h;simp[h]
 | c::r,p,h=>by
  rw[Vw]at h;split at h
  . rcases ZM.1 h with rfl|h
    . simp
    . have:=Rq r p h;simp;omega
  . cases hr:Vw r with
    | nil=>rw[hr]at h;simp at h;subst h;simp
    | cons q t=>
     rw[hr]at h;rcases ZM.1 h with rfl|h
     . have:=Rq r q (by rw[hr];simp);simp;omega
     . have:=Rq r p (by rw[hr];simp[h]);simp;omega
def MZ (l:List UInt8):Vw l≠[]:=by
 cases l with
 | nil=>simp[Vw]
 | cons c r=>
  rw[Vw];split
  . simp
  . split<;>simp
def PX (l:List UInt8)(a k:Nat)(ys:List ByteArray):Prop:=
 ys.length<=k/\((k<=l.length/\a<=k/\Vw l=ys.map bl++Vw (l.drop a)/\∀j c,a<=j->j<k->l[j]?=some c->c≠46)\/(k=l.length+1/\Vw l=ys.map bl))
def Aj (l:List UInt8):PX l 0 0 []:=⟨ZN _,.inl ⟨Yy _,ZN _,Vy,λj c _ h=>VH⟩⟩
def vK {s:ByteArray}{a k:Nat}{ys:List ByteArray}(h:PX (bl s) a k ys)(hk:k<s.size)(hc:s[k]≠46):PX (bl s) a (k+1) ys:=by
 obtain⟨hl,h|h⟩:=h
 . obtain⟨h1,h1,h1,h4⟩:=h;refine⟨VH,.inl ⟨G8,VH,h1,λj c hj hjk hg=>?_⟩⟩;by_cases e:j=k
   . subst e;rw[Si s j hk]at hg;injection hg with hg;rw[<- hg];exact hc
   . exact h4 j c hj VH hg
 . have:=h.1;rw[VB]at this;omega
def uO {s:ByteArray}{a k:Nat}{ys:List ByteArray}(h:PX (bl s) a k ys)(hk:k<s.size)(hc:s[k]=46):PX (bl s) (k+1) (k+1) (ys++[s.extract a k]):=by
 obtain⟨hl,h|h⟩:=h
 . obtain⟨h1,h1,h3,h4⟩:=h;refine⟨Vo,.inl ⟨G8,ZN _,?_,λj c hj hjk=>VH⟩⟩;rw[h3,ac6 (bl s) a k h1 (by rw[Si s k hk,hc]) h4];simp[OU]
 . have:=h.1;rw[VB]at this;omega
def wP {s:ByteArray}{a:Nat}{ys:List ByteArray}(h:PX (bl s) a s.size ys):PX (bl s) (s.size+1) (s.size+1) (ys++[s.extract a s.size]):=by
 obtain⟨hl,h|h⟩:=h
 . obtain⟨h1,h1,h1,h4⟩:=h;refine⟨Vo,.inr ⟨by rw[VB],?_⟩⟩;rw[h1,aI (bl s) a (λj c hj hg=>h4 j c hj (by have:=(Z7.1 hg).1;rw[VB]at this;exact this) hg)];simp[OU,VB]
 . have:=h.1;rw[VB]at this;omega
def kY {s:ByteArray}{a k:Nat}{ys:List ByteArray}(h:PX (bl s) a k ys)(hk:k<=s.size):a<=k:=by
 obtain⟨hl,h|h⟩:=h
 . exact h.2.1
 . have:=h.1;rw[VB]at this;omega
def wo {s:ByteArray}{a k:Nat}{ys:List ByteArray}(h:PX (bl s) a k ys)(hk:¬k<=s.size):Vw (bl s)=ys.map bl:=by
 obtain⟨hl,h|h⟩:=h
 . have:=h.1;rw[VB]at this;omega
 . exact h.2
def first (l:List UInt8):Nat:=(l[0]?.getD 0).toNat
def LZ (l:List UInt8):Option W:=if l.length=3/\l.take 2=[61,115]/\U8 (l[2]?.getD 0)=true then some ⟨112,((l[2]?.getD 0).toNat-48:Nat),[],[],[]⟩ else none
def Mc (l:List UInt8):Option W:=if first l=115/\0<=Vk (l.drop 1) 1 then some ⟨103,Vk (l.drop 1) 1,[],[],[]⟩ else LZ l
def LH (l:List UInt8):Option W:=if first l=97/\0<=Vk (l.drop 1) 1/\Vk (l.drop 1) 1<3 then some ⟨97,Vk (l.drop 1) 1,[],[],[]⟩ else Mc l
def Nz (l:List UInt8):Option W:=if (first l=62\/first l=63)/\0<=Vk (l.drop 1) 2 then some ⟨first l,Vk (l.drop 1) 2,[],[],[]⟩ else LH l
def KJ (l:List UInt8):Option W:=if first l=45/\0<=Vk (l.drop 1) 4 then some ⟨110,- Vk (l.drop 1) 4,[],[],[]⟩ else Nz l
def KZ (l:List UInt8):Option W:=if 0<=Vk l 4 then some ⟨110,Vk l 4,[],[],[]⟩ else KJ l
def Px (l:List UInt8):Option W:=if first l=94/\selector (l.drop 1)=true then some ⟨94,(U6 (l.drop 1):Nat),l.drop 1,[],[]⟩ else KZ l
def SY (l:List UInt8):Option W:=if selector l=true then some ⟨115,(U6 l:Nat),l,[],[]⟩ else Px l
def Oi (l:List UInt8)(m:Nat)(hm:m<=4):-1<=Vk l m/\Vk l m<10000:=by
 unfold Vk number;split
 . rename_i n hn;split at hn
   . rename_i hc;simp only[ZB,Zq]at hc;have:=IY l 4 VH hc.2;injection hn with hn;omega
   . cases hn
 . omega
def JC (s:ByteArray)(h:selector (bl s)=true):3<=s.size/\s.size<=8/\48<=((bl s)[s.size-1]?.getD 0).toNat:=by
 unfold selector at h;rw[VB]at h;simp only[ZB,Zq]at h;exact⟨h.1.1.1.1.1,h.1.1.1.1.2,h.1.1.2⟩
def Ue (l:List UInt8):List (List UInt8)->Option W
 | [p,q]=>
  if List.isPrefixOf [100,114,111,112,58] l=true then (if (className p&&selector q)=true then some ⟨120,0,q,p,[]⟩ else none)
  else if List.isPrefixOf [109,111,118,101,58] l=true then (if (className p&&className q)=true then some ⟨118,0,[],p,q⟩ else none)
  else none
 | [p,q,r]=>
  if List.isPrefixOf [99,111,112,121,58] l=true then (if (className p&&selector q&&className r)=true then some ⟨99,0,q,p,r⟩ else none)
  else none
 | _=>none
def Vs (l:List UInt8):Option W:=
 if List.isPrefixOf [110,101,119,58] l=true then (if className (l.drop 4)=true then some ⟨119,0,[],l.drop 4,[]⟩ else none)
 else if List.isPrefixOf [98,101,58] l=true then (if className (l.drop 3)=true then some ⟨98,0,[],l.drop 3,[]⟩ else none)
 else if l.length<5 then none
 else Ue l (Vw (l.drop 5))
def rd (l:List UInt8):Option W:=
 match Va l with
 | some x=>some x
 | none=>match Vs l with
  | some x=>some x
  | none=>SY l
def tok (l:List UInt8)(i:Nat):List UInt8:=(l.drop i).takeWhile (λc=>c != 32)
def Uw:Nat->List UInt8->Nat->List (W×Nat)->List (W×Nat)×Int
 | 0,_,_,acc=>(acc,-1)
 | f+1,l,i,acc=>
  if l.length<=i then (acc,-1)
  else if l[i]?.getD 0=32 then Uw f l (i+1) acc
  else match rd (tok l i) with
   | none=>([],(i:Int))
   | some x=>if acc.length=40 then ([],(i:Int)) else Uw f l (i+(tok l i).length) (acc++[(x,i)])
def Vh (l:List UInt8):List (W×Nat)×Int:=Uw (l.length+1) l 0 []
def Ec (l:List UInt8)(i:Nat)(hi:i<l.length)(h:¬l[i]?.getD 0=32):1<=(tok l i).length:=by
 unfold tok;rw[Yx hi,List.takeWhile_cons_of_pos]
 . simp
 . have e:l[i]?.getD 0=l[i]:=by rw[Z8 hi];rfl
   rw[e]at h;simpa using h
theorem Qx:∀(f g:Nat) (l:List UInt8) (i:Nat) (acc:List (W×Nat)),l.length-i<f->l.length-i<g->Uw f l i acc=Uw g l i acc
 | 0,_,_,_,_,h,_=>VH
 | _+1,0,_,_,_,_,h=>VH
 | f+1,g+1,l,i,acc,hf,hg=>by
  rw[Uw,Uw];by_cases hi:l.length<=i
  . rw[ZU hi,ZU hi]
  . rw[ZX hi,ZX hi];by_cases hb:l[i]?.getD 0=32
    . rw[ZU hb,ZU hb];exact Qx f g l (i+1) acc VH VH
    . rw[ZX hb,ZX hb];have hp:=Ec l i VH hb
      cases rd (tok l i) with
      | none=>rfl
      | some x=>
       show (if acc.length=40 then _ else _)=(if acc.length=40 then _ else _)
       by_cases Uq:acc.length=40
       . rw[ZU Uq,ZU Uq]
       . rw[ZX Uq,ZX Uq];exact Qx f g l _ _ VH VH
def Ro (l:List UInt8)(i:Nat)(acc:List (W×Nat)):Prop:=Vh l=Uw (l.length+1) l i acc/\acc.length<=i/\acc.length<=40
def Jr (l:List UInt8):Ro l 0 []:=⟨rfl,Vy,Vy⟩
def Jy {l:List UInt8}{i:Nat}{acc:List (W×Nat)}(h:Ro l i acc)(hi:i<l.length)(hb:l[i]?.getD 0=32):Ro l (i+1) acc:=by
 refine⟨?_,by have:=h.2.1;omega,h.2.2⟩;rw[h.1,Uw,ZX VH,ZU hb];exact Qx _ _ _ _ _ VH VH
def KO {l:List UInt8}{i:Nat}{acc:List (W×Nat)}(h:Ro l i acc)(hi:i<l.length)(hb:¬l[i]?.getD 0=32)(hr:rd (tok l i)=none):Vh l=([],(i:Int)):=by
 rw[h.1,Uw,ZX VH,ZX hb,hr]
def IG {l:List UInt8}{i:Nat}{acc:List (W×Nat)}(h:Ro l i acc)(hi:i<l.length)(hb:¬l[i]?.getD 0=32)(Uq:acc.length=40):Vh l=([],(i:Int)):=by
 rw[h.1,Uw,ZX VH,ZX hb]
 cases rd (tok l i) with
 | none=>rfl
 | some x=>show (if acc.length=40 then _ else _)=_;rw[ZU Uq]
def H8 {l:List UInt8}{i:Nat}{acc:List (W×Nat)}(h:Ro l i acc)(hi:i<l.length)(hb:¬l[i]?.getD 0=32){x:W}(hr:rd (tok l i)=some x)(Uq:¬acc.length=40):
 Ro l (i+(tok l i).length) (acc++[(x,i)]):=by
 have hp:=Ec l i hi hb;refine⟨?_,by have:=h.2.1;simp;omega,by have:=h.2.2;simp;omega⟩;rw[h.1,Uw,ZX VH,ZX hb,hr];show (if acc.length=40 then _ else _)=_;rw[ZX Uq];exact Qx _ _ _ _ _ VH VH
def KW {l:List UInt8}{i:Nat}{acc:List (W×Nat)}(h:Ro l i acc)(hi:¬i<l.length):Vh l=(acc,-1):=by
 rw[h.1,Uw,ZU VH]
def akG (l:List UInt8)(i k:Nat)(hik:i<=k)(hk:k<=l.length)(hin:∀j,i<=j->j<k->¬l[j]?.getD 0=32)(hend:k=l.length\/l[k]?.getD 0=32):tok l i=(l.take k).drop i/\i+(tok l i).length=k:=by
 have e:l.drop i=(l.take k).drop i++l.drop k:=by
  have e1:=(Yw k l).symm;have e2:(l.take k).length=k:=aed;have e2:(l.take k++l.drop k).drop i=(l.take k).drop i++l.drop k:=Yp VH;rw[<- e2,<- e1]
 have hlen:((l.take k).drop i).length=k-i:=by rw[Zh,Za];omega
 have h1:tok l i=(l.take k).drop i:=by
  unfold tok;rw[e]
  have hall:∀c∈(l.take k).drop i,(c != 32)=true:=by
   intro c hc;obtain⟨j,hj⟩:=YG.1 hc;rw[Zn]at hj
   have hjk:i+j<k:=by
    by_cases h:i+j<k
    . exact h
    . rw[Yj VH]at hj;cases hj
   rw[Zl hjk]at hj;have:=hin (i+j) VH hjk;rw[hj]at this;simpa using this
  rw[XO hall];rcases hend with h|h
  . rw[h,List.drop_length];simp
  . by_cases hk':k<l.length
    . rw[Yx hk',XD]
      . simp
      . have e1:l[k]?.getD 0=l[k]:=by rw[Z8 hk'];rfl
        rw[e1]at h;simp[h]
    . have:l.drop k=[]:=Zk VH;rw[this];simp
 exact⟨h1,by rw[h1,hlen];omega⟩
def QN (p:W×Nat):List Value:=[.int .u8 p.1.k,VI p.1.n,.string (VF p.1.sel),.string (VF p.1.a),.string (VF p.1.b),VI (p.2:Nat)]
def PU (l:List (W×Nat)):List Value:=l.flatMap QN
def xu (l:List (W×Nat))(p:W×Nat):PU (l++[p])=PU l++QN p:=by simp[PU]
def kinds:List Nat:=[110,109,97,103,119,112,111,63,114,43,45,42,60,61,100,115,94,98,62,120,118,99]
def U9 (k:Nat)(n:Int):Int×Int:=
 if k=110\/k=109\/k=97\/k=103\/k=119 then (0,1)
 else if k=112\/k=111\/k=63\/k=114 then (1,0)
 else if k=43\/k=45\/k=42\/k=60\/k=61 then (2,1)
 else if k=100 then (1,2)
 else if k=115 then (n+1,1)
 else if k=94 then (n,1)
 else if k=98 then (1,1)
 else (0,0)
def TS (k:Nat)(n:Int)(i:Nat):List Int:=
 if k=114 then [] else if k=62 then [n] else if k=63 then [(i:Int)+1,n] else [(i:Int)+1]
def EG (ws:List (W×Nat))(i:Nat):W:=(ws[i]?.getD (w0,0)).1
def tk (ws:List (W×Nat))(i:Nat):Nat:=(U9 (EG ws i).k (EG ws i).n).1.toNat
def ly (ws:List (W×Nat))(i:Nat):Nat:=(U9 (EG ws i).k (EG ws i).n).2.toNat
def tg (ws:List (W×Nat))(i:Nat):List Nat:=(TS (EG ws i).k (EG ws i).n i).map Int.toNat
def Ph (ws:List (W×Nat))(i h:Nat):Prop:=tk ws i<=h/\h-tk ws i+ly ws i<=16
def nx (ws:List (W×Nat))(i h:Nat):Nat:=h-tk ws i+ly ws i
def lX (ws:List (W×Nat)):Nat->Nat->Nat->Prop
 | 0,i,h=>i=0/\h=0
 | k+1,i,h=>lX ws k i h\/∃j g,j<ws.length/\lX ws k j g/\Ph ws j g/\i∈tg ws j/\h=nx ws j g
def Reach (ws:List (W×Nat))(i h:Nat):Prop:=∃k,lX ws k i h
def KY (ws:List (W×Nat)):Reach ws 0 0:=⟨0,rfl,rfl⟩
def I5 {ws:List (W×Nat)}{j g i:Nat}(hj:j<ws.length)(h:Reach ws j g)(ho:Ph ws j g)(hi:i∈tg ws j):Reach ws i (nx ws j g):=by
 obtain⟨k,hk⟩:=h;exact⟨k+1,.inr ⟨j,g,hj,hk,ho,hi,rfl⟩⟩
def zQ {ws:List (W×Nat)}(S:Nat->Nat->Prop)(h0:S 0 0)(hs:∀j g i,j<ws.length->S j g->Ph ws j g->i∈tg ws j->S i (nx ws j g)){i h:Nat}(hr:Reach ws i h):S i h:=by
 obtain⟨k,hk⟩:=hr
 induction k generalizing i h with
 | zero=>obtain⟨rfl,rfl⟩:=hk;exact h0
 | succ k ih=>
  rcases hk with hk|⟨j,g,hj,hk,ho,hi,rfl⟩
  . exact ih hk
  . exact hs j g i hj (ih hk) ho hi
def Nq {ws:List (W×Nat)}{i h:Nat}(hr:Reach ws i h):h<=16:=
 zQ (λ_ h=>h<=16) VH (λj g i _ _ ho _=>ho.2) hr
def Wrong (ws:List (W×Nat))(i:Nat):Prop:=(∃h,Reach ws i h/\¬Ph ws i h)\/(∃h1 h2,h1<h2/\Reach ws i h1/\Reach ws i h2)
def Kt (P:Nat->Prop)(n:Nat)(r:Int):Prop:=(r=-1/\∀i,i<n->¬P i)\/∃i,i<n/\r=(i:Int)/\P i/\∀j,j<i->¬P j
def rP {P:Nat->Prop}{n:Nat}{r r':Int}(h:Kt P n r)(h':Kt P n r'):r=r':=by
 rcases h with⟨rfl,h⟩|⟨i,hi,rfl,hp,hn⟩
 . rcases h' with⟨rfl,h'⟩|⟨i',hi',rfl,hp',hn'⟩
   . rfl
   . exact absurd hp' (h i' hi')
 . rcases h' with⟨rfl,h'⟩|⟨i',hi',rfl,hp',hn'⟩
   . exact absurd hp (h' i hi)
   . have:i=i':=by
      rcases Xg i i' with h|h|h
      . exact absurd hp (hn' i h)
      . exact h
      . exact absurd hp' (hn i' h)
     rw[this]
def Marked (ws:List (W×Nat))(M:Nat->Nat->Bool)(Bd:Nat->Bool):Prop:=
 M 0 0=true/\(∀i h,M i h=true->Reach ws i h)/\∀i,Bd i=true->∃h,Reach ws i h/\¬Ph ws i h
def Gone (ws:List (W×Nat))(M:Nat->Nat->Bool)(Bd:Nat->Bool)(i h:Nat):Prop:=
 M i h=true->(Ph ws i h->∀t∈tg ws i,M t (nx ws i h)=true)/\(¬Ph ws i h->Bd i=true)
def OV {ws:List (W×Nat)}{M:Nat->Nat->Bool}{Bd:Nat->Bool}(hm:Marked ws M Bd)(hg:∀i h,i<ws.length->h<=16->Gone ws M Bd i h){i h:Nat}:Reach ws i h↔M i h=true:=by
 constructor
 . intro hr
   have:h<=16/\M i h=true:=by
    refine zQ (λi h=>h<=16/\M i h=true) ⟨VH,hm.1⟩ (λj g i hj hS ho hi=>⟨ho.2,?_⟩) hr;exact(hg j g hj hS.1 hS.2).1 ho i hi
   exact this.2
 . exact hm.2.1 i h
def mG {ws:List (W×Nat)}{M:Nat->Nat->Bool}{Bd:Nat->Bool}(hm:Marked ws M Bd)(hg:∀i h,i<ws.length->h<=16->Gone ws M Bd i h){i:Nat}(hi:i<ws.length):(∃h,Reach ws i h/\¬Ph ws i h)↔Bd i=true:=by
 constructor
 . rintro⟨h,hr,ho⟩;exact(hg i h hi (Nq hr) ((OV hm hg).1 hr)).2 ho
 . exact hm.2.2 i
def pairs (n:Nat):List (Nat×Nat):=(List.range (n+1)).flatMap λi=>(List.range 17).map λh=>(i,h)
def bW {n i h:Nat}(hi:i<=n)(hh:h<=16):(i,h)∈pairs n:=by
 unfold pairs;rw[List.mem_flatMap];exact⟨i,YD.2 VH,Zy.2 ⟨h,YD.2 VH,rfl⟩⟩
def Gv (n:Nat)(M:Nat->Nat->Bool):Nat:=(pairs n).countP λp=>!M p.1 p.2
theorem Gh {α:Type}(p q:α->Bool):∀(l:List α),(∀x∈l,q x=true->p x=true)->(∃x∈l,p x=true/\q x=false)->l.countP q<l.countP p
 | [],_,h=>by obtain⟨x,hx,_⟩:=h;cases hx
 | a::r,h,h'=>by
  have hle:=List.countP_mono_left (λx hx=>h x (Zo a hx));obtain⟨x,hx,hp,hq⟩:=h';rcases ZM.1 hx with rfl|hx
  . rw[Xo (by simp[hq]),X6 hp];omega
  . have ih:=Gh p q r (λx hx=>h x (Zo a hx)) ⟨x,hx,hp,hq⟩;by_cases J2:q a=true
    . rw[X6 J2,X6 (h a Vy J2)];omega
    . rw[Xo J2];by_cases vB:p a=true
      . rw[X6 vB];omega
      . rw[Xo vB];exact ih
def mark (M:Nat->Nat->Bool)(a b:Nat):Nat->Nat->Bool:=λi h=>(decide (i=a)&&decide (h=b))||M i h
def J3 (M:Nat->Nat->Bool)(a b:Nat):mark M a b a b=true:=by simp[mark]
def Ie {M:Nat->Nat->Bool}{i h:Nat}(a b:Nat)(hm:M i h=true):mark M a b i h=true:=by simp[mark,hm]
def Iw {M:Nat->Nat->Bool}{a b i h:Nat}:mark M a b i h=true↔(i=a/\h=b)\/M i h=true:=by simp[mark]
def Bl {n:Nat}{M:Nat->Nat->Bool}{a b:Nat}(ha:a<=n)(hb:b<=16)(hm:M a b=false):Gv n (mark M a b)<Gv n M:=by
 refine Gh _ _ _ (λx _ hx=>?_) ⟨(a,b),bW ha hb,by simp[hm],by simp[J3]⟩;by_cases h:M x.1 x.2=true
 . rw[Ie a b h]at hx;cases hx
 . simpa using h
def TJ (ws:List (W×Nat))(args i:Nat):Prop:=((EG ws i).k=97/\(args:Int)<=(EG ws i).n)\/(((EG ws i).k=62\/(EG ws i).k=63)/\(ws.length:Int)<(EG ws i).n)
def TG (ws:List (W×Nat))(slots i:Nat):Prop:=((EG ws i).k=103\/(EG ws i).k=112)/\(slots:Int)<=(EG ws i).n
def SC (ws:List (W×Nat))(args slots i:Nat):Prop:=TJ ws args i\/TG ws slots i
def MN (ws:List (W×Nat))(args slots:Nat)(e i:Int):Prop:=
 (∃j,j<ws.length/\i=(j:Int)/\SC ws args slots j/\(∀k,k<j->¬SC ws args slots k)/\(TJ ws args j->e=1)/\(¬TJ ws args j->e=7))\/
 ((∀j,j<ws.length->¬SC ws args slots j)/\e=6/\Kt (Wrong ws) ws.length i)
def oU {ws:List (W×Nat)}{args slots:Nat}{e i e' i':Int}(h:MN ws args slots e i)(h':MN ws args slots e' i'):e=e'/\i=i':=by
 rcases h with⟨j,hj,rfl,hb,hn,h1,h7⟩|⟨hn,rfl,hf⟩
 . rcases h' with⟨j',hj',rfl,hb',hn',h1',cU⟩|⟨hn',rfl,hf'⟩
   . have:j=j':=by
      rcases Xg j j' with h|h|h
      . exact absurd hb (hn' j h)
      . exact h
      . exact absurd hb' (hn j' h)
     subst this;refine⟨?_,rfl⟩;by_cases ha:TJ ws args j
     . rw[h1 ha,h1' ha]
     . rw[h7 ha,cU ha]
   . exact absurd hb (hn' j hj)
 . rcases h' with⟨j',hj',rfl,hb',hn',h1',cU⟩|⟨hn',rfl,hf'⟩
   . exact absurd hb' (hn j' hj')
   . exact⟨rfl,rP hf hf'⟩
structure Pv (x:W):Prop where
 kind:x.k∈kinds
 lo:-10000<x.n
 hi:x.n<10000
 send:x.k=115\/x.k=94->0<=x.n/\x.n<=3
 goto:x.k=62\/x.k=63->0<=x.n
def Kw {l:List UInt8}(h:selector l=true):U6 l<=3:=by
 unfold selector at h;simp only[ZB,Zq]at h;unfold U6;omega
def o9 {l:List UInt8}{x:W}(h:Va l=some x):Pv x:=by
 unfold Va at h
 repeat (first
  | (split at h
     . injection h with h;subst h
       exact⟨Vz,Vz,Vz,Vy,Vy⟩)
  | cases h)
def lQ {l:List UInt8}{x:W}(h:Vs l=some x):Pv x:=by
 have key:∀(k:Nat) (s a b:List UInt8),k=119\/k=98\/k=120\/k=118\/k=99->Pv ⟨k,0,s,a,b⟩:=by
  intro k s a b hk;rcases hk with rfl|rfl|rfl|rfl|rfl<;>exact⟨by simp[kinds],Vy,Vy,Vy,Vy⟩
 unfold Vs at h;split at h
 . exact acZ
 . split at h
   . exact acZ
   . split at h
     . cases h
     . unfold Ue at h;split at h
       . split at h
         . exact acZ
         . exact aoZ
       . exact aoZ
       . cases h
def aaq {l:List UInt8}{x:W}(h:SY l=some x):Pv x:=by
 have b4:=Oi l 4 VH;have c4:=Oi (l.drop 1) 4 VH;have c4:=Oi (l.drop 1) 2 VH;have c4:=Oi (l.drop 1) 1 VH;unfold SY at h;split at h
 . rename_i hs;have:=Kw hs;injection h with h;subst h;exact⟨by simp[kinds],Vo,Vo,λ_=>Vo,λe=>sH⟩
 . unfold Px at h;split at h
   . rename_i hs;have:=Kw hs.2;injection h with h;subst h;exact⟨by simp[kinds],Ei,Ei,λ_=>Ei,λe=>sH⟩
   . unfold KZ at h;split at h
     . injection h with h;subst h;exact zt0
     . unfold KJ at h;split at h
       . injection h with h;subst h;exact zt0
       . unfold Nz at h;split at h
         . rename_i hs;injection h with h;subst h;exact⟨by rcases hs.1 with e|e<;>simp[e,kinds],Ei,Ei,λe=>by simp only at e;omega,λ_=>hs.2⟩
         . unfold LH at h;split at h
           . injection h with h;subst h;exact zt0
           . unfold Mc at h;split at h
             . injection h with h;subst h;exact zt0
             . unfold LZ at h;split at h
               . rename_i hs;have hd:=Sj.1 hs.2.2;injection h with h;subst h;exact zt0
               . cases h
def gQ {l:List UInt8}{x:W}(h:rd l=some x):Pv x:=by
 unfold rd at h;split at h
 . rename_i y hy;injection h with h;subst h;exact o9 hy
 . split at h
   . rename_i y hy;injection h with h;subst h;exact lQ hy
   . exact aaq h
theorem QZ (P:W->Prop)(hP:∀l x,rd l=some x->P x):∀(f:Nat) (l:List UInt8) (i:Nat) (acc:List (W×Nat)),(∀y∈acc,P y.1)->acc.length<=40->(∀y∈(Uw f l i acc).1,P y.1)/\(Uw f l i acc).1.length<=40
 | 0,_,_,_,h,h'=>⟨h,h'⟩
 | f+1,l,i,acc,h,h'=>by
  rw[Uw];split
  . exact⟨h,h'⟩
  . split
    . exact QZ P hP f l (i+1) acc h h'
    . split
      . exact⟨λy hy=>(by cases hy),Vy⟩
      . rename_i x hx;split
        . exact⟨λy hy=>(by cases hy),Vy⟩
        . rename_i Uq;refine QZ P hP f l _ _ (λy hy=>?_) Vo;rcases YT.1 hy with hy|hy
          . exact h y hy
          . simp at hy;subst hy;exact hP _ _ hx
def Jb (l:List UInt8)(i:Nat)(x:W×Nat)(h:(Vh l).1[i]?=some x):Pv x.1:=
 (QZ Pv (λl x=>gQ) _ l 0 [] (λy hy=>by cases hy) Vy).1 x (ZK h)
def Ic (l:List UInt8):(Vh l).1.length<=40:=
 (QZ (λ_=>True) (λ_ _ _=>trivial) _ l 0 [] (λy hy=>by cases hy) Vy).2
theorem NZ:∀(f:Nat) (l:List UInt8) (i:Nat) (acc:List (W×Nat)),(Uw f l i acc).2=-1\/∃j,j<l.length/\(Uw f l i acc).2=(j:Int)
 | 0,l,i,acc=>.inl rfl
 | f+1,l,i,acc=>by
  rw[Uw];by_cases hi:l.length<=i
  . rw[ZU hi];exact .inl rfl
  . rw[ZX hi];by_cases hb:l[i]?.getD 0=32
    . rw[ZU hb];exact NZ f l (i+1) acc
    . rw[ZX hb]
      cases rd (tok l i) with
      | none=>exact .inr ⟨i,VH,rfl⟩
      | some x=>
       simp only;by_cases Uq:acc.length=40
       . rw[ZU Uq];exact .inr ⟨i,VH,rfl⟩
       . rw[ZX Uq];exact NZ f l _ _
def zK (l:List UInt8):(Vh l).2=-1\/∃j,j<l.length/\(Vh l).2=(j:Int):=NZ _ l 0 []
def sG {ws:List (W×Nat)}{args slots:Nat}{e i:Int}(h:MN ws args slots e i):i=-1\/∃j,j<ws.length/\i=(j:Int):=by
 rcases h with⟨j,hj,rfl,_⟩|⟨_,_,hf⟩
 . exact .inr ⟨j,hj,rfl⟩
 . rcases hf with⟨rfl,_⟩|⟨j,hj,rfl,_⟩
   . exact .inl rfl
   . exact .inr ⟨j,hj,rfl⟩
def Ti (sel src:List UInt8)(n:Nat)(e a:Int):Prop:=
 (selector sel=false/\e=1/\a=0)\/
 (selector sel=true/\120<src.length/\e=5/\a=0)\/
 (selector sel=true/\src.length<=120/\(Vh src).2≠-1/\e=5/\a=(Vh src).2)\/
 (selector sel=true/\src.length<=120/\(Vh src).2=-1/\∃e' i,MN (Vh src).1 (U6 sel) n e' i/\
  ((∃j x,i=((j:Nat):Int)/\(Vh src).1[j]?=some x/\e=e'/\a=((x.2:Nat):Int))\/(i=-1/\e=0/\a=0)))
def wQ {sel src:List UInt8}{n:Nat}{e a e' a':Int}(h:Ti sel src n e a)(h':Ti sel src n e' a'):e=e'/\a=a':=by
 rcases h with⟨hs,rfl,rfl⟩|⟨hs,hl,rfl,rfl⟩|⟨hs,hl,hw,rfl,rfl⟩|⟨hs,hl,hw,e1,i1,hf1,hr1⟩ <;>
 rcases h' with⟨hs',rfl,rfl⟩|⟨hs',hl',rfl,rfl⟩|⟨hs',hl',hw',rfl,rfl⟩|⟨hs',hl',hw',e1,i1,hf2,hr2⟩ <;>
 first
 | exact KP
 | (exfalso;rw[hs]at hs';exact absurd hs' Vz)
 | (exfalso;omega)
 | exact absurd hw' hw
 | exact absurd hw hw'
 | skip
 obtain⟨he,hi⟩:=oU hf1 hf2;subst he hi;rcases hr1 with⟨j,x,rfl,hx,rfl,rfl⟩|⟨rfl,rfl,rfl⟩<;>rcases hr2 with⟨j',x',hj,hx',rfl,rfl⟩|⟨hj,rfl,rfl⟩
 . have:j=j':=by omega
   subst this;rw[hx]at hx';injection hx' with hx';subst hx';exact KP
 . omega
 . omega
 . exact KP
end Kn
namespace Kn
open Go
def Vj (p:UInt8->Bool)(m:Nat)(r:List UInt8):List UInt8:=(r.take m).takeWhile p
def Gx (c:UInt8):Bool:=decide (48<=c.toNat)&&decide (c.toNat<=50)
def OC (c:UInt8):Bool:=decide (48<=c.toNat)&&decide (c.toNat<=51)
def Ve (r:List UInt8):List UInt8:=if Vj Rf 1 r=[] then [] else Vj Rf 1 r++Vj isSmall 5 (r.drop 1)
def TW (r:List UInt8):List UInt8:=
 if Vj isSmall 6 r=[] then []
 else if r[(Vj isSmall 6 r).length]?=some 47 then
  (if Vj OC 1 (r.drop ((Vj isSmall 6 r).length+1))=[] then [] else Vj isSmall 6 r++47::Vj OC 1 (r.drop ((Vj isSmall 6 r).length+1)))
 else []
def TA (k:Nat)(p:UInt8->Bool)(m:Nat)(ahead:Nat)(r:List UInt8):Option (W×Nat):=if Vj p m r=[] then none else some (⟨k,(numOf (Vj p m r):Nat),[],[],[]⟩,ahead+(Vj p m r).length)
def QT (k:Nat)(ahead:Nat)(r:List UInt8):Option (W×Nat):=if TW r=[] then none else some (⟨k,(U6 (TW r):Nat),TW r,[],[]⟩,ahead+(TW r).length)
def QG (l:List UInt8):Nat:=
 if l=[110,101,119] then 119 else if l=[98,101] then 98 else if l=[100,114,111,112] then 120 else if l=[109,111,118,101] then 118 else if l=[99,111,112,121] then 99 else 0
def PD (l:List UInt8):Nat:=match Va l with|some x=>x.k|none=>0
def TP (k:Nat)(ahead:Nat)(r:List UInt8):Option (W×Nat):=
 if Ve r=[] then none
 else if k=119\/k=98 then some (⟨k,0,[],Ve r,[]⟩,ahead+(Ve r).length)
 else if k=120\/k=99 then
  (if r[(Ve r).length]? = some 46 then
   (if TW (r.drop ((Ve r).length + 1)) = [] then none
    else if k=120 then some (⟨k,0,TW (r.drop ((Ve r).length+1)),Ve r,[]⟩,ahead+(Ve r).length+1+(TW (r.drop ((Ve r).length+1))).length)
    else if r[(Ve r).length+1+(TW (r.drop ((Ve r).length+1))).length]?=some 46 then
     (if Ve (r.drop ((Ve r).length + 1 + (TW (r.drop ((Ve r).length + 1))).length + 1)) = [] then none
      else some (⟨k,0,TW (r.drop ((Ve r).length+1)),Ve r,Ve (r.drop ((Ve r).length+1+(TW (r.drop ((Ve r).length+1))).length+1))⟩,
       ahead+(Ve r).length+1+(TW (r.drop ((Ve r).length+1))).length+1+(Ve (r.drop ((Ve r).length+1+(TW (r.drop ((Ve r).length+1))).length+1))).length))
    else none)
   else none)
 else if k=118 then
  (if r[(Ve r).length]? = some 46 then
   (if Ve (r.drop ((Ve r).length + 1)) = [] then none
    else some (⟨k,0,[],Ve r,Ve (r.drop ((Ve r).length+1))⟩,ahead+(Ve r).length+1+(Ve (r.drop ((Ve r).length+1))).length))
   else none)
 else none
def kw (r:List UInt8):Option (W×Nat):=
 if first r=45 then (if r.length=1\/r[1]?=some 32 then some (⟨45,0,[],[],[]⟩,1) else (TA 110 U8 4 1 (r.drop 1)).map λq=>(⟨110,-q.1.n,[],[],[]⟩,q.2))
 else if first r=61 then (if r[1]?=some 115 then TA 112 U8 1 2 (r.drop 2) else some (⟨61,0,[],[],[]⟩,1))
 else if first r=94 then QT 94 1 (r.drop 1)
 else if first r=62 then TA 62 U8 2 1 (r.drop 1)
 else if first r=63 then TA 63 U8 2 1 (r.drop 1)
 else if first r=43\/first r=42\/first r=60 then some (⟨first r,0,[],[],[]⟩,1)
 else if Vj isSmall 6 r=[] then TA 110 U8 4 0 r
 else if r[(Vj isSmall 6 r).length]?=some 58 then TP (QG (Vj isSmall 6 r)) ((Vj isSmall 6 r).length+1) (r.drop ((Vj isSmall 6 r).length+1))
 else if r[(Vj isSmall 6 r).length]?=some 47 then QT 115 0 r
 else if Vj isSmall 6 r=[97] then TA 97 Gx 1 1 (r.drop 1)
 else if Vj isSmall 6 r=[115] then TA 103 U8 1 1 (r.drop 1)
 else if PD (Vj isSmall 6 r)=0 then none else some (⟨PD (Vj isSmall 6 r),0,[],[],[]⟩,(Vj isSmall 6 r).length)
def Jo (r:List UInt8):Option W:=match kw r with|some (x,n)=>if n=r.length\/r[n]?=some 32 then some x else none|none=>none
def QE (p:UInt8->Bool)(m:Nat)(r:List UInt8):∃t,r=Vj p m r++t:=by
 obtain⟨t,ht⟩:=(List.takeWhile_prefix p (l:=r.take m)).trans (List.take_prefix m r);exact⟨t,ht.symm⟩
def QC (p:UInt8->Bool)(m:Nat)(r:List UInt8):∀c∈Vj p m r,p c=true:=λc hc=>by
 exact Y9.1 List.all_takeWhile c hc
def Q5 (p:UInt8->Bool)(m:Nat)(r:List UInt8):(Vj p m r).length<=m:=by
 unfold Vj;have h1:=(List.takeWhile_prefix p (l:=r.take m)).length_le;rw[Za]at h1;omega
def Ql (p:UInt8->Bool)(m:Nat)(l t:List UInt8)(hl:∀c∈l,p c=true)(hm:l.length<=m)(ht:l.length=m\/∀c,t[0]?=some c->p c=false):Vj p m (l++t)=l:=by
 unfold Vj;rw[List.take_append];rw[XU hm];rw[XO hl];rcases ht with h|h
 . rw[h,Y0];simp
 . cases t with
   | nil=>simp
   | cons c t=>
    cases hk:m-l.length with
    | zero=>simp
    | succ k=>rw[List.take_succ_cons,XD (by rw[h c rfl];simp)];simp
def Qm (d:List UInt8)(m:Nat):Prop:=1<=d.length/\d.length<=m/\∀c∈d,U8 c=true
def Form (t:List UInt8)(x:W):Prop:=
 Va t=some x\/
 (∃nm,className nm=true/\t=110::101::119::58::nm/\x=⟨119,0,[],nm,[]⟩)\/
 (∃nm,className nm=true/\t=98::101::58::nm/\x=⟨98,0,[],nm,[]⟩)\/
 (∃nm sl,className nm=true/\selector sl=true/\t=100::114::111::112::58::(nm++46::sl)/\x=⟨120,0,sl,nm,[]⟩)\/
 (∃nm nn,className nm=true/\className nn=true/\t=109::111::118::101::58::(nm++46::nn)/\x=⟨118,0,[],nm,nn⟩)\/
 (∃nm sl nn,className nm=true/\selector sl=true/\className nn=true/\t=99::111::112::121::58::(nm++46::(sl++46::nn))/\x=⟨99,0,sl,nm,nn⟩)\/
 (selector t=true/\x=⟨115,(U6 t:Nat),t,[],[]⟩)\/
 (∃sl,selector sl=true/\t=94::sl/\x=⟨94,(U6 sl:Nat),sl,[],[]⟩)\/
 (Qm t 4/\x=⟨110,(numOf t:Nat),[],[],[]⟩)\/
 (∃d,Qm d 4/\t=45::d/\x=⟨110,-((numOf d:Nat):Int),[],[],[]⟩)\/
 (∃d,Qm d 2/\t=62::d/\x=⟨62,(numOf d:Nat),[],[],[]⟩)\/
 (∃d,Qm d 2/\t=63::d/\x=⟨63,(numOf d:Nat),[],[],[]⟩)\/
 (∃d,Qm d 1/\numOf d<3/\t=97::d/\x=⟨97,(numOf d:Nat),[],[],[]⟩)\/
 (∃d,Qm d 1/\t=115::d/\x=⟨103,(numOf d:Nat),[],[],[]⟩)\/
 (∃d,Qm d 1/\t=61::115::d/\x=⟨112,(numOf d:Nat),[],[],[]⟩)
def Ny {d:List UInt8}{m:Nat}(h:Qm d m):Vk d m=(numOf d:Nat):=by
 unfold Vk;rw[Fa d m h.1 h.2.1 (Y9.2 h.2.2)]
def Ns {d:List UInt8}{m:Nat}(h:0<=Vk d m):Qm d m/\Vk d m=(numOf d:Nat):=by
 have hd:Qm d m:=by
  by_cases hc:1<=d.length/\d.length<=m/\d.all U8=true
  . exact⟨hc.1,hc.2.1,Y9.1 hc.2.2⟩
  . unfold Vk at h;rw[Oj d m hc]at h;simp at h
 exact⟨hd,Ny hd⟩
def adI {d:List UInt8}{m:Nat}(h:¬Qm d m):Vk d m=-1:=by
 unfold Vk;rw[Oj d m (λhc=>h ⟨hc.1,hc.2.1,Y9.1 hc.2.2⟩)]
def EW {l:List UInt8}(h:className l=true):1<=l.length/\l.length<=6/\Rf (l[0]?.getD 0)=true/\∀c∈l.drop 1,isSmall c=true:=by
 unfold className at h;simp only[ZB,Zq]at h;exact⟨h.1.1.1,h.1.1.2,h.1.2,Y9.1 h.2⟩
def OX {l:List UInt8}(h:className l=true):∃c r,l=c::r/\Rf c=true/\r.length<=5/\∀x∈r,isSmall x=true:=by
 obtain⟨h1,h2,h3,h4⟩:=EW h
 match l,h1 with
 | c::r,_=>exact⟨c,r,rfl,by simpa using h3,by simp at h2;omega,by simpa using h4⟩
def yC {c:UInt8}{r:List UInt8}(hc:Rf c=true)(hl:r.length<=5)(hr:∀x∈r,isSmall x=true):className (c::r)=true:=by
 unfold className;simp only[ZB,Zq,X8,X5];exact⟨⟨⟨Vy,Vo⟩,akT⟩,Y9.2 hr⟩
def Tf {l:List UInt8}(h:selector l=true):∃a d,l=a++[47,d]/\1<=a.length/\a.length<=6/\(∀x∈a,isSmall x=true)/\OC d=true:=by
 unfold selector at h;simp only[ZB,Zq]at h;obtain⟨⟨⟨⟨⟨h3,h8⟩,h47⟩,hd1⟩,hd2⟩,hall⟩:=h;have e:l=l.take (l.length-2)++l.drop (l.length-2):=(Yw _ _).symm;have hlen:(l.drop (l.length-2)).length=2:=by rw[Zh];omega
 match hdr:l.drop (l.length-2),hlen with
 | [y,z],_=>
  have e1:l[l.length-2]?=some y:=by
   have:(l.drop (l.length-2))[0]?=some y:=by rw[hdr];rfl
   rw[Zn,Yt]at this;exact this
  have e2:l[l.length-1]?=some z:=by
   have:(l.drop (l.length-2))[1]?=some z:=by rw[hdr];rfl
   rw[Zn,show l.length-2+1=l.length-1 from VH]at this;exact this
  rw[e1]at h47;rw[e2]at hd1 hd2;simp only[YX]at h47 hd1 hd2;subst h47;refine⟨l.take (l.length-2),z,by rw[<- hdr];exact e,aed,aed,Y9.1 hall,?_⟩;unfold OC;simp[hd1,hd2]
def rO {a:List UInt8}{d:UInt8}(h1:1<=a.length)(h6:a.length<=6)(ha:∀x∈a,isSmall x=true)(hd:OC d=true):selector (a++[47,d])=true:=by
 unfold OC at hd;simp only[ZB,Zq]at hd;unfold selector;have hl:(a++[47,d]).length=a.length+2:=Vy;rw[hl,show a.length+2-2=a.length from rfl,show a.length+2-1=a.length+1 from rfl];have e1:(a++[47,d])[a.length]?=some 47:=by rw[ZP UM,Y0];rfl
 have e2:(a++[47,d])[a.length+1]?=some d:=by rw[ZP VH,show a.length+1-a.length=1 from VH];rfl
 rw[e1,e2];simp only[ZB,Zq,YX];refine⟨⟨⟨⟨mF,trivial⟩,hd.1⟩,hd.2⟩,?_⟩;rw[Xq]
 . exact Y9.2 ha
 . rfl
def qK {c:UInt8}(h:isSmall c=true)(k:UInt8)(hk:isSmall k=false):c≠k:=λe=>by rw[e,hk]at h;cases h
def QB {l:List UInt8}(h:className l=true):∀c∈l,c≠46:=by
 obtain⟨c,r,rfl,hc,_,hr⟩:=OX h;intro x hx;rcases ZM.1 hx with rfl|hx
 . intro e;rw[e]at hc;simp[Rf]at hc
 . exact qK (hr x hx) 46 Vz
def Dh {l:List UInt8}(h:selector l=true):∀c∈l,isSmall c=true\/c=47\/OC c=true:=by
 obtain⟨a,d,rfl,_,_,ha,hd⟩:=Tf h;intro x hx;rcases YT.1 hx with hx|hx
 . exact .inl (ha x hx)
 . simp at hx;rcases hx with rfl|rfl
   . exact .inr NP
   . exact .inr (.inr hd)
def Oo {l:List UInt8}(h:selector l=true)(k:UInt8)(h1:isSmall k=false)(h2:k≠47)(h3:OC k=false):∀c∈l,c≠k:=λc hc e=>by
 subst e;rcases Dh h c hc with h'|h'|h'
 . rw[h1]at h';cases h'
 . exact h2 h'
 . rw[h3]at h';cases h'
def Np:List (List UInt8)->List UInt8
 | []=>[]
 | [p]=>p
 | p::q::r=>p++46::Np (q::r)
def Ak (p:List UInt8)(c:UInt8)(r:List (List UInt8)):Np ((c::p)::r)=c::Np (p::r):=by
 cases r<;>rfl
theorem OM:∀(l:List UInt8),Np (Vw l)=l
 | []=>rfl
 | c::r=>by
  have ih:=OM r;rw[Vw];split
  . rename_i e;have hne:=MZ r
    cases hs:Vw r with
    | nil=>exact absurd hs hne
    | cons p q=>rw[hs]at ih;show []++46::Np (p::q)=_;rw[ih,e];rfl
  . cases hs:Vw r with
    | nil=>exact absurd hs (MZ r)
    | cons p q=>rw[hs]at ih;show Np ((c::p)::q)=_;rw[Ak,ih]
def Me {l p q:List UInt8}(h:Vw l=[p,q]):l=p++46::q:=by
 have:=OM l;rw[h]at this;exact this.symm
def EU {l p q r:List UInt8}(h:Vw l=[p,q,r]):l=p++46::(q++46::r):=by
 have:=OM l;rw[h]at this;exact this.symm
def mJ {t:List UInt8}{x:W}(h:Vs t=some x):Form t x:=by
 unfold Vs at h;split at h
 . rename_i hp;obtain⟨r,rfl⟩:=Zi.1 hp;split at h
   . rename_i hc;injection h with h;exact .inr (.inl ⟨r,hc,rfl,h.symm⟩)
   . cases h
 . split at h
   . rename_i hp;obtain⟨r,rfl⟩:=Zi.1 hp;split at h
     . rename_i hc;injection h with h;exact .inr (.inr (.inl ⟨r,hc,rfl,h.symm⟩))
     . cases h
   . split at h
     . cases h
     . unfold Ue at h;split at h
       . rename_i p q hsp;split at h
         . rename_i hp;obtain⟨r,rfl⟩:=Zi.1 hp;split at h
           . rename_i hc;simp only[ZB]at hc;injection h with h;have hj:=Me (by simpa using hsp);exact .inr (.inr (.inr (.inl ⟨p,q,hc.1,hc.2,by rw[<- hj];rfl,h.symm⟩)))
           . cases h
         . split at h
           . rename_i hp;obtain⟨r,rfl⟩:=Zi.1 hp;split at h
             . rename_i hc;simp only[ZB]at hc;injection h with h;have hj:=Me (by simpa using hsp);exact .inr (.inr (.inr (.inr (.inl ⟨p,q,hc.1,hc.2,by rw[<- hj];rfl,h.symm⟩))))
             . cases h
           . cases h
       . rename_i p q r' hsp;split at h
         . rename_i hp;obtain⟨r,rfl⟩:=Zi.1 hp;split at h
           . rename_i hc;simp only[ZB]at hc;injection h with h;have hj:=EU (by simpa using hsp);exact .inr (.inr (.inr (.inr (.inr (.inl ⟨p,q,r',hc.1.1,hc.1.2,hc.2,by rw[<- hj];rfl,h.symm⟩)))))
           . cases h
         . cases h
       . cases h
def MK (c:UInt8)(r:List UInt8):first (c::r)=c.toNat:=rfl
def NI {t:List UInt8}{k:UInt8}(h:first t=k.toNat)(hk:k.toNat≠0):∃r,t=k::r:=by
 cases t with
 | nil=>exact absurd h.symm hk
 | cons c r=>exact⟨r,by rw[show c=k from Zj.1 h]⟩
def aZ {t:List UInt8}{x:W}(h:SY t=some x):Form t x:=by
 unfold SY at h;split at h
 . rename_i hs;injection h with h;exact .inr (.inr (.inr (.inr (.inr (.inr (.inl ⟨hs,h.symm⟩))))))
 . unfold Px at h;split at h
   . rename_i hs;obtain⟨r,rfl⟩:=NI (k:=94) hs.1 Vz;injection h with h;exact .inr (.inr (.inr (.inr (.inr (.inr (.inr (.inl ⟨r,hs.2,rfl,h.symm⟩)))))))
   . unfold KZ at h;split at h
     . rename_i hs;obtain⟨hd,e⟩:=Ns hs;injection h with h;exact .inr (.inr (.inr (.inr (.inr (.inr (.inr (.inr (.inl ⟨hd,by rw[<- h,e]⟩))))))))
     . unfold KJ at h;split at h
       . rename_i hs;obtain⟨r,rfl⟩:=NI (k:=45) hs.1 Vz;obtain⟨hd,e⟩:=Ns hs.2;injection h with h;exact .inr apQ
       . unfold Nz at h;split at h
         . rename_i hs;obtain⟨hd,e⟩:=Ns hs.2;rcases hs.1 with hf|hf
           . obtain⟨r,rfl⟩:=NI (k:=62) hf Vz;injection h with h;exact .inr alc
           . obtain⟨r,rfl⟩:=NI (k:=63) hf Vz;injection h with h;exact .inr (.inr alc)
         . unfold LH at h;split at h
           . rename_i hs;obtain⟨r,rfl⟩:=NI (k:=97) hs.1 Vz;obtain⟨hd,e⟩:=Ns hs.2.1;injection h with h;exact .inr (.inr (.inr (.inr (.inr (.inr (.inr (.inr (.inr (.inr (.inr (.inr (.inl ⟨r,hd,by have h3:=hs.2.2;rw[e]at h3;simp only[X8,X5]at h3;omega,rfl,by rw[<- h,e];rfl⟩))))))))))))
           . unfold Mc at h;split at h
             . rename_i hs;obtain⟨r,rfl⟩:=NI (k:=115) hs.1 Vz;obtain⟨hd,e⟩:=Ns hs.2;injection h with h;exact .inr (.inr (.inr (.inr alc)))
             . unfold LZ at h;split at h
               . rename_i hs;obtain⟨h3,ht,hd⟩:=hs
                 match t,h3,ht,hd,h with
                 | [a,b,c],_,ht,hd,h=>
                  simp only[List.take_succ_cons,List.take_zero,YC,VK]at ht;obtain⟨rfl,rfl⟩:=ht;have hd':U8 c=true:=hd;injection h with h;refine .inr (.inr (.inr (.inr (.inr (.inr (.inr (.inr (.inr (.inr (.inr (.inr (.inr (.inr ⟨[c],⟨Vy,Vy,by simpa using hd'⟩,rfl,?_⟩)))))))))))));rw[<- h];simp[numOf]
               . cases h
def agr {t:List UInt8}{x:W}(h:rd t=some x):Form t x:=by
 unfold rd at h;split at h
 . rename_i y hy;injection h with h;subst h;exact .inl hy
 . split at h
   . rename_i y hy;injection h with h;subst h;exact mJ hy
   . exact aZ h
def JY {t:List UInt8}{x:W}(h:Va t=some x):t∈[[115,101,108,102],[112,111,112],[100,117,112],[114,101,116],[43],[45],[42],[60],[61]]:=by
 unfold Va at h
 repeat (first
  | (split at h
     . rename_i e;subst e;simp)
  | cases h)
def QS {t:List UInt8}(h:t ∉ ([[115,101,108,102],[112,111,112],[100,117,112],[114,101,116],[43],[45],[42],[60],[61]]:List (List UInt8))):Va t=none:=by
 cases hr:Va t with
 | none=>rfl
 | some x=>exact absurd (JY hr) h
def P6 {t:List UInt8}(h:(58:UInt8) ∉ t):Vs t=none:=by
 have hp:∀q:List UInt8,(58:UInt8)∈q->List.isPrefixOf q t=false:=by
  intro q hq;rw[Y3];intro e;obtain⟨r,rfl⟩:=Zi.1 e;exact h (Ya _ hq)
 unfold Vs;rw[hp _ Vy,hp [98,101,58] Vy];simp only[XW,Zg];split
 . rfl
 . unfold Ue;split
   . rw[hp _ Vy,hp _ Vy];rfl
   . rw[hp _ Vy];rfl
   . rfl
def AO {c:UInt8}{r:List UInt8}(h:selector (c::r)=true):isSmall c=true:=by
 obtain⟨a,d,e,h1,_,ha,_⟩:=Tf h
 match a,h1 with
 | y::a',_=>
  injection e with e1 e2;rw[e1];exact ha y Vy
def Tn {c:UInt8}{r:List UInt8}(h:isSmall c=false):selector (c::r)=false:=by
 rw[Y3];intro e;rw[AO e]at h;cases h
def GH {c:UInt8}{r:List UInt8}{m:Nat}(h:U8 c=false):Vk (c::r) m=-1:=adI (λhd=>by rw[hd.2.2 c Vy]at h;cases h)
def Ik {d:List UInt8}{m:Nat}(h:Qm d m)(k:UInt8)(hk:U8 k=false):k ∉ d:=λhm=>by rw[h.2.2 k hm]at hk;cases hk
def P7 {d:List UInt8}{m:Nat}(h:Qm d m):∃c r,d=c::r/\U8 c=true:=by
 match d,h with
 | [],h=>have:=h.1;simp at this
 | c::r,h=>exact⟨c,r,rfl,h.2.2 c Vy⟩
def agK {c:UInt8}{d:List UInt8}{m:Nat}(hd:Qm d m)(N0:c≠58)(hs:isSmall c=false)(hp:(c::d) ∉ ([[115,101,108,102],[112,111,112],[100,117,112],[114,101,116],[43],[45],[42],[60],[61]]:List (List UInt8))):rd (c::d)=Px (c::d):=by
 unfold rd
 rw[QS hp,P6 (by
  intro hm;rcases ZM.1 hm with e|e
  . exact N0 e.symm
  . exact Ik hd 58 Vz e)]
 show SY (c::d)=_;unfold SY;rw[Tn hs];rfl
def Iu {c:UInt8}{d:List UInt8}{m:Nat}(hd:Qm d m):(c::d) ∉ ([[115,101,108,102],[112,111,112],[100,117,112],[114,101,116],[43],[45],[42],[60],[61]]:List (List UInt8)):=by
 obtain⟨y,r,rfl,hy⟩:=P7 hd;intro hm;simp only[ZM,YC,Zx,YE,reduceCtorEq,and_false,false_or]at hm
 rcases hm with⟨_,e,_⟩|⟨_,e,_⟩|⟨_,e,_⟩|⟨_,e,_⟩<;>(rw[e]at hy;revert hy;decide)
def alg {d:List UInt8}(hd:Qm d 4):rd (45::d)=some ⟨110,-((numOf d:Nat):Int),[],[],[]⟩:=by
 refine acM ?_;intro e;rw[ZU ⟨rfl,by show 0<=Vk d 4;omega⟩];show some (W.mk 110 (-(Vk d 4)) [] [] [])=_;rw[e]
def afE {d:List UInt8}(hd:Qm d 2):rd (62::d)=some ⟨62,(numOf d:Nat),[],[],[]⟩:=by
 refine acM ?_;intro e;rw[ZX sV];unfold Nz;rw[ZU ⟨.inl rfl,by show 0<=Vk d 2;omega⟩];show some (W.mk 62 (Vk d 2) [] [] [])=_;rw[e]
def am6 {d:List UInt8}(hd:Qm d 2):rd (63::d)=some ⟨63,(numOf d:Nat),[],[],[]⟩:=by
 refine acM ?_;intro e;rw[ZX sV];unfold Nz;rw[ZU ⟨.inr rfl,by show 0<=Vk d 2;omega⟩];show some (W.mk 63 (Vk d 2) [] [] [])=_;rw[e]
def akK {d:List UInt8}(hd:Qm d 4):rd d=some ⟨110,(numOf d:Nat),[],[],[]⟩:=by
 have e:=Ny hd;obtain⟨c,r,rfl,hc⟩:=P7 hd;have hsm:isSmall c=false:=by rw[Y3];intro h;simp[U8]at hc;simp[isSmall]at h;omega
 have hcn:=(Sj.1 hc).2;unfold rd
 rw[QS (by
  intro hm;simp only[ZM,YC,Zx,YE]at hm
  rcases hm with⟨rfl,_⟩|⟨rfl,_⟩|⟨rfl,_⟩|⟨rfl,_⟩|⟨rfl,_⟩|⟨rfl,_⟩|⟨rfl,_⟩|⟨rfl,_⟩|⟨rfl,_⟩<;>revert hc<;>decide),P6 (Ik hd 58 Vz)]
 show SY (c::r)=_;unfold SY;rw[Tn hsm];show Px (c::r)=_;unfold Px;rw[ZX (λh=>by have:=h.1;rw[MK]at this;omega)];unfold KZ;rw[ZU VH,e]
def apf {sl:List UInt8}(h:selector sl=true):rd (94::sl)=some ⟨94,(U6 sl:Nat),sl,[],[]⟩:=by
 unfold rd
 rw[QS (by
  intro hm;simp only[ZM,YC,Zx,YE]at hm
  rcases hm with⟨e,_⟩|⟨e,_⟩|⟨e,_⟩|⟨e,_⟩|⟨e,_⟩|⟨e,_⟩|⟨e,_⟩|⟨e,_⟩|⟨e,_⟩<;>revert e<;>decide),P6 (by
  intro hm;rcases ZM.1 hm with e|e
  . revert e;decide
  . exact Oo h 58 Vz Vz Vz 58 e rfl)]
 show SY (94::sl)=_;unfold SY;rw[Tn Vz];show Px (94::sl)=_;unfold Px;rw[ZU ⟨rfl,h⟩];rfl
def aly {t:List UInt8}(h:selector t=true):rd t=some ⟨115,(U6 t:Nat),t,[],[]⟩:=by
 unfold rd
 rw[QS (by
  intro hm;simp only[ZM,Zx,YE]at hm
  rcases hm with rfl|rfl|rfl|rfl|rfl|rfl|rfl|rfl|rfl<;>revert h<;>decide),P6 (λe=>Oo h 58 Vz Vz Vz 58 e rfl)]
 show SY t=_;unfold SY;rw[ZU h]
def wU {c:UInt8}{d:List UInt8}(hd:Qm d 1):selector (c::d)=false:=by
 rw[Y3];intro h;obtain⟨a,e,he,h1,_⟩:=Tf h;have:=YV List.length he;have h1:=hd.2.1;simp at this;omega
def yN {c:UInt8}{d:List UInt8}(hd:Qm d 1)(N0:c≠58)(Hs:U8 c=false)(Kb:c.toNat≠94):rd (c::d)=KJ (c::d):=by
 unfold rd
 rw[QS (Iu hd),P6 (by
  intro hm;rcases ZM.1 hm with e|e
  . exact N0 e.symm
  . exact Ik hd 58 Vz e)]
 show SY (c::d)=_;unfold SY;rw[wU hd];show Px (c::d)=_;unfold Px;rw[ZX (λh=>Kb h.1)];unfold KZ;rw[GH Hs,ZX VH]
def ake {d:List UInt8}(hd:Qm d 1)(h3:numOf d<3):rd (97::d)=some ⟨97,(numOf d:Nat),[],[],[]⟩:=by
 rw[yN hd Vz Vz Vz];have e:=Ny hd;refine ab2 ?_;rw[ZU ⟨rfl,by show 0<=Vk d 1;omega,by show Vk d 1<3;omega⟩];show some (W.mk 97 (Vk d 1) [] [] [])=_;rw[e]
def afy {d:List UInt8}(hd:Qm d 1):rd (115::d)=some ⟨103,(numOf d:Nat),[],[],[]⟩:=by
 rw[yN hd Vz Vz Vz];have e:=Ny hd;refine ab2 ?_;rw[ZX sV];unfold Mc;rw[ZU ⟨rfl,by show 0<=Vk d 1;omega⟩];show some (W.mk 103 (Vk d 1) [] [] [])=_;rw[e]
def acf {d:List UInt8}(hd:Qm d 1):rd (61::115::d)=some ⟨112,(numOf d:Nat),[],[],[]⟩:=by
 obtain⟨c,r,rfl,hc⟩:=P7 hd;have hr:r=[]:=by have:=hd.2.1;simp at this;exact this
 subst hr;unfold rd
 rw[QS (by
  intro hm
  simp at hm),P6 (by
  intro hm;rcases ZM.1 hm with e|e
  . revert e;decide
  . rcases ZM.1 e with e|e
    . revert e;decide
    . exact Ik hd 58 Vz e)]
 show SY _=_;unfold SY;rw[Tn Vz];rw[ZX Vy];unfold Px;rw[ZX sV];unfold KZ;rw[GH Vz,ZX VH];refine ab2 ?_;rw[ZX sV];unfold Mc;rw[ZX sV];unfold LZ;rw[ZU ⟨rfl,rfl,hc⟩];simp[numOf]
def OW {a b c e:UInt8}{r:List UInt8}(h:a=110\/a=98\/a=109\/a=99\/(a=100/\b=114)):Va (a::b::c::r)=none:=by
 refine QS (λhm=>?_);simp only[ZM,YC,Zx,YE,reduceCtorEq,and_false]at hm;rcases h with rfl|rfl|rfl|rfl|⟨rfl,rfl⟩<;>simp at hm
def akd {nm:List UInt8}(h:className nm=true):rd (110::101::119::58::nm)=some ⟨119,0,[],nm,[]⟩:=by
 unfold rd;rw[OW (e:=0) NP]
 have:Vs (110::101::119::58::nm)=some ⟨119,0,[],nm,[]⟩:=by
  unfold Vs;rw[ZU GL,ZU (by exact h)];rfl
 rw[this]
def apc {nm:List UInt8}(h:className nm=true):rd (98::101::58::nm)=some ⟨98,0,[],nm,[]⟩:=by
 unfold rd;rw[OW (e:=0) oG]
 have:Vs (98::101::58::nm)=some ⟨98,0,[],nm,[]⟩:=by
  unfold Vs;rw[ZX GL,ZU GL,ZU (by exact h)];rfl
 rw[this]
def zO {nm q:List UInt8}(h:className nm=true)(hq:∀c∈q,c≠46):Vw (nm++46::q)=[nm,q]:=by
 rw[QU nm q (QB h),PZ q hq]
def ahf {l:List UInt8}(h:selector l=true):∀c∈l,c≠46:=Oo h 46 Vz Vz Vz
def agF {nm sl:List UInt8}(h:className nm=true)(h':selector sl=true):rd (100::114::111::112::58::(nm++46::sl))=some ⟨120,0,sl,nm,[]⟩:=by
 unfold rd;rw[OW (e:=0) (.inr (.inr (.inr (.inr KP))))]
 have:Vs (100::114::111::112::58::(nm++46::sl))=some ⟨120,0,sl,nm,[]⟩:=by
  unfold Vs;rw[ZX GL,ZX GL,ZX Vy];show Ue _ (Vw (nm++46::sl))=_;rw[zO h (ahf h'),Ue,ZU GL,ZU (by simp[h,h'])]
 rw[this]
def ae9 {nm nn:List UInt8}(h:className nm=true)(h':className nn=true):rd (109::111::118::101::58::(nm++46::nn))=some ⟨118,0,[],nm,nn⟩:=by
 unfold rd;rw[OW (e:=0) (.inr oG)]
 have:Vs (109::111::118::101::58::(nm++46::nn))=some ⟨118,0,[],nm,nn⟩:=by
  unfold Vs;rw[ZX GL,ZX GL,ZX Vy];show Ue _ (Vw (nm++46::nn))=_;rw[zO h (QB h'),Ue,ZX GL,ZU GL,ZU (by simp[h,h'])]
 rw[this]
def agj {nm sl nn:List UInt8}(h:className nm=true)(h':selector sl=true)(h'':className nn=true):rd (99::111::112::121::58::(nm++46::(sl++46::nn)))=some ⟨99,0,sl,nm,nn⟩:=by
 unfold rd;rw[OW (e:=0) (.inr (.inr oG))]
 have:Vs (99::111::112::121::58::(nm++46::(sl++46::nn)))=some ⟨99,0,sl,nm,nn⟩:=by
  unfold Vs;rw[ZX GL,ZX GL,ZX Vy];show Ue _ (Vw (nm++46::(sl++46::nn)))=_;rw[QU nm _ (QB h),QU sl _ (ahf h'),PZ nn (QB h''),Ue,ZU GL,ZU (by simp[h,h',h''])]
 rw[this]
def wL {t:List UInt8}{x:W}(h:Form t x):rd t=some x:=by
 rcases h with h|⟨nm,h,rfl,rfl⟩|⟨nm,h,rfl,rfl⟩|⟨nm,sl,h,h',rfl,rfl⟩|⟨nm,nn,h,h',rfl,rfl⟩|⟨nm,sl,nn,h,h',h'',rfl,rfl⟩|⟨h,rfl⟩|⟨sl,h,rfl,rfl⟩|⟨h,rfl⟩|⟨d,h,rfl,rfl⟩|⟨d,h,rfl,rfl⟩|⟨d,h,rfl,rfl⟩|⟨d,h,h',rfl,rfl⟩|⟨d,h,rfl,rfl⟩|⟨d,h,rfl,rfl⟩
 . unfold rd;rw[h]
 . exact akd h
 . exact apc h
 . exact agF h h'
 . exact ae9 h h'
 . exact agj h h' h''
 . exact aly h
 . exact apf h
 . exact akK h
 . exact alg h
 . exact afE h
 . exact am6 h
 . exact ake h h'
 . exact afy h
 . exact acf h
def aln {t:List UInt8}{x:W}:rd t=some x↔Form t x:=⟨agr,wL⟩
def Ends (u:List UInt8):Prop:=∀c,u[0]?=some c->c=32
def bZ {d u:List UInt8}{m:Nat}(hd:Qm d m)(hu:Ends u):Vj U8 m (d++u)=d:=
 Ql U8 m d u hd.2.2 hd.2.1 (.inr λc hc=>by rw[hu c hc];decide)
def afY {d:List UInt8}{m:Nat}(hd:Qm d m):d≠[]:=λe=>by have:=hd.1;rw[e]at this;simp at this
def O8 {d u:List UInt8}{m k ahead:Nat}(hd:Qm d m)(hu:Ends u):TA k U8 m ahead (d++u)=some (⟨k,(numOf d:Nat),[],[],[]⟩,ahead+d.length):=by
 unfold TA;rw[bZ hd hu,ZX (afY hd)]
def PN {nm v:List UInt8}(h:className nm=true)(hv:∀c,v[0]?=some c->isSmall c=false):Ve (nm++v)=nm:=by
 obtain⟨c,r,rfl,hc,hl,hr⟩:=OX h;have e1:Vj Rf 1 (c::r++v)=[c]:=Ql Rf 1 [c] (r++v) akT Vy NP;have e2:=Ql isSmall 5 r v hr hl (.inr hv);unfold Ve;rw[e1];show [c]++Vj isSmall 5 (r++v)=_;rw[e2];rfl
def Iy {sl v:List UInt8}(h:selector sl=true):TW (sl++v)=sl:=by
 obtain⟨a,d,rfl,h1,h6,ha,hd⟩:=Tf h
 have e1:Vj isSmall 6 (a++[47,d]++v)=a:=by
  rw[Y1];exact Ql isSmall 6 a _ ha h6 (.inr λc hc=>akp)
 have e2:(a++[47,d]++v)[a.length]?=some 47:=by rw[Y1,ZP UM,Y0];rfl
 have e3:(a++[47,d]++v).drop (a.length+1)=d::v:=by
  rw[Y1,YM,Zk VH,show a.length+1-a.length=1 from VH];rfl
 have e4:Vj OC 1 (d::v)=[d]:=Ql OC 1 [d] v (by simpa using hd) Vy NP;have hne:a≠[]:=λe=>afp;unfold TW;rw[e1,e2,e3,e4,ZX hne,ZU rfl,ZX Vy]
def CJ {l:List UInt8}(h:selector l=true):l≠[]:=λe=>by rw[e]at h;revert h;decide
def Ol {l:List UInt8}(h:className l=true):l≠[]:=λe=>by rw[e]at h;revert h;decide
def aJ {u:List UInt8}(hu:Ends u):∀c,u[0]?=some c->isSmall c=false:=λc hc=>by rw[hu c hc];decide
def DX {v:List UInt8}:∀c,((46:UInt8)::v)[0]?=some c->isSmall c=false:=λc hc=>akp
def OG (L r:List UInt8)(h1:1<=L.length)(h6:L.length<=6)(hL:∀c∈L,isSmall c=true)(hr:L.length=6\/∀c,r[0]?=some c->isSmall c=false):
 kw (L++r)=if r[0]?=some 58 then TP (QG L) (L.length+1) (r.drop 1) else if r[0]?=some 47 then QT 115 0 (L++r) else if L=[97] then TA 97 Gx 1 1 r else if L=[115] then TA 103 U8 1 1 r
  else if PD L=0 then none else some (⟨PD L,0,[],[],[]⟩,L.length):=by
 have e1:=Ql isSmall 6 L r hL h6 hr;have e2:(L++r)[L.length]?=r[0]?:=by rw[ZP UM,Y0]
 have e3:(L++r).drop (L.length+1)=r.drop 1:=by rw[YM,Zk VH,show L.length+1-L.length=1 from VH];rfl
 have hne:L≠[]:=λe=>afp
 have hf:97<=first (L++r)/\first (L++r)<=122:=by
  match L,hne with
  | c::L',_=>
   have:=hL c Vy;simp[isSmall]at this;exact this
 have e4:∀k,L=[k]->(L++r).drop 1=r:=λk e=>Sv;unfold kw;rw[ZX VH,ZX VH,ZX VH,ZX VH,ZX VH,ZX VH,e1,ZX hne,e2,e3];split
 . rfl
 . split
   . rfl
   . split
     . rename_i e;rw[e4 _ e]
     . split
       . rename_i e;rw[e4 _ e]
       . rfl
def agM {t u:List UInt8}{x:W}(hu:Ends u)(h:Form t x):kw (t++u)=some (x,t.length):=by
 rcases h with h|⟨nm,h,rfl,rfl⟩|⟨nm,h,rfl,rfl⟩|⟨nm,sl,h,h',rfl,rfl⟩|⟨nm,nn,h,h',rfl,rfl⟩|⟨nm,sl,nn,h,h',h'',rfl,rfl⟩|⟨h,rfl⟩|⟨sl,h,rfl,rfl⟩|⟨h,rfl⟩|⟨d,h,rfl,rfl⟩|⟨d,h,rfl,rfl⟩|⟨d,h,rfl,rfl⟩|⟨d,h,h',rfl,rfl⟩|⟨d,h,rfl,rfl⟩|⟨d,h,rfl,rfl⟩
 . -- plain
   have hm:=JY h;have h0:∀k:UInt8,k≠32->u[0]?≠some k:=λk hk e=>hk (hu k e);simp only[ZM,Zx,YE]at hm;rcases hm with rfl|rfl|rfl|rfl|rfl|rfl|rfl|rfl|rfl
   . exact afS
   . exact afS
   . exact afS
   . exact afS
   . rw[<- Y7 h];rfl
   . have he:(45::u).length=1\/(45::u)[1]?=some 32:=by
      cases u with
      | nil=>exact .inl rfl
      | cons c u=>right;rw[hu c rfl];rfl
     rw[<- Y7 h];show kw (45::u)=_;unfold kw;rw[ZU (show first (45::u)=45 from rfl),ZU he];rfl
   . rw[<- Y7 h];rfl
   . rw[<- Y7 h];rfl
   . rw[<- Y7 h];show kw (61::u)=_;unfold kw;rw[ZX Ez,ZU (show first (61::u)=61 from rfl),ZX (by exact h0 115 Vz)];rfl
 . show kw ([110,101,119]++58::(nm++u))=_;refine uU ?_;show TP 119 4 (nm++u)=_;unfold TP;rw[PN h aaW,ZX (Ol h),ZU (.inl rfl)];simp;omega
 . show kw ([98,101]++58::(nm++u))=_;refine uU ?_;show TP 98 3 (nm++u)=_;unfold TP;rw[PN h aaW,ZX (Ol h),ZU (.inr rfl)];simp;omega
 . show kw ([100,114,111,112]++58::((nm++46::sl)++u))=_;refine uU ?_;show TP 120 5 ((nm++46::sl)++u)=_;rw[Y1];show TP 120 5 (nm++46::(sl++u))=_;have e1:=PN (v:=46::(sl++u)) h DX;have e2:(nm++46::(sl++u))[nm.length]?=some 46:=by rw[ZP UM,Y0];rfl
   have e3:(nm++46::(sl++u)).drop (nm.length+1)=sl++u:=akU;unfold TP;rw[e1,ZX (Ol h),ZX Vz,ZU (.inl rfl),e2,ZU rfl,e3,Iy h',ZX (CJ h'),ZU rfl];simp;omega
 . show kw ([109,111,118,101]++58::((nm++46::nn)++u))=_;refine uU ?_;show TP 118 5 ((nm++46::nn)++u)=_;rw[Y1];show TP 118 5 (nm++46::(nn++u))=_;have e1:=PN (v:=46::(nn++u)) h DX;have e2:(nm++46::(nn++u))[nm.length]?=some 46:=by rw[ZP UM,Y0];rfl
   have e3:(nm++46::(nn++u)).drop (nm.length+1)=nn++u:=akU;unfold TP;rw[e1,ZX (Ol h),ZX Vz,ZX Vz,ZU rfl,e2,ZU rfl,e3,PN h' aaW,ZX (Ol h')];simp;omega
 . show kw ([99,111,112,121]++58::((nm++46::(sl++46::nn))++u))=_;refine uU ?_;show TP 99 5 ((nm++46::(sl++46::nn))++u)=_;have er:(nm++46::(sl++46::nn))++u=nm++46::(sl++46::(nn++u)):=Vy;rw[er];have e1:=PN (v:=46::(sl++46::(nn++u))) h DX;have e2:(nm++46::(sl++46::(nn++u)))[nm.length]?=some 46:=by rw[ZP UM,Y0];rfl
   have e3:(nm++46::(sl++46::(nn++u))).drop (nm.length+1)=sl++46::(nn++u):=akU
   have e4:(nm++46::(sl++46::(nn++u)))[nm.length+1+sl.length]?=some 46:=by
    rw[ZP VH,show nm.length+1+sl.length-nm.length=sl.length+1 from VH,Xn,ZP UM,Y0];rfl
   have e5:(nm++46::(sl++46::(nn++u))).drop (nm.length+1+sl.length+1)=nn++u:=by
    rw[YM,Zk VH,show nm.length+1+sl.length+1-nm.length=(sl.length+1)+1 from VH,X8,Yg,YM,Zk VH,show sl.length+1-sl.length=1 from VH];rfl
   unfold TP;rw[e1,ZX (Ol h),ZX Vz,ZU (.inr rfl),e2,ZU rfl,e3,Iy h',ZX (CJ h'),ZX Vz,e4,ZU rfl,e5,PN h'' aaW,ZX (Ol h'')];simp;omega
 . obtain⟨a,d,rfl,h0,h6,ha,hd⟩:=Tf h;rw[Y1,OG a _ h0 h6 ha an0,ZX Vy,ZU Vy,<- Y1];unfold QT;rw[Iy h,ZX (CJ h),YU]
 . show kw (94::(sl++u))=_;unfold kw;rw[ZX Ez,ZX Ez,ZU (show first (94::(sl++u))=94 from rfl)];show QT 94 1 (sl++u)=_;unfold QT;rw[Iy h,ZX (CJ h)];simp;omega
 . obtain⟨c,r,rfl,hc⟩:=P7 h;have hc':=Sj.1 hc
   have e1:Vj isSmall 6 (c::r++u)=[]:=by
    refine Ql isSmall 6 [] (c::r++u) Vy Vy (.inr λy hy=>?_);simp at hy;rw[<- hy,Y3];intro hs;simp[isSmall]at hs;omega
   have hf:first (c::r++u)=c.toNat:=rfl
   unfold kw;rw[hf,ZX VH,ZX VH,ZX VH,ZX VH,ZX VH,ZX VH,e1,ZU rfl,O8 h hu,YU]
 . obtain⟨c,r,hcr,hc⟩:=P7 h
   have hn:¬((45::(d++u)).length=1\/(45::(d++u))[1]?=some 32):=by
    rw[hcr];rintro(e|e)
    . simp at e
    . simp at e;rw[e]at hc;revert hc;decide
   show kw (45::(d++u))=_;unfold kw;rw[ZU (show first (45::(d++u))=45 from rfl),ZX hn];show (TA 110 U8 4 1 (d++u)).map _=_;rw[O8 h hu];simp;omega
 . show kw (62::(d++u))=_;unfold kw;rw[ZX Ez,ZX Ez,ZX Ez,ZU (show first (62::(d++u))=62 from rfl)];show TA 62 U8 2 1 (d++u)=_;rw[O8 h hu];simp;omega
 . show kw (63::(d++u))=_;unfold kw;rw[ZX Ez,ZX Ez,ZX Ez,ZX Ez,ZU (show first (63::(d++u))=63 from rfl)];show TA 63 U8 2 1 (d++u)=_;rw[O8 h hu];simp;omega
 . obtain⟨c,r,rfl,hc⟩:=P7 h;have hr:r=[]:=by have:=h.2.1;simp at this;exact this
   subst hr;have hc':=Sj.1 hc
   have h0:Gx c=true:=by
    have:c.toNat-48<3:=by simpa[numOf]using h'
    simp[Gx];omega
   show kw ([97]++(c::u))=_;rw[OG _ _ Vy Vy Vz (.inr (λy hy=>al7)),ZX afd,ZX afd,ZU rfl];unfold TA;have e4:Vj Gx 1 (c::u)=[c]:=Ql Gx 1 [c] u (by simpa using h0) Vy NP;rw[e4];rfl
 . obtain⟨c,r,rfl,hc⟩:=P7 h;have hr:r=[]:=by have:=h.2.1;simp at this;exact this
   subst hr;have hc':=Sj.1 hc;show kw ([115]++(c::u))=_;rw[OG _ _ Vy Vy Vz (.inr (λy hy=>al7)),ZX afd,ZX afd,ZX Vz,ZU rfl];exact O8 (d:=[c]) h hu
 . show kw (61::115::(d++u))=_;unfold kw;rw[ZX Ez,ZU (show first (61::115::(d++u))=61 from rfl),ZU (show (61::115::(d++u))[1]?=some 115 from rfl)];show TA 112 U8 1 2 (d++u)=_;rw[O8 h hu];simp;omega
def QD {r:List UInt8}(h:Ve r≠[]):className (Ve r)=true/\∃v,r=Ve r++v:=by
 unfold Ve at h ⊢;split at h
 . exact absurd rfl h
 . rename_i hne;rw[ZX hne];have h1:=Q5 Rf 1 r;have ha:=QC Rf 1 r;obtain⟨v,hv⟩:=QE Rf 1 r
   match hs:Vj Rf 1 r,hne,h1 with
   | [c],_,_=>
    rw[hs]at ha hv;obtain⟨v',hv'⟩:=QE isSmall 5 (r.drop 1);have hrd:r.drop 1=v:=by rw[hv];rfl
    refine⟨yC (ha c Vy) (Q5 isSmall 5 _) (QC isSmall 5 _),v',?_⟩;show r=[c]++Vj isSmall 5 (r.drop 1)++v';rw[Y1,<- hv',hrd];exact hv
def Qe {r:List UInt8}(h:TW r≠[]):selector (TW r)=true/\∃v,r=TW r++v:=by
 unfold TW at h ⊢;split at h
 . exact absurd rfl h
 . rename_i hne;split at h
   . rename_i h47;split at h
     . exact absurd rfl h
     . rename_i hd;rw[ZX hne,ZU h47,ZX hd];obtain⟨v,hv⟩:=QE isSmall 6 r;have h6:=Q5 isSmall 6 r;have ha:=QC isSmall 6 r
       have hl:1<=(Vj isSmall 6 r).length:=by
        cases hs:Vj isSmall 6 r with
        | nil=>exact absurd hs hne
        | cons c t=>simp
       generalize Vj isSmall 6 r=a at *
       have e1:v[0]?=some 47:=by
        rw[hv,ZP UM,Y0]at h47;exact h47
       obtain⟨v',rfl⟩:∃v',v=47::v':=by
        cases v with
        | nil=>simp at e1
        | cons c t=>simp at e1;exact⟨t,by rw[e1]⟩
       have e1:r.drop (a.length+1)=v':=by rw[hv,YM,Zk VH,show a.length+1-a.length=1 from VH];rfl
       rw[e1]at hd ⊢;obtain⟨y,hy⟩:=QE OC 1 v';have g1:=Q5 OC 1 v';have ga:=QC OC 1 v'
       match hs:Vj OC 1 v',hd,g1 with
       | [d],_,_=>
        rw[hs]at hy ga;refine⟨rO hl h6 ha (ga d Vy),y,?_⟩;rw[hv,hy];simp
   . exact absurd rfl h
def QL {k m ahead n:Nat}{p:UInt8->Bool}{r:List UInt8}{x:W}(h:TA k p m ahead r=some (x,n)):
 ∃d v,r=d++v/\1<=d.length/\d.length<=m/\(∀c∈d,p c=true)/\x=⟨k,(numOf d:Nat),[],[],[]⟩/\n=ahead+d.length:=by
 unfold TA at h;split at h
 . cases h
 . rename_i hne;obtain⟨v,hv⟩:=QE p m r;simp only[Y2,YL]at h;exact⟨Vj p m r,v,hv,by cases hs:Vj p m r with|nil=>exact absurd hs hne|cons c t=>simp,Q5 p m r,QC p m r,h.1.symm,h.2.symm⟩
def Fh {k ahead n:Nat}{r:List UInt8}{x:W}(h:QT k ahead r=some (x,n)):∃sl v,selector sl=true/\r=sl++v/\x=⟨k,(U6 sl:Nat),sl,[],[]⟩/\n=ahead+sl.length:=by
 unfold QT at h;split at h
 . cases h
 . rename_i hne;obtain⟨hs,v,hv⟩:=Qe hne;simp only[Y2,YL]at h;exact⟨TW r,v,hs,hv,h.1.symm,h.2.symm⟩
def Tz {a v:List UInt8}{n:Nat}(h:n=a.length):(a++v).take n=a/\n<=(a++v).length:=by
 subst h;exact⟨Xq rfl,Vy⟩
def yE {k ahead n:Nat}{r:List UInt8}{x:W}(h:TP k ahead r=some (x,n)):
 (∃nm v,className nm=true/\(k=119\/k=98)/\r=nm++v/\x=⟨k,0,[],nm,[]⟩/\n=ahead+nm.length)\/
 (∃nm sl v,className nm=true/\selector sl=true/\k=120/\r=(nm++46::sl)++v/\x=⟨k,0,sl,nm,[]⟩/\n=ahead+(nm++46::sl).length)\/
 (∃nm sl nn v,className nm=true/\selector sl=true/\className nn=true/\k=99/\r=(nm++46::(sl++46::nn))++v/\x=⟨k,0,sl,nm,nn⟩/\n=ahead+(nm++46::(sl++46::nn)).length)\/
 (∃nm nn v,className nm=true/\className nn=true/\k=118/\r=(nm++46::nn)++v/\x=⟨k,0,[],nm,nn⟩/\n=ahead+(nm++46::nn).length):=by
 unfold TP at h;split at h
 . cases h
 . rename_i hne;obtain⟨E_,v,hv⟩:=QD hne;generalize Ve r=nm at *
   have dot:r[nm.length]?=some 46->∃v',v=46::v'/\r.drop (nm.length+1)=v':=λe=>by
    rw[hv,ZP UM,Y0]at e
    cases v with
    | nil=>simp at e
    | cons c t=>
     simp at e;exact⟨t,pI,by rw[hv,YM,Zk VH,show nm.length+1-nm.length=1 from VH];rfl⟩
   split at h
   . rename_i hk;simp only[Y2,YL]at h;exact .inl ⟨nm,v,E_,hk,hv,h.1.symm,h.2.symm⟩
   . split at h
     . rename_i hk;split at h
       . rename_i QQ;obtain⟨v1,rfl,hd⟩:=dot QQ;rw[hd]at h;split at h
         . cases h
         . rename_i gR;obtain⟨hsl,v2,hv2⟩:=Qe gR;generalize TW v1=sl at *;subst hv2;split at h
           . rename_i hk2;simp only[Y2,YL]at h;exact .inr (.inl ⟨nm,sl,v2,E_,hsl,hk2,by rw[hv];simp,h.1.symm,akE⟩)
           . rename_i hk2;split at h
             . rename_i tm
               have e:v2[0]?=some 46:=by
                rw[hv,ZP VH,show nm.length+1+sl.length-nm.length=sl.length+1 from VH,Xn,ZP UM,Y0]at tm;exact tm
               obtain⟨v3,rfl⟩:∃v3,v2=46::v3:=by
                cases v2 with
                | nil=>simp at e
                | cons c t=>simp at e;exact⟨t,pI⟩
               have e5:r.drop (nm.length+1+sl.length+1)=v3:=by
                rw[hv,YM,Zk VH,show nm.length+1+sl.length+1-nm.length=(sl.length+1)+1 from VH,X8,Yg,YM,Zk VH,show sl.length+1-sl.length=1 from VH];rfl
               rw[e5]at h;split at h
               . cases h
               . rename_i xx;obtain⟨hnn,v4,hv4⟩:=QD xx;generalize Ve v3=nn at *;subst hv4;simp only[Y2,YL]at h;exact .inr (.inr (.inl ⟨nm,sl,nn,v4,E_,hsl,hnn,VH,by rw[hv];simp,h.1.symm,akE⟩))
             . cases h
       . cases h
     . split at h
       . rename_i hk;split at h
         . rename_i QQ;obtain⟨v1,rfl,hd⟩:=dot QQ;rw[hd]at h;split at h
           . cases h
           . rename_i xx;obtain⟨hnn,v2,hv2⟩:=QD xx;generalize Ve v1=nn at *;subst hv2;simp only[Y2,YL]at h;exact .inr (.inr (.inr ⟨nm,nn,v2,E_,hnn,hk,by rw[hv];simp,h.1.symm,akE⟩))
         . cases h
       . cases h
def alu {d:List UInt8}(h1:1<=d.length)(hm:d.length<=1)(hd:∀c∈d,Gx c=true):Qm d 1/\numOf d<3:=by
 match d,h1,hm with
 | [c],_,_=>
  have:=hd c Vy;simp[Gx]at this;refine⟨⟨Vy,Vy,?_⟩,?_⟩
  . intro y hy;simp at hy;subst hy;simp[U8];omega
  . simp[numOf];omega
def Nb (L:List UInt8):QG L=119/\L=[110,101,119]\/QG L=98/\L=[98,101]\/QG L=120/\L=[100,114,111,112]\/QG L=118/\L=[109,111,118,101]\/QG L=99/\L=[99,111,112,121]\/QG L=0:=by
 unfold QG;split
 . rename_i e;exact .inl ⟨rfl,e⟩
 . split
   . rename_i e;exact .inr (.inl ⟨rfl,e⟩)
   . split
     . rename_i e;exact .inr (.inr (.inl ⟨rfl,e⟩))
     . split
       . rename_i e;exact .inr (.inr (.inr (.inl ⟨rfl,e⟩)))
       . split
         . rename_i e;exact .inr (.inr (.inr (.inr (.inl ⟨rfl,e⟩))))
         . exact .inr (.inr (.inr (.inr JQ)))
def IU {r:List UInt8}{x:W}{n:Nat}(hr:r≠[])(h:kw r=some (x,n)):Form (r.take n) x/\n<=r.length:=by
 obtain⟨c,q,rfl⟩:∃c q,r=c::q:=by
  cases r with
  | nil=>exact absurd rfl hr
  | cons c q=>exact⟨c,q,rfl⟩
 unfold kw at h;by_cases hf:first (c::q)=45
 . rw[ZU hf]at h;obtain rfl:c=45:=Zj.1 hf;by_cases he:(45::q).length=1\/(45::q)[1]?=some 32
   . rw[ZU he]at h;exact aiW
   . rw[ZX he]at h
     cases hk:TA 110 U8 4 1 ((45::q).drop 1) with
     | none=>rw[hk]at h;cases h
     | some y=>
      obtain⟨y,ny⟩:=y;rw[hk]at h;obtain⟨d,v,hv,h1,hm,hd,rfl,rfl⟩:=QL hk;have hv':q=d++v:=hv;subst hv';simp only[ZG,Y2,YL]at h;obtain⟨rfl,rfl⟩:=h;obtain⟨e1,e2⟩:=Tz (a:=45::d) (v:=v) (n:=1+d.length) Vo;rw[YR]at e1 e2;rw[e1];exact⟨.inr apF,e2⟩
 . rw[ZX hf]at h;by_cases hf:first (c::q)=61
   . rw[ZU hf]at h;obtain rfl:c=61:=Zj.1 hf;by_cases VC:(61::q)[1]?=some 115
     . rw[ZU VC]at h
       obtain⟨q',rfl⟩:∃q',q=115::q':=by
        cases q with
        | nil=>simp at VC
        | cons y t=>simp at VC;exact⟨t,by rw[VC]⟩
       obtain⟨d,v,hv,h1,hm,hd,rfl,rfl⟩:=QL h;have hv':q'=d++v:=hv;subst hv';obtain⟨e1,e2⟩:=Tz (a:=61::115::d) (v:=v) (n:=2+d.length) Vo;rw[YR,YR]at e1 e2;rw[e1];exact⟨.inr (.inr (.inr (.inr (.inr (.inr (.inr (.inr (.inr (.inr (.inr (.inr (.inr (.inr apR))))))))))))),e2⟩
     . rw[ZX VC]at h;exact aiW
   . rw[ZX hf]at h;by_cases hf:first (c::q)=94
     . rw[ZU hf]at h;obtain rfl:c=94:=Zj.1 hf;obtain⟨sl,v,hs,hv,rfl,rfl⟩:=Fh h;have hv':q=sl++v:=hv;subst hv';obtain⟨e1,e2⟩:=Tz (a:=94::sl) (v:=v) (n:=1+sl.length) Vo;rw[YR]at e1 e2;rw[e1];exact⟨.inr (.inr (.inr (.inr (.inr (.inr (.inr (.inl ⟨sl,hs,rfl,rfl⟩))))))),e2⟩
     . rw[ZX hf]at h;by_cases hf:first (c::q)=62
       . rw[ZU hf]at h;obtain rfl:c=62:=Zj.1 hf;obtain⟨d,v,hv,h1,hm,hd,rfl,rfl⟩:=QL h;have hv':q=d++v:=hv;subst hv';obtain⟨e1,e2⟩:=Tz (a:=62::d) (v:=v) (n:=1+d.length) Vo;rw[YR]at e1 e2;rw[e1];exact⟨.inr ak9,e2⟩
       . rw[ZX hf]at h;by_cases hf:first (c::q)=63
         . rw[ZU hf]at h;obtain rfl:c=63:=Zj.1 hf;obtain⟨d,v,hv,h1,hm,hd,rfl,rfl⟩:=QL h;have hv':q=d++v:=hv;subst hv';obtain⟨e1,e2⟩:=Tz (a:=63::d) (v:=v) (n:=1+d.length) Vo;rw[YR]at e1 e2;rw[e1];exact⟨.inr (.inr ak9),e2⟩
         . rw[ZX hf]at h;by_cases hf:first (c::q)=43\/first (c::q)=42\/first (c::q)=60
           . rw[ZU hf]at h;simp only[Y2,YL]at h;obtain⟨rfl,rfl⟩:=h;refine⟨.inl ?_,Vy⟩;rw[MK]at hf ⊢;rcases hf with hf|hf|hf
             . obtain rfl:c=43:=Zj.1 hf;rfl
             . obtain rfl:c=42:=Zj.1 hf;rfl
             . obtain rfl:c=60:=Zj.1 hf;rfl
           . rw[ZX hf]at h
             by_cases hne:Vj isSmall 6 (c::q)=[]
             . rw[ZU hne]at h;obtain⟨d,v,hv,h1,hm,hd,rfl,rfl⟩:=QL h;rw[hv];obtain⟨e1,e2⟩:=Tz (a:=d) (v:=v) (n:=0+d.length) VH;rw[e1];exact⟨.inr (.inr (.inr (.inr (.inr (.inr (.inr (.inr (.inl ⟨⟨h1,hm,hd⟩,rfl⟩)))))))),e2⟩
             . rw[ZX hne]at h;generalize c::q=r at *;obtain⟨v,hv⟩:=QE isSmall 6 r;have h6:=Q5 isSmall 6 r;have hL:=QC isSmall 6 r;generalize Vj isSmall 6 r=L at *;have e2:r[L.length]?=v[0]?:=by rw[hv,ZP UM,Y0]
               have e1:r.drop (L.length+1)=v.drop 1:=by rw[hv,YM,Zk VH,show L.length+1-L.length=1 from VH];rfl
               rw[e2,e1]at h;by_cases N0:v[0]?=some 58
               . rw[ZU N0]at h
                 obtain⟨v',rfl⟩:∃v',v=58::v':=by
                  cases v with
                  | nil=>simp at N0
                  | cons y t=>simp at N0;exact⟨t,by rw[N0]⟩
                 have h':TP (QG L) (L.length+1) v'=some (x,n):=h;rw[hv];rcases yE h' with⟨nm,y,E_,hk,rfl,rfl,rfl⟩|⟨nm,sl,y,E_,hsl,hk,rfl,rfl,rfl⟩|⟨nm,sl,nn,y,E_,hsl,hnn,hk,rfl,rfl,rfl⟩|⟨nm,nn,y,E_,hnn,hk,rfl,rfl,rfl⟩
                 . obtain⟨e1,e2⟩:=Tz (a:=L++58::nm) (v:=y) (n:=L.length+1+nm.length) Vo;have er:L++58::(nm++y)=(L++58::nm)++y:=Vy;rw[er,e1];refine⟨?_,e2⟩;rcases Nb L with⟨e,rfl⟩|⟨e,rfl⟩|⟨e,rfl⟩|⟨e,rfl⟩|⟨e,rfl⟩|e
                   . exact .inr (.inl ⟨nm,E_,rfl,rfl⟩)
                   . exact .inr (.inr (.inl ⟨nm,E_,rfl,rfl⟩))
                   . rw[e]at hk;omega
                   . rw[e]at hk;omega
                   . rw[e]at hk;omega
                   . rw[e]at hk;omega
                 . obtain⟨e1,e2⟩:=Tz (a:=L++58::(nm++46::sl)) (v:=y) (n:=L.length+1+(nm++46::sl).length) Vo;have er:L++58::((nm++46::sl)++y)=(L++58::(nm++46::sl))++y:=Vy;rw[er,e1];refine⟨?_,e2⟩;rcases Nb L with⟨e,rfl⟩|⟨e,rfl⟩|⟨e,rfl⟩|⟨e,rfl⟩|⟨e,rfl⟩|e
                   . rw[e]at hk;omega
                   . rw[e]at hk;omega
                   . exact .inr (.inr (.inr (.inl ⟨nm,sl,E_,hsl,rfl,rfl⟩)))
                   . rw[e]at hk;omega
                   . rw[e]at hk;omega
                   . rw[e]at hk;omega
                 . obtain⟨e1,e2⟩:=Tz (a:=L++58::(nm++46::(sl++46::nn))) (v:=y) (n:=L.length+1+(nm++46::(sl++46::nn)).length) Vo;have er:L++58::((nm++46::(sl++46::nn))++y)=(L++58::(nm++46::(sl++46::nn)))++y:=Vy;rw[er,e1];refine⟨?_,e2⟩;rcases Nb L with⟨e,rfl⟩|⟨e,rfl⟩|⟨e,rfl⟩|⟨e,rfl⟩|⟨e,rfl⟩|e
                   . rw[e]at hk;omega
                   . rw[e]at hk;omega
                   . rw[e]at hk;omega
                   . rw[e]at hk;omega
                   . exact .inr (.inr (.inr (.inr (.inr (.inl ⟨nm,sl,nn,E_,hsl,hnn,rfl,rfl⟩)))))
                   . rw[e]at hk;omega
                 . obtain⟨e1,e2⟩:=Tz (a:=L++58::(nm++46::nn)) (v:=y) (n:=L.length+1+(nm++46::nn).length) Vo;have er:L++58::((nm++46::nn)++y)=(L++58::(nm++46::nn))++y:=Vy;rw[er,e1];refine⟨?_,e2⟩;rcases Nb L with⟨e,rfl⟩|⟨e,rfl⟩|⟨e,rfl⟩|⟨e,rfl⟩|⟨e,rfl⟩|e
                   . rw[e]at hk;omega
                   . rw[e]at hk;omega
                   . rw[e]at hk;omega
                   . exact .inr (.inr (.inr (.inr (.inl ⟨nm,nn,E_,hnn,rfl,rfl⟩))))
                   . rw[e]at hk;omega
                   . rw[e]at hk;omega
               . rw[ZX N0]at h;by_cases h47:v[0]?=some 47
                 . rw[ZU h47]at h;obtain⟨sl,y,hs,hy,rfl,rfl⟩:=Fh h;rw[hy];obtain⟨e1,e2⟩:=Tz (a:=sl) (v:=y) (n:=0+sl.length) VH;rw[e1];exact⟨.inr (.inr (.inr (.inr (.inr (.inr (.inl ⟨hs,rfl⟩)))))),e2⟩
                 . rw[ZX h47]at h
                   by_cases eL:L=[97]
                   . rw[ZU eL]at h;subst eL;have hr1:r.drop 1=v:=by rw[hv];rfl
                     rw[hr1]at h;obtain⟨d,y,rfl,h1,hm,hd,rfl,rfl⟩:=QL h;obtain⟨Hs,hd3⟩:=alu h1 hm hd;rw[hv];obtain⟨e1,e2⟩:=Tz (a:=97::d) (v:=y) (n:=1+d.length) Vo;have er:[97]++(d++y)=(97::d)++y:=rfl;rw[er,e1];exact⟨.inr (.inr (.inr (.inr (.inr (.inr (.inr (.inr (.inr (.inr (.inr (.inr (.inl ⟨d,Hs,hd3,rfl,rfl⟩)))))))))))),e2⟩
                   . rw[ZX eL]at h
                     by_cases eL:L=[115]
                     . rw[ZU eL]at h;subst eL;have hr1:r.drop 1=v:=by rw[hv];rfl
                       rw[hr1]at h;obtain⟨d,y,rfl,h1,hm,hd,rfl,rfl⟩:=QL h;rw[hv];obtain⟨e1,e2⟩:=Tz (a:=115::d) (v:=y) (n:=1+d.length) Vo;have er:[115]++(d++y)=(115::d)++y:=rfl;rw[er,e1];exact⟨.inr (.inr (.inr (.inr ak9))),e2⟩
                     . rw[ZX eL]at h;by_cases hp:PD L=0
                       . rw[ZU hp]at h;cases h
                       . rw[ZX hp]at h;simp only[Y2,YL]at h;obtain⟨rfl,rfl⟩:=h;rw[hv];obtain⟨e1,e2⟩:=Tz (a:=L) (v:=v) (n:=L.length) rfl;rw[e1];refine⟨.inl ?_,e2⟩;unfold PD at hp ⊢
                         cases hpl:Va L with
                         | none=>rw[hpl]at hp;exact absurd rfl hp
                         | some z=>
                          have hm:=JY hpl;simp only[ZM,Zx,YE]at hm;rcases hm with rfl|rfl|rfl|rfl|rfl|rfl|rfl|rfl|rfl<;>rw[<- Y7 hpl]
def Oy {l:List UInt8}(h:className l=true):∀c∈l,c≠32:=by
 obtain⟨c,r,rfl,hc,_,hr⟩:=OX h;intro x hx;rcases ZM.1 hx with rfl|hx
 . intro e;rw[e]at hc;revert hc;decide
 . exact qK (hr x hx) 32 Vz
def fG {l:List UInt8}(h:selector l=true):∀c∈l,c≠32:=Oo h 32 Vz Vz Vz
def I9 {d:List UInt8}{m:Nat}(h:Qm d m):∀c∈d,c≠32:=λc hc e=>by rw[e]at hc;exact Ik h 32 Vz hc
def Vd {c:UInt8}{r:List UInt8}(hc:c≠32)(hr:∀x∈r,x≠32):∀x∈c::r,x≠32:=λx hx=>by
 rcases ZM.1 hx with rfl|hx
 . exact hc
 . exact hr x hx
def Oe {a r:List UInt8}(ha:∀x∈a,x≠32)(hr:∀x∈r,x≠32):∀x∈a++r,x≠32:=λx hx=>by
 rcases YT.1 hx with hx|hx
 . exact ha x hx
 . exact hr x hx
def zB {t:List UInt8}{x:W}(h:Form t x):∀c∈t,c≠32:=by
 rcases h with h|⟨nm,h,rfl,rfl⟩|⟨nm,h,rfl,rfl⟩|⟨nm,sl,h,h',rfl,rfl⟩|⟨nm,nn,h,h',rfl,rfl⟩|⟨nm,sl,nn,h,h',h'',rfl,rfl⟩|⟨h,rfl⟩|⟨sl,h,rfl,rfl⟩|⟨h,rfl⟩|⟨d,h,rfl,rfl⟩|⟨d,h,rfl,rfl⟩|⟨d,h,rfl,rfl⟩|⟨d,h,h',rfl,rfl⟩|⟨d,h,rfl,rfl⟩|⟨d,h,rfl,rfl⟩
 . have hm:=JY h;simp only[ZM,Zx,YE]at hm;rcases hm with rfl|rfl|rfl|rfl|rfl|rfl|rfl|rfl|rfl<;>decide
 . exact Vd Vz (Vd Vz (Vd Vz (Vd Vz aeu)))
 . exact Vd Vz (Vd Vz (Vd Vz aeu))
 . exact Vd Vz (Vd Vz (Vd Vz (Vd Vz (Vd Vz (Oe aeu (Vd Vz (fG h')))))))
 . exact Vd Vz (Vd Vz (Vd Vz (Vd Vz (Vd Vz (Oe aeu (Vd Vz (Oy h')))))))
 . exact Vd Vz (Vd Vz (Vd Vz (Vd Vz (Vd Vz (Oe aeu (Vd Vz (Oe (fG h') (Vd Vz (Oy h'')))))))))
 . exact fG h
 . exact Vd Vz (fG h)
 . exact I9 h
 . exact Vd Vz (I9 h)
 . exact Vd Vz (I9 h)
 . exact Vd Vz (I9 h)
 . exact Vd Vz (I9 h)
 . exact Vd Vz (I9 h)
 . exact Vd Vz (Vd Vz (I9 h))
def KC {a u:List UInt8}(ha:∀x∈a,x≠32)(hu:Ends u):(a++u).takeWhile (λc=>c != 32)=a:=by
 rw[XO (λx hx=>by simpa using ha x hx)]
 cases u with
 | nil=>simp
 | cons c u=>rw[XD (by rw[hu c rfl];simp)];simp
def Gq {r:List UInt8}(hr:r≠[]):Jo r=rd (r.takeWhile (λc=>c != 32)):=by
 have hsp:r=r.takeWhile (λc=>c != 32)++r.dropWhile (λc=>c != 32):=(List.takeWhile_append_dropWhile).symm
 have hu:Ends (r.dropWhile (λc=>c != 32)):=by
  intro c hc
  cases hd:r.dropWhile (λc=>c != 32) with
  | nil=>rw[hd]at hc;cases hc
  | cons y t=>
   rw[hd]at hc;injection hc with hc;have:=List.head_dropWhile_not (λc:UInt8=>c != 32) (l:=r) (by rw[hd];simp);simp only[hd,List.head_cons]at this;rw[<- hc];simpa using this
 cases hrd:rd (r.takeWhile (λc=>c != 32)) with
 | some x=>
  have hk:=agM hu (aln.1 hrd);rw[<- hsp]at hk;unfold Jo;rw[hk];show (if _ then some x else none)=some x;rw[ZU]
  cases hd:r.dropWhile (λc=>c != 32) with
  | nil=>left;rw[hd,XR]at hsp;rw[<- hsp]
  | cons y t=>
   right;have hy:=hu y (by rw[hd];rfl);rw[hd]at hsp;rw[hsp,ZP (by rw[<- hsp];exact ZN _)];rw[<- hsp,Y0,hy];rfl
 | none=>
  cases hw:Jo r with
  | none=>rfl
  | some x=>
   exfalso;unfold Jo at hw
   cases hk:kw r with
   | none=>rw[hk]at hw;cases hw
   | some y=>
    obtain⟨y,n⟩:=y;rw[hk]at hw;have hw':(if n=r.length\/r[n]?=some 32 then some y else none)=some x:=hw;split at hw'
    . rename_i he;obtain⟨hf,hn⟩:=IU hr hk
      have ht:r.takeWhile (λc=>c != 32)=r.take n:=by
       have e1:=(Yw n r).symm
       have hu':Ends (r.drop n):=by
        intro c hc;rw[Zn,Yt]at hc;rcases he with e|e
        . rw[e,Y8 UM]at hc;cases hc
        . rw[e]at hc;injection hc with hc;exact hc.symm
       have:=KC (zB hf) hu';rw[<- e1]at this;exact this
      rw[ht,wL hf]at hrd;cases hrd
    . cases hw'
def aaS {l:List UInt8}{i:Nat}(hr:l.drop i≠[])(h:kw (l.drop i)=none):rd (tok l i)=none:=by
 unfold tok;rw[<- Gq hr];unfold Jo;rw[h]
def aff {l:List UInt8}{i n:Nat}{x:W}(hr:l.drop i≠[])(h:kw (l.drop i)=some (x,n))(he:¬(n=(l.drop i).length\/(l.drop i)[n]?=some 32)):rd (tok l i)=none:=by
 unfold tok;rw[<- Gq hr];unfold Jo;rw[h];show (if _ then some x else none)=none;rw[ZX he]
def aez {l:List UInt8}{i n:Nat}{x:W}(hr:l.drop i≠[])(h:kw (l.drop i)=some (x,n))(he:n=(l.drop i).length\/(l.drop i)[n]?=some 32):rd (tok l i)=some x/\(tok l i).length=n:=by
 constructor
 . unfold tok;rw[<- Gq hr];unfold Jo;rw[h];show (if _ then some x else none)=some x;rw[ZU he]
 . obtain⟨hf,hn⟩:=IU hr h
   have hu:Ends ((l.drop i).drop n):=by
    intro c hc;rw[Zn,Yt]at hc;rcases he with he|he
    . rw[he,Y8 UM]at hc;cases hc
    . rw[he]at hc;injection hc with hc;exact hc.symm
   have hk:=KC (zB hf) hu;rw[Yw]at hk;unfold tok;rw[hk,Za];omega
def anC {l:List UInt8}{i n:Nat}{x:W}(hr:l.drop i≠[])(h:kw (l.drop i)=some (x,n)):n<=(l.drop i).length:=(IU hr h).2
def afo {l:List UInt8}{i n:Nat}{x:W}(hr:l.drop i≠[])(h:kw (l.drop i)=some (x,n)):Pv x:=gQ (wL (IU hr h).1)
def afM (H h:Nat):H &&& 2 ^ h=if H.testBit h=true then 2 ^ h else 0:=by
 apply WV;intro i;rw[XL,Xu];by_cases e:h=i
 . subst e;cases hb:H.testBit h<;>simp[Xu]
 . cases hb:H.testBit h<;>simp[Xu,e]
def or_bit (H h k:Nat):(H ||| 2 ^ h).testBit k=(decide (k=h)||H.testBit k):=by
 rw[Nat.testBit_or,Xu,Bool.or_comm];congr 1;simp[eq_comm]
theorem Dn:∀(n H:Nat),H<2 ^ n->(H &&& (H-1)=0↔∀h1 h2,H.testBit h1=true->H.testBit h2=true->h1=h2)
 | 0,H,h=>by
  have:H=0:=Nv;subst this;simp
 | n+1,H,h=>by
  have ih:=Dn n (H / 2) (by rw[Nat.pow_succ]at h;omega);have hb:∀k,H.testBit (k+1)=(H / 2).testBit k:=λk=>Yk H k;rcases WE H with hr|hr
  . -- even
    by_cases h0:H=0
    . subst h0;simp
    have e1:H &&& (H-1)=2*((H / 2) &&& (H / 2-1)):=by
     apply WV;intro i
     cases i with
     | zero=>
      rw[XL];simp[Xy,hr]
     | succ i=>
      rw[XL,Yk,Yk,Yk,show (H-1) / 2=H / 2-1 from VH,show 2*((H / 2) &&& (H / 2-1)) / 2=(H / 2) &&& (H / 2-1) from VH,XL]
    rw[e1];constructor
    . intro hz h1 h2 b1 b2;have hz':=ih.1 VH
      cases h1 with
      | zero=>simp[Xy,hr]at b1
      | succ h1=>cases h2 with
       | zero=>simp[Xy,hr]at b2
       | succ h2=>rw[hb]at b1 b2;rw[hz' h1 h2 b1 b2]
    . intro hz;have:=ih.2 (λh1 h2 b1 b2=>by have:=hz (h1+1) (h2+1) (by rw[hb];exact b1) (by rw[hb];exact b2);omega);omega
  . have e1:H &&& (H-1)=2*(H / 2):=by
     apply WV;intro i
     cases i with
     | zero=>rw[XL];simp[Xy];omega
     | succ i=>rw[XL,Yk,Yk,Yk,show (H-1) / 2=H / 2 from VH,show 2*(H / 2) / 2=H / 2 from VH,Bool.and_self]
    rw[e1];constructor
    . intro hz h1 h2 b1 b2;have hq:H / 2=0:=VH
      cases h1 with
      | zero=>cases h2 with
       | zero=>rfl
       | succ h2=>rw[hb,hq]at b2;simp at b2
      | succ h1=>rw[hb,hq]at b1;simp at b1
    . intro hz;apply Zt;intro hn;obtain⟨i,hi⟩:=Nat.exists_testBit_of_ne_zero (x:=H / 2) VH;have:=hz 0 (i+1) (by simp[Xy,hr]) (by rw[hb];exact hi);omega
def u32_and (H h:Nat)(hH:H<2 ^ 17)(hh:h<=16):bits .and .u32 (H:Int) ((2:Int) ^ h)=if H.testBit h=true then 2 ^ h else 0:=by
 have hp:(2:Nat) ^ h<2 ^ 17:=XC VH VH;have:=(bits_nat .u32 17 Vz alK H (2 ^ h) hH hp).1;rw[show ((2:Int) ^ h)=((2 ^ h:Nat):Int) from by push_cast;rfl,this,afM];split<;>simp
def u32_or (H h:Nat)(hH:H<2 ^ 17)(hh:h<=16):bits .or .u32 (H:Int) ((2:Int) ^ h)=((H ||| 2 ^ h:Nat):Int):=by
 have hp:(2:Nat) ^ h<2 ^ 17:=XC VH VH;have:=(bits_nat .u32 17 Vz alK H (2 ^ h) hH hp).2;rw[show ((2:Int) ^ h)=((2 ^ h:Nat):Int) from by push_cast;rfl];exact this
def anx (H h:Nat)(hH:H<2 ^ 17)(hh:h<=16):H ||| 2 ^ h<2 ^ 17:=Nat.or_lt_two_pow hH (XC VH VH)
def afI (H:Nat)(hH:H<2 ^ 17):bits .and .u32 (H:Int) (IntKind.u32.wrap ((H:Int)-1))=((H &&& (H-1):Nat):Int):=by
 by_cases h0:H=0
 . subst h0;decide
 . have:=(bits_nat .u32 17 Vz alK H (H-1) hH VH).1;rw[show IntKind.u32.wrap ((H:Int)-1)=((H-1:Nat):Int) from by rw[XB];omega];exact this
end Kn
