import Derived.Test.YtkghmgoefiepeaaGreatDoorChecked
import Derived.Outline
import Derived.Deep.QuietTactic
import Derived.BigQuiet
import Derived.Maps.AppendAt
import Derived.Laws.IdiomStrings
import Derived.Deep.RegionWith
import Derived.Deep.DrawnRows
import Derived.Test.YtkghmgoefiepeaaGreatDoorA
set_option linter.unusedSimpArgs false
set_option linter.unusedVariables false
set_option maxHeartbeats 4000000
set_option maxRecDepth 100000
namespace Go.Proofs.Rz
open ChangeShapes WideShapes ChangeAt RowKit Kn Tryz
theorem Ce {a b:Bool}(h:a=b):Ending.returned (.bool a)=.returned (.bool b):=by rw[h]
theorem Ir {k:IntKind}{a b:Int}(h:a=b):Ending.returned (.int k a)=.returned (.int k b):=by rw[h]
theorem J8 (c:UInt8)(w:World):
 Calls prog 94 #[.int .u8 c.toNat] w λe w'=>e=.returned (.bool (isSmall c))/\w'=w:=by
 go_enter func94,ntmps94;go_wp2
 all_goals (go_ret;refine⟨Ce ?_,rfl⟩;unfold isSmall;rw[Yf];simp;omega)
theorem Gm (c:UInt8)(w:World):
 Calls prog 158 #[.int .u8 c.toNat] w λe w'=>e=.returned (.bool (U8 c))/\w'=w:=by
 go_enter func158,ntmps158;go_wp2
 all_goals (go_ret;refine⟨Ce ?_,rfl⟩;unfold U8;rw[Yf];simp;omega)
theorem Nj (s:ByteArray)(h:¬(1<=s.size/\s.size<=6/\Rf ((bl s)[0]?.getD 0)=true)):className (bl s)=false:=by
 unfold className;rw[VB];cases hc:Rf ((bl s)[0]?.getD 0)
 . simp
 . rw[hc]at h;simp;intro a b;exact absurd ⟨a,b,rfl⟩ h
theorem QV (s:ByteArray)(w:World)(hs:s.size<=maxLen):
 Calls prog 98 #[.string s] w λe w'=>e=.returned (.bool (className (bl s)))/\w'=w:=by
 unfold maxLen at hs;by_cases h1:1<=s.size
 . by_cases h6:s.size<=6
   . have hg:=Qw s 0 VH;have hcap:Rf ((bl s)[0]?.getD 0)=(decide (65<=s[0].toNat)&&decide (s[0].toNat<=90)):=by rw[hg];rfl
     by_cases hc:65<=s[0].toNat/\s[0].toNat<=90
     . have hx:Rf ((bl s)[0]?.getD 0)=true:=by rw[hcap];simp[hc]
       have HC:Hid _:=hx;clear hx;obtain⟨hc1,hc1⟩:=hc;clear hg hcap;go_enter func98,ntmps98;go_wp2
       go_loop [3] (λi=>∃k:Nat,1<=k/\k<=s.size/\i=VI k/\∀j c,1<=j->j<k->(bl s)[j]?=some c->isSmall c=true) (λi=>s.size-(intOf i).toNat)
       case atStart=>exact⟨1,VH,h1,rfl,λj c a b=>VH⟩
       case round=>
        obtain⟨k,hk1,hk,rfl,hall⟩:=hrel;have HA:Hid _:=hall;clear hall;by_cases hlt:k<s.size
        . cases hsm:isSmall s[k]
          . go_wp2_with (go_at_call 94;refine(J8 _ _).mono ?_;rintro e w' ⟨rfl,rfl⟩);refine yH ?_
            have:((bl s).drop 1).all isSmall=false:=by
             rw[Y3];intro h;have:=(tH _ _ _).1 h k _ hk1 (Si s k hlt);rw[hsm]at this;cases this
            unfold className;rw[this,Bool.and_false]
          . go_wp2_with (go_at_call 94;refine(J8 _ _).mono ?_;rintro e w' ⟨rfl,rfl⟩)
            go_round
            case rel=>
             refine⟨k+1,VH,VH,Uu,λj c a b hj=>?_⟩;by_cases e:j=k
             . exact aiB
             . exact HA.o j c a VH hj
            case measure=>simp[intOf];omega
        . go_wp2;refine yH ?_
          have:=(tH _ _ _).2 λj c a hj=>HA.o j c a (by
           have:=(Z7.1 hj).1;rw[VB]at this
           omega) hj
          unfold className;rw[this,HC.o,VB];simp[h1,h6]
     . have HN:=UQ (Nj s (λh=>hc (by have:=h.2.2;rw[hcap]at this;simpa using this)));have hcc:s[0].toNat<65\/90<s[0].toNat:=VH;clear hc hg hcap;rcases hcc with hcc|hcc
       all_goals
        go_enter func98,ntmps98;go_wp2
        all_goals (go_ret;exact qY)
   . have HN:=UQ (Nj s VH);go_enter func98,ntmps98;go_wp2
     go_ret
     exact qY
 . have HN:=UQ (Nj s VH);go_enter func98,ntmps98;go_wp2
   go_ret
   exact qY
theorem Tn (s:ByteArray)(h:¬(3<=s.size/\s.size<=8/\(bl s)[s.size-2]?.getD 0=47/\48<=((bl s)[s.size-1]?.getD 0).toNat/\((bl s)[s.size-1]?.getD 0).toNat<=51)):selector (bl s)=false:=by
 rw[Y3];intro hh;unfold selector at hh;rw[VB]at hh;simp only[ZB,Zq]at hh;exact h ⟨hh.1.1.1.1.1,hh.1.1.1.1.2,hh.1.1.1.2,hh.1.1.2,hh.1.2⟩
theorem Pj (s:ByteArray)(w:World)(hs:s.size<=maxLen):
 Calls prog 54 #[.string s] w λe w'=>e=.returned (.bool (selector (bl s)))/\w'=w:=by
 unfold maxLen at hs;by_cases h3:3<=s.size
 . by_cases h8:s.size<=8
   . obtain⟨n,hn⟩:∃n,s.size=n+2:=⟨s.size-2,VH⟩
     have Z1:1<=n:=VH;have C7:n<=6:=VH;have g0:=Qw s n VH;have g1:=Qw s (n+1) VH;by_cases hg:s[n].toNat=47/\48<=s[n+1].toNat/\s[n+1].toNat<=51
     . have U_:selector (bl s)=((bl s).take n).all isSmall:=by
        unfold selector;rw[VB,hn,show n+2-2=n from rfl,show n+2-1=n+1 from rfl,g0,g1];have e47:s[n]=47:=Zj.1 (by rw[hg.1];rfl);rw[e47];simp[hg,show 1<=n from Z1,C7]
       have HS:Hid _:=U_;obtain⟨hg1,hg2,hg2⟩:=hg;have b2:((s[n].toNat:Int) != 47)=false:=Vo;clear U_ g0 g1 hg1;go_enter func54,ntmps54;go_wp2
       go_loop [4] (λi=>∃k:Nat,k<=n/\i=VI k/\∀j c,j<k->(bl s)[j]?=some c->isSmall c=true) (λi=>n-(intOf i).toNat)
       case atStart=>exact⟨0,VH,rfl,λj c b=>VH⟩
       case round=>
        obtain⟨k,hk,rfl,hall⟩:=hrel;have HA:Hid _:=hall;clear hall;by_cases hlt:k<n
        . have hks:k<s.size:=by omega
          cases hsm:isSmall s[k]
          . go_wp2_with (go_at_call 94;refine(J8 _ _).mono ?_;rintro e w' ⟨rfl,rfl⟩);refine yH ?_;rw[HS.o];symm;rw[Y3];intro h;have:=(Ib _ _ _).1 h k _ hlt (Si s k hks);rw[hsm]at this;cases this
          . go_wp2_with (go_at_call 94;refine(J8 _ _).mono ?_;rintro e w' ⟨rfl,rfl⟩)
            go_round
            case rel=>
             refine⟨k+1,VH,Uu,λj c b hj=>?_⟩;by_cases e:j=k
             . subst e;rw[Si s j hks]at hj;injection hj with hj;rw[<- hj];exact hsm
             . exact HA.o j c VH hj
            case measure=>simp[intOf];omega
        . go_wp2;refine yH ?_;rw[HS.o];symm;exact(Ib _ _ _).2 λj c a hj=>HA.o j c VH hj
     . have HN:=UQ (Tn s (by
        rw[hn,show n+2-2=n from rfl,show n+2-1=n+1 from rfl,g0,g1];intro h
        exact hg ⟨by rw[h.2.2.1];rfl,h.2.2.2.1,h.2.2.2.2⟩))
       clear g0 g1;go_enter func54,ntmps54;go_wp2
       all_goals first|(exfalso;omega)|(go_ret;exact qY)
   . have HN:=UQ (Tn s VH);go_enter func54,ntmps54;go_wp2
     go_ret
     exact qY
 . have HN:=UQ (Tn s VH);go_enter func54,ntmps54;go_wp2
   go_ret
   exact qY
theorem LC (s:ByteArray)(w:World)(hs:s.size<=8)(h1:1<=s.size)(hd:48<=((bl s)[s.size-1]?.getD 0).toNat):
 Calls prog 55 #[.string s] w λe w'=>e=.returned (VI (U6 (bl s):Nat))/\w'=w:=by
 obtain⟨n,hn⟩:∃n,s.size=n+1:=⟨s.size-1,VH⟩
 have g1:=Qw s n VH;rw[hn,show n+1-1=n from rfl,g1]at hd;have g2:(bl s)[s.size-1]?.getD 0=(bl s)[n]?.getD 0:=by rw[hn];rfl
 have hx:U6 (bl s)=s[n].toNat-48:=by unfold U6;rw[VB,g2,g1]
 have HA:Hid _:=hx;have hlt:s[n].toNat<256:=s[n].toNat_lt;clear g1 g2 hx;go_enter func55,ntmps55;go_wp2
 go_ret
 exact⟨Ir (by rw[HA.o];omega),rfl⟩
theorem jG (s t:ByteArray)(w:World)(hs:s.size<=maxLen)(ht:t.size<=maxLen):
 Calls prog 164 #[.string s,.string t] w λe w'=>e=.returned (.bool ((bl t).isPrefixOf (bl s)))/\w'=w:=by
 unfold maxLen at hs ht;by_cases h:t.size<=s.size
 . go_enter func164,ntmps164;go_wp2;refine yH ?_;rw[ZL,ZL,fK s t.size,Yf,YH,Zi];constructor
   . intro e;show t.data.toList <+: bl s;rw[<- e];exact List.take_prefix _ _
   . intro e;have:=List.prefix_iff_eq_take.1 e;rw[VB]at this;exact this.symm
 . go_enter func164,ntmps164;go_wp2;refine yH ?_;symm;rw[Y3];intro e;have:=(Zi.1 e).length_le;rw[VB,VB]at this;omega
theorem jE (s:ByteArray)(m:Nat)(w:World)(hs:s.size<=maxLen)(hm:m<=4):
 Calls prog 157 #[.string s,VI m] w λe w'=>e=.returned (VI (Vk (bl s) m))/\w'=w:=by
 unfold maxLen at hs;by_cases h1:1<=s.size
 . by_cases h2:s.size<=m
   . have t1:decide ((s.size:Int)<1)=false:=by simp;omega
     have t1:decide (m<s.size)=false:=Vo;go_enter func157,ntmps157;go_wp2
     go_loop [5,6] (λn i=>∃k:Nat,k<=s.size/\i=VI k/\n=VI (numOf ((bl s).take k):Nat)/\∀j c,j<k->(bl s)[j]?=some c->U8 c=true) (λ_ i=>s.size-(intOf i).toNat)
     case atStart=>exact⟨0,VH,rfl,rfl,λj c b=>VH⟩
     case round=>
      obtain⟨k,hk,rfl,rfl,hall⟩:=hrel;have HA:Hid _:=hall;have Ka:=IY ((bl s).take k) k (List.length_take_le _ _) ((Ib _ _ _).2 hall);have hb4:numOf ((bl s).take k)<10000:=ZY Ka (Yb (n:=10) VH (show k<=4 by omega));clear hall Ka;by_cases hlt:k<s.size
      . cases hsm:U8 s[k]
        . go_wp2_with (go_at_call 158;refine(Gm _ _).mono ?_;rintro e w' ⟨rfl,rfl⟩)
          go_ret
          refine⟨Ir ?_,rfl⟩;symm;exact uV _ _ k _ (Si s k hlt) hsm
        . have hdd:=Sj.1 hsm;have hlt2:s[k].toNat<256:=s[k].toNat_lt;have HT:=UQ (Dk s k hlt);obtain⟨hd1,hd1⟩:=hdd;go_wp2_with (go_at_call 158;refine(Gm _ _).mono ?_;rintro e w' ⟨rfl,rfl⟩)
          go_round
          case rel=>
           refine⟨k+1,VH,Uu,?_,λj c b hj=>?_⟩
           . rw[HT.o]
             go_num
           . by_cases e:j=k
             . exact aiB
             . exact HA.o j c VH hj
          case measure=>simp[intOf];omega
      . obtain rfl:k=s.size:=by omega
        go_wp2
        go_ret
        refine⟨Ir ?_,rfl⟩;symm;exact bC s m h1 h2 HA.o
   . have HN:Hid (Vk (bl s) m=-1):=jo _ _ G8;go_enter func157,ntmps157;go_wp2
     go_ret
     exact qY
 . have HN:Hid (Vk (bl s) m=-1):=jo _ _ G8;go_enter func157,ntmps157;go_wp2
   go_ret
   exact qY
def Uz (w:World)(b:Nat)(s:ByteArray)(i:Nat):Prop:=w.heap[b]?=some (.cells #[.string s,VI i] 135)
variable {w : World}
theorem Uz.c0 {b:Nat}{s:ByteArray}{i:Nat}(h:Uz w b s i):w.cell? (VJ b 0)=some (.string s):=by
 unfold Uz at h;simp only[World.cell?,h];rfl
theorem Uz.c1 {b:Nat}{s:ByteArray}{i:Nat}(h:Uz w b s i):w.cell? (VJ b 1)=some (VI i):=by
 unfold Uz at h;simp only[World.cell?,h];rfl
theorem Uz.f1 {b:Nat}{s:ByteArray}{i:Nat}(h:Uz w b s i):w.frozen? (VJ b 1)=false:=by
 unfold Uz at h;simp only[World.frozen?,h];simp
theorem Uz.set {b:Nat}{s:ByteArray}{i:Nat}(h:Uz w b s i)(j:Nat):Uz (w.setCell (VJ b 1) (VI j)) b s j:=by
 unfold Uz at h ⊢;exact uX
structure SA (w w':World)(b:Nat)(s:ByteArray)(i:Nat):Prop where
 rd:Uz w' b s i
 grown:w.grownBy w' (some b)
theorem Qb (w:World)(a:Addr)(v:Value):w.grownBy (w.setCell a v) (some a.block):=
 ⟨rfl,rfl,rfl,zb4,λk _ hk=>ZW w a v k (λe=>hk pI)⟩
theorem SA.refl {b:Nat}{s:ByteArray}{i:Nat}(h:Uz w b s i):SA w w b s i:=⟨h,World.grownBy.refl w _⟩
variable {w' : World}
theorem SA.drew {b:Nat}{s:ByteArray}{i:Nat}(h:SA w w' b s i):SA w w'.drew b s i:=⟨h.rd,⟨h.grown.os,h.grown.tape,h.grown.output,h.grown.size,h.grown.block⟩⟩
theorem oJ (w:World):∀n,(w.drewN n).heap=w.heap/\(w.drewN n).os=w.os/\(w.drewN n).tape=w.tape/\(w.drewN n).output=w.output:=by
 intro n;exact⟨rfl,rfl,rfl,rfl⟩
theorem SA.drewN {b:Nat}{s:ByteArray}{i:Nat}(h:SA w w' b s i)(n:Nat):SA w (w'.drewN n) b s i:=by
 obtain⟨e1,e2,e3,e4⟩:=oJ w' n;exact⟨by unfold Uz;rw[e1];exact h.rd,⟨e2.trans h.grown.os,e3.trans h.grown.tape,e4.trans h.grown.output,by rw[e1];exact h.grown.size,λk hk hne=>by rw[e1];exact h.grown.block k hk hne⟩⟩
theorem SA.set {b:Nat}{s:ByteArray}{i:Nat}(h:SA w w' b s i)(j:Nat):SA w (w'.setCell (VJ b 1) (VI j)) b s j:=⟨h.rd.set j,h.grown.trans (Qb w' (VJ b 1) _)⟩
theorem SA.trans {w w' w'':World}{b:Nat}{s:ByteArray}{i j:Nat}(h:SA w w' b s i)(k:SA w' w'' b s j):SA w w'' b s j:=⟨k.rd,h.grown.trans k.grown⟩
def Q9 (l:List UInt8)(i:Nat):Bool:=decide (l.length<=i)||decide (l[i]?=some 32)
theorem Gi (b:Nat)(s:ByteArray)(i:Nat)(w:World)(hs:s.size<=140737488355328)(hi:i<=s.size)(h:Uz w b s i):
 Calls prog 77 #[VG b] w λe w'=>e=.returned (.bool (Q9 (bl s) i))/\SA w w' b s i:=by
 have c0:=h.c0;have c0:=h.c1;have H:=SA.refl h;have HH:Hid _:=H;clear h H;by_cases hlt:i<s.size
 . have t1:((i:Int)==s.size)=false:=by simp;omega
   have hi0:(0:Int)<=i:=VH;have hi0:(i:Int)<s.size:=VH
   have HB:Hid (Q9 (bl s) i=decide (s[i].toNat=32)):=by
    have hx:Q9 (bl s) i=decide (s[i].toNat=32):=by
     unfold Q9;rw[VB,Si s i hlt,Yf];simp only[WU,Zq];constructor
     . rintro(h|h)
       . omega
       . injection h with h;rw[h];rfl
     . intro h;right;exact YV some (Zj.1 (by rw[h];rfl))
    exact hx
   by_cases C':s[i].toNat=32
   . have t1:((s[i].toNat:Int)==32)=true:=by simp;omega
     rw[Xh C']at HB;clear C';go_enter func77,ntmps77;go_wp2
     go_quiet (fail)
     go_wp2
     go_ret
     exact alh
   . have t1:((s[i].toNat:Int)==32)=false:=by simp;omega
     rw[XQ C']at HB;clear C';go_enter func77,ntmps77;go_wp2
     go_quiet (fail)
     go_wp2
     go_ret
     exact alh
 . obtain rfl:i=s.size:=by omega
   have HB:Hid (Q9 (bl s) s.size=true):=by
    have hx:Q9 (bl s) s.size=true:=by unfold Q9;rw[VB];simp
    exact hx
   go_enter func77,ntmps77;go_wp2
   go_quiet (fail)
   go_wp2
   go_ret
   exact alh
theorem TY (b:Nat)(s:ByteArray)(i c:Nat)(w:World)(hs:s.size<=140737488355328)(hlt:i<s.size)(hc:s[i].toNat=c)(h:Uz w b s i):
 Calls prog 75 #[VG b,.int .u8 c] w λe w'=>e=.returned (.bool true)/\SA w w' b s (i+1):=by
 have c0:=h.c0;have c0:=h.c1;have f1:=h.f1;have HH:Hid _:=SA.refl h;have t1:((i:Int)==s.size)=false:=Vo;have hi0:(0:Int)<=i:=VH;have hi0:(i:Int)<s.size:=VH;have t1:((s[i].toNat:Int) != c)=false:=Vo;clear h hc;go_enter func75,ntmps75;go_wp2
 go_quiet (fail)
 go_wp2
 go_ret
 refine⟨rfl,?_⟩;exact(HH.o.drewN _).set (i+1)
theorem TU (b:Nat)(s:ByteArray)(i c:Nat)(w:World)(hs:s.size<=140737488355328)(hi:i<=s.size)(hc:∀hlt:i<s.size,s[i].toNat≠c)(h:Uz w b s i):
 Calls prog 75 #[VG b,.int .u8 c] w λe w'=>e=.returned (.bool false)/\SA w w' b s i:=by
 have c0:=h.c0;have c0:=h.c1;have HH:Hid _:=SA.refl h;by_cases hlt:i<s.size
 . have hcc:=hc hlt;have t1:((i:Int)==s.size)=false:=Vo;have hi0:(0:Int)<=i:=VH;have hi0:(i:Int)<s.size:=VH;have t1:((s[i].toNat:Int) != c)=true:=Vo;clear h hc hcc;go_enter func75,ntmps75;go_wp2
   go_quiet (fail)
   go_wp2
   go_ret
   exact⟨rfl,HH.o.drewN _⟩
 . obtain rfl:i=s.size:=by omega
   clear h hc;go_enter func75,ntmps75;go_wp2
   go_quiet (fail)
   go_wp2
   go_ret
   exact⟨rfl,HH.o.drewN _⟩
def aX (lo hi:Nat)(c:UInt8):Bool:=decide (lo<=c.toNat)&&decide (c.toNat<=hi)
def abB (l:List UInt8)(lo hi m i j:Nat):Prop:=i<=j/\j<=l.length/\j-i<=m/\∀k c,i<=k->k<j->l[k]?=some c->aX lo hi c=true
theorem MX {l:List UInt8}{lo hi m i j:Nat}(h:abB l lo hi m i j)(he:j=l.length\/j-i=m\/∃c,l[j]?=some c/\aX lo hi c=false):Vj (aX lo hi) m (l.drop i)=(l.take j).drop i/\j=i+(Vj (aX lo hi) m (l.drop i)).length:=by
 obtain⟨h1,h1,h1,h4⟩:=h
 have e:l.drop i=(l.take j).drop i++l.drop j:=by
  have e1:=(Yw j l).symm;have e2:(l.take j).length=j:=aed;have e2:(l.take j++l.drop j).drop i=(l.take j).drop i++l.drop j:=Yp VH;rw[<- e2,<- e1]
 have hlen:((l.take j).drop i).length=j-i:=by rw[Zh,Za];omega
 have hs:Vj (aX lo hi) m (l.drop i)=(l.take j).drop i:=by
  rw[e];refine Ql _ m _ _ (λc hc=>?_) (by rw[hlen];exact h1) ?_
  . obtain⟨k,hk⟩:=YG.1 hc;rw[Zn]at hk
    have hjk:i+k<j:=by
     by_cases hx:i+k<j
     . exact hx
     . rw[Yj VH]at hk;cases hk
    rw[Zl hjk]at hk;exact h4 (i+k) c VH hjk hk
  . rcases he with he|he|⟨c,hc,hp⟩
    . right;intro c hc;rw[Zn,Yt,he,Y8 UM]at hc;cases hc
    . left;rw[hlen];exact he
    . right;intro c' hc';rw[Zn,Yt,hc]at hc';injection hc' with hc';rw[<- hc'];exact hp
 exact⟨hs,by rw[hs,hlen];omega⟩
theorem aex (b:Nat)(s:ByteArray)(i lo hi m:Nat)(w:World)(hs:s.size<=140737488355328)(hi':i<=s.size)(hm:m<=6)(h:Uz w b s i):
 Calls prog 106 #[VG b,.int .u8 lo,.int .u8 hi,VI m] w λe w'=>
  e=.returned (.string (VF (Vj (aX lo hi) m ((bl s).drop i))))/\SA w w' b s (i+(Vj (aX lo hi) m ((bl s).drop i)).length):=by
 have c1:=h.c1;have HH:Hid _:=SA.refl h;clear h;go_enter func106,ntmps106;go_wp2
 go_loopg [] (s.size-i) (λgk wr=>∃j:Nat,SA w wr b s j/\abB (bl s) lo hi m i j/\gk=s.size-j)
 case atStart=>exact⟨i,HH.o,⟨ZN _,by rw[VB];exact hi',VH,λk c a b=>VH⟩,rfl⟩
 case round=>
  obtain⟨j,X_,hsp,rfl⟩:=hrel;have HT:Hid _:=X_;have HS:=UQ hsp;have hij:=hsp.1;have hjl:j<=s.size:=by have:=hsp.2.1;rw[VB]at this;exact this
  have hjm:=hsp.2.2.1
  obtain⟨d,rfl⟩:∃d,j=i+d:=⟨j-i,VH⟩
  have hdm:d<=m:=VH;have d0:=X_.rd.c0;have d0:=X_.rd.c1;have f1:=X_.rd.f1;clear X_ hsp hij hjm c1 HH;have hq1:(0:Int)<=(i:Int):=VH;have hq1:(i:Int)<=(i:Int)+d:=VH;have hq1:(i:Int)+d<=s.size:=VH;have hwr:IntKind.i64.wrap ((i:Int)+d-i)=d:=Ar;by_cases hlt:i+d<s.size
  . have hj0:(0:Int)<=(i:Int)+d:=by omega
    have hj0:(i:Int)+d<s.size:=VH;have eC:=Si s (i+d) hlt;have HG:Hid _:=eC;clear eC;by_cases hd:d<m
    . have hdi:(d:Int)<m:=by omega
      by_cases hlo:lo<=s[i+d].toNat
      . have ap8:(lo:Int)<=s[i+d].toNat:=by omega
        by_cases hhi:s[i+d].toNat<=hi
        . have aqm:(s[i+d].toNat:Int)<=hi:=by omega
          go_wp2
          go_quiet (fail)
          go_wp2
          go_roundg (s.size-(i+d+1))
          case measure=>omega
          case rel=>
           refine⟨i+d+1,(HT.o.drewN _).set (i+d+1),⟨VH,G8,VH,λk c h1 h2 hk=>?_⟩,rfl⟩;by_cases e:k=i+d
           . subst e;rw[HG.o]at hk;injection hk with hk;rw[<- hk];simp[aX,hlo,hhi]
           . exact HS.o.2.2.2 k c h1 VH hk
        . have hx2:decide (s[i+d].toNat<=hi)=false:=by simp;omega
          have HE:=UQ (MX HS.o (.inr (.inr ⟨_,HG.o,by simp[aX,hhi]⟩)));go_wp2
          go_quiet (fail)
          go_wp2
          go_quiet (fail)
          go_wp2
          go_ret
          exact ae6
      . have hx2:decide (lo<=s[i+d].toNat)=false:=by simp;omega
        have HE:=UQ (MX HS.o (.inr (.inr ⟨_,HG.o,by simp[aX,hlo]⟩)));go_wp2
        go_quiet (fail)
        go_wp2
        go_quiet (fail)
        go_wp2
        go_ret
        exact ae6
    . obtain rfl:d=m:=by omega
      have HE:=UQ (MX HS.o (.inr (.inl VH)));go_wp2
      go_quiet (fail)
      go_wp2
      go_quiet (fail)
      go_wp2
      go_ret
      exact ae6
  . have he:i+d=s.size:=by omega
    have HE:=UQ (MX HS.o (.inl (by rw[VB];exact he)));have hx2:decide ((i:Int)+d<s.size)=false:=Vo;clear he;go_wp2
    go_quiet (fail)
    go_wp2
    go_quiet (fail)
    go_wp2
    go_ret
    exact ae6
theorem Qd (b:Nat)(s:ByteArray)(i lo hi m:Nat)(p:UInt8->Bool)(sp:List UInt8)(w:World)(hs:s.size<=140737488355328)(hi':i<=s.size)(hm:m<=6)(h:Uz w b s i)(hp:aX lo hi=p)(hsp:Vj p m ((bl s).drop i)=sp):
 Calls prog 106 #[VG b,.int .u8 lo,.int .u8 hi,VI m] w λe w'=>e=.returned (.string (VF sp))/\SA w w' b s (i+sp.length):=by
 rw[<- hsp,<- hp];exact aex b s i lo hi m w hs hi' hm h
theorem RG {l:List UInt8}(h:l≠[]):l.isEmpty=false:=by
 cases l with
 | nil=>exact absurd rfl h
 | cons c t=>rfl
theorem Rl (s:ByteArray)(p:UInt8->Bool)(m i:Nat):(Vj p m ((bl s).drop i)).length<=s.size-i:=by
 obtain⟨t,ht⟩:=QE p m ((bl s).drop i);have:=YV List.length ht;rw[Zh,VB,Zw]at this;omega
theorem TI (b:Nat)(s:ByteArray)(i:Nat)(w:World)(hs:s.size<=140737488355328)(hi:i<=s.size)(h:Uz w b s i):
 Calls prog 73 #[VG b] w λe w'=>e=.returned (.string (VF (Ve ((bl s).drop i))))/\SA w w' b s (i+(Ve ((bl s).drop i)).length):=by
 have c1:=h.c1;have HH:=UQ h;clear h;obtain⟨sp,hsp⟩:∃sp,Vj Rf 1 ((bl s).drop i)=sp:=Vx;have hle:=Rl s Rf 1 i;rw[hsp]at hle;have HS:Hid _:=hsp
 by_cases hne:sp=[]
 . subst hne
   have HK:Hid (Ve ((bl s).drop i)=[]):=by
    have hx:Ve ((bl s).drop i)=[]:=by unfold Ve;rw[ZU hsp]
    exact hx
   clear hsp hle;go_enter func73,ntmps73;go_wp2_with fail;refine(Qd b s i 65 90 1 Rf [] _ hs hi VH HH.o rfl HS.o).mono ?_;rintro e w1 ⟨rfl,X_⟩;have HT:Hid _:=X_;clear X_;go_wp2
   go_ret
   exact⟨zn,by rw[HK.o];exact HT.o⟩
 . have h1:sp.length=1:=by
    have h2:=Q5 Rf 1 ((bl s).drop i);rw[hsp]at h2
    cases sp with
    | nil=>exact absurd rfl hne
    | cons c t=>simp at h2 ⊢;exact h2
   obtain⟨sq,I2⟩:∃sq,Vj isSmall 5 ((bl s).drop (i+1))=sq:=Vx;have sM:=Rl s isSmall 5 (i+1);rw[I2]at sM
   have HQ:Hid (Vj isSmall 5 ((bl s).drop (i+sp.length))=sq):=by
    have hx:Vj isSmall 5 ((bl s).drop (i+sp.length))=sq:=by rw[h1];exact I2
    exact hx
   have HK:Hid (Ve ((bl s).drop i)=sp++sq/\VF (sp++sq)=s.extract i (i+sp.length+sq.length)):=by
    have hx:Ve ((bl s).drop i)=sp++sq:=by unfold Ve;rw[hsp,ZX hne,VQ,I2]
    have hy:VF (sp++sq)=s.extract i (i+sp.length+sq.length):=by
     have hkn:Ve ((bl s).drop i)≠[]:=by rw[hx];intro e;exact hne (List.append_eq_nil_iff.1 e).1
     obtain⟨_,v,hv⟩:=QD hkn;rw[hx]at hv;rw[Gj];congr 1;rw[WH,hv,show i+sp.length+sq.length-i=(sp++sq).length from Vo,Xq rfl]
    exact⟨hx,hy⟩
   have pP:=RG hne;have hb1:i+sp.length<=s.size:=VH;have hb1:i+sp.length+sq.length<=s.size:=VH;clear hsp I2 hne h1 hle sM;go_enter func73,ntmps73;go_wp2_with fail;refine(Qd b s i 65 90 1 Rf sp _ hs hi VH HH.o rfl HS.o).mono ?_;rintro e w1 ⟨rfl,X_⟩;have HT:Hid _:=X_;clear X_ c1;go_wp2_with fail;refine(Qd b s (i+sp.length) 97 122 5 isSmall sq _ hs VH VH HT.o.rd rfl HQ.o).mono ?_;rintro e w1 ⟨rfl,X_⟩;have d0:=X_.rd.c0;have d0:=X_.rd.c1;have OS:Hid _:=HT.o.trans X_;clear X_;have hq1:(0:Int)<=(i:Int):=VH;have hq1:(i:Int)<=(i:Int)+sp.length+sq.length:=VH;have hq1:(i:Int)+sp.length+sq.length<=s.size:=VH;go_wp2
   go_quiet (fail)
   go_wp2
   go_ret
   refine⟨?_,?_⟩
   . rw[HK.o.1,HK.o.2];rfl
   . rw[HK.o.1,Zw,<- Wn];exact OS.o.drewN _
theorem lZ (l:List UInt8)(a:List UInt8)(ha:Vj isSmall 6 l=a)(hne:a≠[])(h47:l[a.length]?=some 47)(d:List UInt8)(hd:Vj OC 1 (l.drop (a.length+1))=d)(ZS:d≠[]):TW l=a++47::d:=by
 unfold TW;rw[ha,ZX hne,ZU h47,hd,ZX ZS]
theorem nN (l:List UInt8)(ha:Vj isSmall 6 l=[]):TW l=[]:=by unfold TW;rw[ZU ha]
theorem oW (l:List UInt8)(a:List UInt8)(ha:Vj isSmall 6 l=a)(h47:l[a.length]?≠some 47):TW l=[]:=by
 unfold TW;rw[ha];split
 . rfl
 . first|rfl|rw[ZX h47]
theorem lU (l:List UInt8)(a:List UInt8)(ha:Vj isSmall 6 l=a)(hd:Vj OC 1 (l.drop (a.length+1))=[]):TW l=[]:=by
 unfold TW;rw[ha];split
 . rfl
 . split
   . first|rfl|rw[ZU hd]
   . rfl
theorem PS (b:Nat)(s:ByteArray)(i:Nat)(w:World)(hs:s.size<=140737488355328)(hi:i<=s.size)(h:Uz w b s i):
 Calls prog 68 #[VG b] w λe w'=>e=.returned (.string (VF (TW ((bl s).drop i))))/\
  ∃j,j<=s.size/\SA w w' b s j/\(TW ((bl s).drop i)≠[]->j=i+(TW ((bl s).drop i)).length):=by
 have c1:=h.c1;have HH:=UQ h;clear h;obtain⟨a,hsp⟩:∃a,Vj isSmall 6 ((bl s).drop i)=a:=Vx;have hle:=Rl s isSmall 6 i;rw[hsp]at hle;have HS:Hid _:=hsp;clear hsp
 by_cases hne:a=[]
 . subst hne;have HK:=UQ (nN _ HS.o);go_enter func68,ntmps68;go_wp2_with fail;refine(Qd b s i 97 122 6 isSmall [] _ hs hi VH HH.o rfl HS.o).mono ?_;rintro e w1 ⟨rfl,X_⟩;have HT:Hid _:=X_;clear X_;go_wp2
   go_ret
   exact⟨zn,i,hi,HT.o,λhx=>absurd HK.o hx⟩
 . have pP:=RG hne;have hget:((bl s).drop i)[a.length]?=(bl s)[i+a.length]?:=by rw[Zn]
   have hdrop:((bl s).drop i).drop (a.length+1)=(bl s).drop (i+a.length+1):=by rw[VQ];congr 1
   have HG:Hid _:=hget;have HD:Hid _:=hdrop;have HN:Hid (a≠[]):=hne;clear hget hdrop hne;by_cases h47:∃hlt:i+a.length<s.size,s[i+a.length].toNat=47
   . obtain⟨hlt,h47⟩:=h47;have hG:Hid _:=h47
     have oj:Hid (((bl s).drop i)[a.length]?=some 47):=by
      have hx:((bl s).drop i)[a.length]?=some 47:=by rw[HG.o,Si s _ hlt];exact YV some (Zj.1 (by rw[h47];rfl))
      exact hx
     obtain⟨d,hd⟩:∃d,Vj OC 1 ((bl s).drop (i+a.length+1))=d:=Vx;have jj:=Rl s OC 1 (i+a.length+1);rw[hd]at jj;have qt:Hid _:=hd;clear h47 hd
     by_cases ZS:d=[]
     . subst ZS;have HK:=UQ (lU _ a HS.o (by rw[HD.o];exact qt.o));go_enter func68,ntmps68;go_wp2_with fail;refine adw ?_;intro w1 X_ HT;clear X_ c1;go_wp2_with fail;refine ag4 ?_;intro w2 OS;go_wp2_with fail;refine(Qd b s (i+a.length+1) 48 51 1 OC [] _ hs VH VH OS.o.rd rfl qt.o).mono ?_;rintro e w3 ⟨rfl,X_⟩;have ko:Hid _:=OS.o.trans X_;clear X_;go_wp2
       go_ret
       exact⟨zn,_,Vo,ko.o,λhx=>absurd HK.o hx⟩
     . have tdn:=RG ZS;have HK:=UQ (lZ _ a HS.o HN.o oj.o d (by rw[HD.o];exact qt.o) ZS)
       have HE:Hid (VF (a++47::d)=s.extract i (i+a.length+1+d.length)):=by
        have hx:VF (a++47::d)=s.extract i (i+a.length+1+d.length):=by
         obtain⟨_,v,hv⟩:=Qe (r:=(bl s).drop i) (by rw[HK.o];simp);rw[HK.o]at hv;rw[Gj];congr 1;rw[WH,hv,show i+a.length+1+d.length-i=(a++47::d).length from Vo,Xq rfl]
        exact hx
       clear ZS;go_enter func68,ntmps68;go_wp2_with fail;refine adw ?_;intro w1 X_ HT;clear X_ c1;go_wp2_with fail;refine ag4 ?_;intro w2 OS;go_wp2_with fail;refine(Qd b s (i+a.length+1) 48 51 1 OC d _ hs VH VH OS.o.rd rfl qt.o).mono ?_;rintro e w3 ⟨rfl,X_⟩;have d0:=X_.rd.c0;have d0:=X_.rd.c1;have ko:Hid _:=OS.o.trans X_;clear X_;have hq1:(0:Int)<=(i:Int):=VH;have hq1:(i:Int)<=(i:Int)+a.length+1+d.length:=VH;have hq1:(i:Int)+a.length+1+d.length<=s.size:=VH;go_wp2
       go_quiet (fail)
       go_wp2
       go_ret
       refine⟨?_,i+a.length+1+d.length,VH,ko.o.drewN _,λ_=>?_⟩
       . rw[HK.o,HE.o];rfl
       . rw[HK.o];simp;omega
   . have HK:=UQ (oW _ a HS.o (by
      rw[HG.o];intro e;have hlt:=(Z7.1 e).1;rw[VB]at hlt;rw[Si s _ hlt]at e;injection e with e
      exact h47 ⟨hlt,Sv⟩))
     have hG:Hid (∀hlt:i+a.length<s.size,s[i+a.length].toNat≠47):=by
      have hx:∀hlt:i+a.length<s.size,s[i+a.length].toNat≠47:=λhlt e=>h47 ⟨hlt,e⟩;exact hx
     clear h47;go_enter func68,ntmps68;go_wp2_with fail;refine adw ?_;intro w1 X_ HT;clear X_ c1;go_wp2_with fail;refine(TU b s (i+a.length) 47 _ hs VH hG.o HT.o.rd).mono ?_;rintro e w2 ⟨rfl,X_⟩;have OS:Hid _:=HT.o.trans X_;clear X_;go_wp2
     go_ret
     exact⟨zn,_,VH,OS.o,λhx=>absurd HK.o hx⟩
theorem lI (w:World)(s:ByteArray)(c:Nat)(e:TypeId)(m:Nat×Nat)(k:Nat)(h:k<s.size):(w.alloc (.cells (bytesRow s c) e m)).cell? (VJ w.heap.size k)=some (.int .u8 (s[k].toNat:Int)):=by
 have hb:(w.alloc (.cells (bytesRow s c) e m)).heap[w.heap.size]?=some (.cells (bytesRow s c) e m):=(Z4 w _).1;refine Iq ?_;exact bytesRow_at s c k h
theorem FZ (s:ByteArray)(w:World)(hs:s.size<=4)(hd:∀c∈bl s,U8 c=true):
 Calls prog 79 #[.string s] w λe w'=>e=.returned (VI (numOf (bl s):Nat))/\Below w.heap.size w w':=by
 have hcv:=λ(w:World) (s:ByteArray)=>run_bytes_of_string (P:=prog) w 9 200 5 s underlying9 underlying200 underlying5;have hcell:=λ(k:Nat) (h:k<s.size)=>lI w s (grownCap w s.size 0 5) 5 ((bytesRow s (grownCap w s.size 0 5)).size,(bytesRow s (grownCap w s.size 0 5)).size+1) k h;have HC:Hid _:=hcell;have HD:Hid _:=hd;clear hcell hd;go_enter func79,ntmps79;go_wp2
 go_loop [3,9] (λn i=>∃k:Nat,k<=s.size/\i=VI k/\n=VI (numOf ((bl s).take k):Nat)) (λ_ i=>s.size-(intOf i).toNat)
 case atStart=>exact⟨0,VH,rfl,rfl⟩
 case round=>
  obtain⟨k,hk,rfl,rfl⟩:=hrel;have Ka:=IY ((bl s).take k) k (List.length_take_le _ _) (Y9.2 (λc hc=>HD.o c (List.mem_of_mem_take hc)));have hb4:numOf ((bl s).take k)<10000:=ZY Ka (Yb (n:=10) VH (show k<=4 by omega));clear Ka;by_cases hlt:k<s.size
  . have hdd:=Sj.1 (HD.o s[k] (ZK (Si s k hlt)));obtain⟨hd1,hd1⟩:=hdd;have hc:=HC.o k hlt;have HT:=UQ (Dk s k hlt);go_wp2
    go_round
    case rel=>
     refine⟨k+1,VH,Uu,?_⟩;rw[HT.o]
     go_num
    case measure=>simp[intOf];omega
  . obtain rfl:k=s.size:=by omega
    have HE:Hid ((bl s).take s.size=bl s):=by
     have hx:=XU G8;exact hx
    go_wp2
    go_ret
    exact⟨Ir (by rw[HE.o]),((ZR _ _).drew).alloc UM _⟩
theorem PE (s:ByteArray)(w:World)(h:selector (bl s)=true):
 Calls prog 42 #[.string s] w λe w'=>e=.returned (VI (U6 (bl s):Nat))/\Below w.heap.size w w':=by
 obtain⟨a,d,hl,h1,h1,ha,hd⟩:=Tf h;have hsz:s.size=a.length+2:=by rw[<- VB,hl];simp
 have hn:s.size=a.length+1+1:=VH
 have hx:bl (s.extract (a.length+1) (a.length+1+1))=[d]:=by
  rw[<- hn,N9,NV,hl,YM,Zk VH,show a.length+1-a.length=1 from VH];rfl
 have Hs:U8 d=true:=by simp[OC]at hd;simp[U8];omega
 have HV:Hid (U6 (bl s)=Kn.numOf (bl (s.extract (a.length+1) (a.length+1+1)))):=by
  have hy:U6 (bl s)=Kn.numOf (bl (s.extract (a.length+1) (a.length+1+1))):=by
   rw[hx];unfold U6;rw[hl];have e:(a++[47,d]).length-1=a.length+1:=Vy;rw[e,ZP VH,show a.length+1-a.length=1 from VH];simp[Kn.numOf]
  exact hy
 have HD:Hid (∀c∈bl (s.extract (a.length+1) (a.length+1+1)),U8 c=true):=by
  have hy:∀c∈bl (s.extract (a.length+1) (a.length+1+1)),U8 c=true:=by rw[hx];simpa using Hs
  exact hy
 have HZ:Hid ((s.extract (a.length+1) (a.length+1+1)).size<=4):=by
  have hy:(s.extract (a.length+1) (a.length+1+1)).size<=4:=by
   rw[<- VB,hx];simp
  exact hy
 clear hx hl hsz hd Hs ha h;go_enter func42,ntmps42;go_wp2_with fail;refine(FZ _ _ HZ.o HD.o).mono ?_;rintro e w1 ⟨rfl,hb⟩;go_wp2
 go_ret
 exact⟨Ir (by rw[HV.o]),hb⟩
theorem qw (l:List UInt8):(!(Ve l).isEmpty&&decide ((Ve l).length=l.length))=className l:=by
 rw[Yf];simp only[ZB,Zq,Bool.not_eq_true'];constructor
 . rintro⟨h1,h2⟩;have hne:Ve l≠[]:=λe=>afp;obtain⟨hc,v,hv⟩:=QD hne;exact ao4
 . intro h;have:=PN (v:=[]) h (λc hc=>by simp at hc);rw[XR]at this;rw[this];exact⟨RG (Ol h),rfl⟩
theorem lH (l:List UInt8):(!(TW l).isEmpty&&decide ((TW l).length=l.length))=selector l:=by
 rw[Yf];simp only[ZB,Zq,Bool.not_eq_true'];constructor
 . rintro⟨h1,h2⟩;have hne:TW l≠[]:=λe=>afp;obtain⟨hc,v,hv⟩:=Qe hne;exact ao4
 . intro h;have:=Iy (v:=[]) h;rw[XR]at this;rw[this];exact⟨RG (CJ h),rfl⟩
theorem GK (w:World)(s:ByteArray):Uz (w.alloc (.cells #[.string s,VI 0] 135)) w.heap.size s 0:=(Z4 w _).1
theorem zX {s:ByteArray}{i:Nat}{o:Obj}(h:SA (w.alloc o) w' w.heap.size s i):Below w.heap.size w w':=
 ((ZR _ _).alloc UM o).grown h.grown Vy akJ
theorem L6 (s:ByteArray)(w:World)(hs:s.size<=140737488355328):
 Calls prog 37 #[.string s] w λe w'=>e=.returned (.bool (className (bl s)))/\Below w.heap.size w w':=by
 have HW:=UQ (qw (bl s));go_enter func37,ntmps37;go_wp2_with fail;refine(TI w.heap.size s 0 _ hs VH (GK w s)).mono ?_;rintro e w1 ⟨rfl,X_⟩;rw[X5,YU]at X_;rw[X5];have d1:=X_.rd.c1;have HB:=UQ (zX X_);clear X_;generalize Ve (bl s)=nm at *;cases E_:nm.isEmpty
 . by_cases hl:nm.length=s.size
   . have HR:Hid (className (bl s)=true):=by
      exact aii
     go_wp2
     go_ret
     exact aar
   . have tl:((nm.length:Int)==s.size)=false:=by simp;omega
     have HR:Hid (className (bl s)=false):=by
      exact ahT
     go_wp2
     go_ret
     exact aar
 . have HR:Hid (className (bl s)=false):=by
    have hx:=HW.o;rw[E_]at hx;exact hx.symm
   go_wp2
   go_ret
   exact aar
theorem Qn (s:ByteArray)(w:World)(hs:s.size<=140737488355328):
 Calls prog 34 #[.string s] w λe w'=>e=.returned (.bool (selector (bl s)))/\Below w.heap.size w w':=by
 have HW:=UQ (lH (bl s));go_enter func34,ntmps34;go_wp2_with fail;refine(PS w.heap.size s 0 _ hs VH (GK w s)).mono ?_;rintro e w1 ⟨rfl,j,hj,X_,hjl⟩;rw[X5,YU]at hjl;rw[X5];have d1:=X_.rd.c1;have HB:=UQ (zX X_);clear X_;generalize TW (bl s)=nm at *;cases E_:nm.isEmpty
 . have hjn:=hjl (λe=>by rw[e]at E_;cases E_);subst hjn;clear hjl;by_cases hl:nm.length=s.size
   . have HR:Hid (selector (bl s)=true):=by
      exact aii
     go_wp2
     go_ret
     exact aar
   . have tl:((nm.length:Int)==s.size)=false:=by simp;omega
     have HR:Hid (selector (bl s)=false):=by
      exact ahT
     go_wp2
     go_ret
     exact aar
 . have HR:Hid (selector (bl s)=false):=by
    have hx:=HW.o;rw[E_]at hx;exact hx.symm
   clear hjl;go_wp2
   go_ret
   exact aar
theorem ba_eq {s:ByteArray}{l:List UInt8}(h:bl s=l):s=VF l:=by rw[<- h]
theorem Jv {s:ByteArray}{l:List UInt8}(h:¬bl s=l):(s.toList==l)=false:=by
 rw[ZL];exact ZF.2 h
theorem yP (s:ByteArray)(w:World)(hs:s.size<=maxLen):
 Calls prog 155 #[.string s] w λe w'=>e=.returned (.tuple #[Tm ((Va (bl s)).getD w0) 0,.bool (Va (bl s)).isSome])/\Below w.heap.size w w':=by
 unfold maxLen at hs
 by_cases h0:bl s=[115,101,108,102]
 . obtain rfl:=ba_eq h0;clear hs h0;go_enter func155,ntmps155;go_wp2;exact ZQ (v:=.tuple #[.agg #[.int .u8 109,VI 0,.string ⟨#[]⟩,.string ⟨#[]⟩,.string ⟨#[]⟩,VI 0],.bool true]) JK rfl JH
 by_cases h1:bl s=[112,111,112]
 . obtain rfl:=ba_eq h1;clear hs h0 h1;go_enter func155,ntmps155;go_wp2;exact ZQ (v:=.tuple #[.agg #[.int .u8 111,VI 0,.string ⟨#[]⟩,.string ⟨#[]⟩,.string ⟨#[]⟩,VI 0],.bool true]) JK rfl JH
 by_cases h2:bl s=[100,117,112]
 . obtain rfl:=ba_eq h2;clear hs h0 h1 h2;go_enter func155,ntmps155;go_wp2;exact ZQ (v:=.tuple #[.agg #[.int .u8 100,VI 0,.string ⟨#[]⟩,.string ⟨#[]⟩,.string ⟨#[]⟩,VI 0],.bool true]) JK rfl JH
 by_cases h3:bl s=[114,101,116]
 . obtain rfl:=ba_eq h3;clear hs h0 h1 h2 h3;go_enter func155,ntmps155;go_wp2;exact ZQ (v:=.tuple #[.agg #[.int .u8 114,VI 0,.string ⟨#[]⟩,.string ⟨#[]⟩,.string ⟨#[]⟩,VI 0],.bool true]) JK rfl JH
 by_cases h4:bl s=[43]
 . obtain rfl:=ba_eq h4;clear hs h0 h1 h2 h3 h4;go_enter func155,ntmps155;go_wp2;exact ZQ (v:=.tuple #[.agg #[.int .u8 43,VI 0,.string ⟨#[]⟩,.string ⟨#[]⟩,.string ⟨#[]⟩,VI 0],.bool true]) JK rfl JH
 by_cases h5:bl s=[45]
 . obtain rfl:=ba_eq h5;clear hs h0 h1 h2 h3 h4 h5;go_enter func155,ntmps155;go_wp2;exact ZQ (v:=.tuple #[.agg #[.int .u8 45,VI 0,.string ⟨#[]⟩,.string ⟨#[]⟩,.string ⟨#[]⟩,VI 0],.bool true]) JK rfl JH
 by_cases h6:bl s=[42]
 . obtain rfl:=ba_eq h6;clear hs h0 h1 h2 h3 h4 h5 h6;go_enter func155,ntmps155;go_wp2;exact ZQ (v:=.tuple #[.agg #[.int .u8 42,VI 0,.string ⟨#[]⟩,.string ⟨#[]⟩,.string ⟨#[]⟩,VI 0],.bool true]) JK rfl JH
 by_cases h7:bl s=[60]
 . obtain rfl:=ba_eq h7;clear hs h0 h1 h2 h3 h4 h5 h6 h7;go_enter func155,ntmps155;go_wp2;exact ZQ (v:=.tuple #[.agg #[.int .u8 60,VI 0,.string ⟨#[]⟩,.string ⟨#[]⟩,.string ⟨#[]⟩,VI 0],.bool true]) JK rfl JH
 by_cases h8:bl s=[61]
 . obtain rfl:=ba_eq h8;clear hs h0 h1 h2 h3 h4 h5 h6 h7 h8;go_enter func155,ntmps155;go_wp2;exact ZQ (v:=.tuple #[.agg #[.int .u8 61,VI 0,.string ⟨#[]⟩,.string ⟨#[]⟩,.string ⟨#[]⟩,VI 0],.bool true]) JK rfl JH
 have HN:Hid (Va (bl s)=none):=by
  have hx:Va (bl s)=none:=by unfold Va;rw[ZX h0,ZX h1,ZX h2,ZX h3,ZX h4,ZX h5,ZX h6,ZX h7,ZX h8]
  exact hx
 have g0:=Jv h0;have g0:=Jv h1;have g0:=Jv h2;have g0:=Jv h3;have g0:=Jv h4;have g0:=Jv h5;have g0:=Jv h6;have g0:=Jv h7;have g0:=Jv h8;clear h0 h1 h2 h3 h4 h5 h6 h7 h8;go_enter func155,ntmps155;go_wp2;rw[HN.o];exact ZQ (v:=.tuple #[.agg #[.int .u8 0,VI 0,.string ⟨#[]⟩,.string ⟨#[]⟩,.string ⟨#[]⟩,VI 0],.bool false]) JK rfl JH
theorem aeM:(prog.info? 9).map (λi=>(i.zero,i.size,i.bytes))=some (some (.string ⟨#[]⟩),1,16):=VE
theorem aaE (s:ByteArray)(w:World)(hs:s.size<=120):
 Calls prog 165 #[.string s] w λe w'=>∃(v:Value) (ys:List ByteArray),e=.returned v/\w'.ownsRow w.heap.size 9 1 v ys.length (ys.map Value.string)/\Vw (bl s)=ys.map bl/\ys.length<=121/\Below w.heap.size w w':=by
 obtain⟨i0,hi,hz0,hz1,hz2⟩:=YQ aeM;go_enter func165,ntmps165;go_wp2
 go_loopw [3,4,5] (λv f i wr=>∃(a k:Nat) (ys:List ByteArray),f=VI a/\i=VI k/\a<=121/\k<=s.size+1/\PX (bl s) a k ys/\wr.ownsRow w.heap.size 9 1 v ys.length (ys.map Value.string)/\Below w.heap.size w wr)
  (λ_ _ i _=>s.size+1-(intOf i).toNat)
 case atStart=>exact⟨0,0,[],rfl,rfl,VH,VH,Aj _,YW _ _ _ _,ZR _ _⟩
 case round=>
  obtain⟨a,k,ys,rfl,rfl,ha,hk,hsp,hown,hb⟩:=hrel;have HS:=UQ hsp;have Fs:=hsp.1;have I0:=kY hsp;clear hsp;by_cases Id:k<=s.size
  . have I0:=I0 Id;by_cases hlast:k=s.size
    . subst hlast
      go_wp2_with (first
       | (at_builtin;refine Wx _ rfl _ _ 39 rfl w.heap.size 9 i0 (.string ⟨#[]⟩) 1 16 underlying39 hi hz0 hz1 hz2 rfl Vz _ _ _ rfl (hown.alloc _) (VJ wr.heap.size 0) 1 1 [.string (s.extract a s.size)] rfl rfl (Us _ _ _) (by intro u hu;simp at hu;subst hu;rfl) SE VH aky ?_)
       | go_in)
      intro v1 w1 hown1 hg1 _;have hb1:=Tc hb UM hown hg1;have hown2:w1.ownsRow w.heap.size 9 1 v1 (ys++[s.extract a s.size]).length ((ys++[s.extract a s.size]).map Value.string):=by simpa using hown1
      clear hown1 hown hg1 hb;go_wp2
      go_roundw
      case rel=>exact⟨s.size+1,s.size+1,ys++[s.extract a s.size],Uu,Uu,VH,VH,wP HS.o,hown2,hb1⟩
      case measure=>simp[intOf]<;>omega
    . have hlt:k<s.size:=by omega
      have tl:((k:Int)==s.size)=false:=Vo;by_cases zm:s[k].toNat=46
      . have td:((s[k].toNat:Int)==46)=true:=by simp;omega
        have hc:s[k]=46:=Zj.1 (by rw[zm];rfl);have HC:Hid _:=hc;clear zm hc
        go_wp2_with (first
         | (at_builtin;refine Wx _ rfl _ _ 39 rfl w.heap.size 9 i0 (.string ⟨#[]⟩) 1 16 underlying39 hi hz0 hz1 hz2 rfl Vz _ _ _ rfl (hown.alloc _) (VJ wr.heap.size 0) 1 1 [.string (s.extract a k)] rfl rfl (Us _ _ _) (by intro u hu;simp at hu;subst hu;rfl) SE VH aky ?_)
         | go_in)
        intro v1 w1 hown1 hg1 _;have hb1:=Tc hb UM hown hg1;have hown2:w1.ownsRow w.heap.size 9 1 v1 (ys++[s.extract a k]).length ((ys++[s.extract a k]).map Value.string):=by simpa using hown1
        clear hown1 hown hg1 hb;go_wp2
        go_roundw
        case rel=>exact⟨k+1,k+1,ys++[s.extract a k],Uu,Uu,VH,VH,uO HS.o hlt HC.o,hown2,hb1⟩
        case measure=>simp[intOf]<;>omega
      . have td:((s[k].toNat:Int)==46)=false:=by simp;omega
        go_wp2
        go_roundw
        case rel=>exact⟨a,k+1,ys,rfl,Uu,VH,VH,vK HS.o hlt (λh=>zm (by rw[h];rfl)),hown,hb⟩
        case measure=>simp[intOf]<;>omega
  . go_wp2
    go_ret
    exact⟨_,ys,rfl,hown,wo HS.o Id,VH,hb⟩
theorem Tt (s:ByteArray)(l:List UInt8)(b:Bool)(w:World)(hs:s.size<=120)(hl:l.length<=120)(h:List.isPrefixOf l (bl s)=b):
 Calls prog 164 #[.string s,.string ⟨l.toArray⟩] w λe w'=>e=.returned (.bool b)/\w'=w:=by
 rw[<- h];exact jG s ⟨l.toArray⟩ w SE (by unfold maxLen;show l.length<=_;omega)
def Named (s:ByteArray)(e:Ending):Prop:=∃x:W,e=.returned (.tuple #[Tm x 0,.bool (Vs (bl s)).isSome])/\∀y,Vs (bl s)=some y->x=y
theorem QX {s:ByteArray}{e:Ending}(x:W)(b:Bool)(h:Vs (bl s)=if b=true then some x else none)(he:e=.returned (.tuple #[Tm x 0,.bool b])):Named s e:=by
 exact ao9
theorem aaB (s:ByteArray)(w:World)(hs:s.size<=120)(h:List.isPrefixOf [110,101,119,58] (bl s)=true):
 Calls prog 156 #[.string s] w λe w'=>Named s e/\Below w.heap.size w w':=by
 have hlen:4<=s.size:=(Zi.1 h).length_le
 have HR:Hid (Vs (bl s)=if className ((bl s).drop 4)=true then some ⟨119,0,[],(bl s).drop 4,[]⟩ else none):=by
  have hx:Vs (bl s)=if className ((bl s).drop 4)=true then some ⟨119,0,[],(bl s).drop 4,[]⟩ else none:=by unfold Vs;rw[ZU h]
  exact hx
 have H:Hid _:=h;clear h;have hcn:bl (s.extract 4 s.size)=(bl s).drop 4:=by rw[N9]
 have HC:Hid _:=hcn;clear hcn;go_enter func156,ntmps156;go_wp2_with fail;refine(Tt s [110,101,119,58] true _ hs Vy H.o).mono ?_;rintro e w1 ⟨rfl,rfl⟩;go_wp2
 go_region_with (go_at_call 98;refine(QV _ _ (by unfold maxLen;simp;omega)).mono ?_;rintro e w' ⟨rfl,rfl⟩)
 all_goals go_wp2
 all_goals
  refine ZQ (v:=.tuple #[.agg #[.int .u8 119,VI 0,.string ⟨#[]⟩,.string (s.extract 4 s.size),.string ⟨#[]⟩,VI 0],.bool (className (bl (s.extract 4 s.size)))]) ad8 rfl ⟨QX ⟨119,0,[],(bl s).drop 4,[]⟩ (className ((bl s).drop 4)) HR.o ?_,?_⟩
  . rw[HC.o,N9];rfl
  . repeat (first|exact ZR _ _|refine Below.drew ?_|refine Below.alloc ?_ UM _|refine Below.setCell ?_ (ZN _) _)
theorem acN (s:ByteArray)(w:World)(hs:s.size<=120)(g:List.isPrefixOf [110,101,119,58] (bl s)=false)(h:List.isPrefixOf [98,101,58] (bl s)=true):
 Calls prog 156 #[.string s] w λe w'=>Named s e/\Below w.heap.size w w':=by
 have hlen:3<=s.size:=(Zi.1 h).length_le
 have HR:Hid (Vs (bl s)=if className ((bl s).drop 3)=true then some ⟨98,0,[],(bl s).drop 3,[]⟩ else none):=by
  have hx:Vs (bl s)=if className ((bl s).drop 3)=true then some ⟨98,0,[],(bl s).drop 3,[]⟩ else none:=by unfold Vs;rw[ZX (by rw[g];simp),ZU h]
  exact hx
 have H:Hid _:=h;clear h;have G:Hid _:=g;clear g;have hcn:bl (s.extract 3 s.size)=(bl s).drop 3:=by rw[N9]
 have HC:Hid _:=hcn;clear hcn;go_enter func156,ntmps156;go_wp2_with fail;refine(Tt s [110,101,119,58] false _ hs Vy G.o).mono ?_;rintro e w1 ⟨rfl,rfl⟩;go_wp2_with fail;refine(Tt s [98,101,58] true _ hs Vy H.o).mono ?_;rintro e w1 ⟨rfl,rfl⟩;go_wp2
 go_region_with (go_at_call 98;refine(QV _ _ (by unfold maxLen;simp;omega)).mono ?_;rintro e w' ⟨rfl,rfl⟩)
 all_goals go_wp2
 all_goals
  refine ZQ (v:=.tuple #[.agg #[.int .u8 98,VI 0,.string ⟨#[]⟩,.string (s.extract 3 s.size),.string ⟨#[]⟩,VI 0],.bool (className (bl (s.extract 3 s.size)))]) ad8 rfl ⟨QX ⟨98,0,[],(bl s).drop 3,[]⟩ (className ((bl s).drop 3)) HR.o ?_,?_⟩
  . rw[HC.o,N9];rfl
  . repeat (first|exact ZR _ _|refine Below.drew ?_|refine Below.alloc ?_ UM _|refine Below.setCell ?_ (ZN _) _)
theorem JW {B:Nat}{e:TypeId}{v:Value}{ys:List ByteArray}(h:w.ownsRow B e 1 v ys.length (ys.map Value.string))(hne:ys≠[]):
 ∃g cap,v=.slice (some (VJ g 0)) ys.length cap/\B<=g/\ys.length<=cap/\∀j y,ys[j]?=some y->w.cell? (VJ g j)=some (.string y):=by
 have hc:=λg hg=>h.cells (g:=g) hg;rcases h.2 with⟨rfl,h0⟩|⟨g,cap,cur,rfl,hb,hg,hn,_⟩
 . exact absurd (Yq h0) hne
 . refine⟨g,cap,rfl,hb,hn,λj y hy=>?_⟩;have:=hc g rfl j (.string y) (by rw[YO,hy];rfl);exact ac5
theorem OE {a b:UInt8}{r q l:List UInt8}(h:List.isPrefixOf (a::r) l=true)(hne:a≠b):List.isPrefixOf (b::q) l=false:=by
 cases l with
 | nil=>rfl
 | cons c t=>
  simp only[List.isPrefixOf,ZB,YH]at h;have:(b==c)=false:=by rw[<- h.1];exact ZF.2 (VL hne)
  simp[List.isPrefixOf,this]
theorem MH (l:List UInt8)(g1:List.isPrefixOf [110,101,119,58] l=false)(g2:List.isPrefixOf [98,101,58] l=false)(h5:¬l.length<5):
 Vs l=Ue l (Vw (l.drop 5)):=by
 unfold Vs;rw[ZX (by rw[g1];simp),ZX (by rw[g2];simp),ZX h5]
theorem ug (s:ByteArray)(w:World)(hs:s.size<5)(g1:List.isPrefixOf [110,101,119,58] (bl s)=false)(g2:List.isPrefixOf [98,101,58] (bl s)=false):
 Calls prog 156 #[.string s] w λe w'=>Named s e/\Below w.heap.size w w':=by
 have HR:Hid (Vs (bl s)=none):=by
  have hx:Vs (bl s)=none:=by
   unfold Vs;rw[ZX (by rw[g1];simp),ZX (by rw[g2];simp),ZU (by rw[VB];exact hs)]
  exact hx
 have G1:Hid _:=g1;have G2:Hid _:=g2;clear g1 g2;go_enter func156,ntmps156;go_wp2_with fail;refine qW ?_;rintro e w1 ⟨rfl,rfl⟩;go_wp2_with fail;refine tX ?_;rintro e w1 ⟨rfl,rfl⟩;go_wp2;refine ZQ (v:=.tuple #[.agg #[.int .u8 0,VI 0,.string ⟨#[]⟩,.string ⟨#[]⟩,.string ⟨#[]⟩,VI 0],.bool false]) ad8 rfl ⟨QX w0 false jS rfl,?_⟩
 repeat (first|exact ZR _ _|refine Below.drew ?_|refine Below.alloc ?_ UM _|refine Below.setCell ?_ (ZN _) _)
theorem TL {b:Nat}{t:TypeId}{x0 x1 x2 x3 x4 x5:Value}(h:w.heap[b]?=some (.cells #[x0,x1,x2,x3,x4,x5] t)):
 w.cell? (VJ b 0)=some x0/\w.cell? (VJ b 1)=some x1/\w.cell? (VJ b 2)=some x2/\w.cell? (VJ b 3)=some x3/\w.cell? (VJ b 4)=some x4/\w.cell? (VJ b 5)=some x5/\∀o,w.frozen? (VJ b o)=false:=by
 refine⟨?_,?_,?_,?_,?_,?_,?_⟩<;>simp[World.cell?,World.frozen?,h]
theorem KX (s:ByteArray)(b:Bool)(w:World)(hs:s.size<=maxLen)(h:className (bl s)=b):
 Calls prog 98 #[.string s] w λe w'=>e=.returned (.bool b)/\w'=w:=by
 rw[<- h];exact QV s w hs
theorem OB (s:ByteArray)(b:Bool)(w:World)(hs:s.size<=maxLen)(h:selector (bl s)=b):
 Calls prog 54 #[.string s] w λe w'=>e=.returned (.bool b)/\w'=w:=by
 rw[<- h];exact Pj s w hs
theorem kL (s:ByteArray)(w:World)(hs:s.size<=120)(h5:5<=s.size)(g1:List.isPrefixOf [110,101,119,58] (bl s)=false)(g2:List.isPrefixOf [98,101,58] (bl s)=false)
 (h:List.isPrefixOf [100,114,111,112,58] (bl s)=true) (p q:List UInt8) (MY:Vw ((bl s).drop 5)=[p,q]):
 Calls prog 156 #[.string s] w λe w'=>Named s e/\Below w.heap.size w w':=by
 have HR:Hid (Vs (bl s)=if (className p&&selector q)=true then some ⟨120,0,q,p,[]⟩ else none):=by
  exact ag3
 have hl0:p.length<=120:=by
  exact adr
 have Rv:q.length<=120:=by
  exact ad3
 have G1:Hid _:=g1;have G2:Hid _:=g2;have H:Hid _:=h;have HP:Hid _:=MY;clear g1 g2 h MY;go_enter func156,ntmps156;go_wp2_with fail;refine qW ?_;rintro e w1 ⟨rfl,rfl⟩;go_wp2_with fail;refine tX ?_;rintro e w1 ⟨rfl,rfl⟩;go_wp2_with fail;refine jw ?_;rintro e w1 ⟨v,ys,rfl,hown,hsp,Fs,hb⟩;have Sc:ys.map bl=[p,q]:=ad1
 obtain⟨y0,y1,rfl⟩:∃y0 y1,ys=[y0,y1]:=by
  have hl:=YV List.length Sc;simp at hl
  match ys,hl with
  | [y0,y1],_=>exact⟨y0,y1,rfl⟩
 obtain⟨g,cap,rfl,hg,hcap,hcells⟩:=JW hown Vy;have c0:=hcells 0 y0 rfl;have c0:=hcells 1 y1 rfl;simp only[Zc,Xj,YC,VK]at Sc;obtain⟨e0,e1⟩:=Sc;refine aeO ?_;intro _ E0 Kf E1;simp only[ZI,YJ]at hcap;refine alH ?_;intro hz hblk r0 r1 r2 r3 r4 r5 rf hne L_;clear hcells hown hsp Fs hb e0 e1;go_wp2_with fail;refine(Tt s [100,114,111,112,58] true _ VH Vy H.o).mono ?_;rintro e w1 ⟨rfl,rfl⟩;obtain⟨b0,hb0⟩:∃b,className (bl y0)=b:=Vx;have B0:Hid _:=hb0;clear hb0;obtain⟨b1,hb0⟩:∃b,selector (bl y1)=b:=Vx;have B1:Hid _:=hb0;clear hb0;go_wp2_with fail;cases b0
 . skip;refine fA ?_;intro hHeld Y_ Z_;rintro e w' ⟨rfl,rfl⟩
   try go_wp2_with fail
   refine Z_.go λhHeld=>?_;clear Z_ Y_;refine ahG ?_;intro hHeld;go_wp2;refine ZQ (v:=.tuple #[.agg #[.int .u8 120,VI 0,.string y1,.string y0,.string ⟨#[]⟩,VI 0],.bool false]) AY rfl ⟨QX ⟨120,0,q,p,[]⟩ false ?_ ?_,?_⟩
   . exact eX
   . rw[<- E0.o,<- E1.o];rfl
   . exact abK
 skip;refine fA ?_;intro hHeld Y_ Z_;rintro e w' ⟨rfl,rfl⟩
 try go_wp2_with fail
 refine Z_.go λhHeld=>?_;clear Z_ Y_;refine La ?_;refine Uh 12 ?_;refine Uh 13 ?_;refine Ur 14 ?_;refine Ul 15 λY_ Z_=>?_;go_simp;refine(OB y1 _ _ SE B1.o).mono ?_;rintro e w' ⟨rfl,rfl⟩
 try go_wp2_with fail
 refine Z_.go λhHeld=>?_;clear Z_ Y_
 try refine UE ?_
 refine aha ?_;intro hHeld;go_wp2;refine ZQ (v:=.tuple #[.agg #[.int .u8 120,VI 0,.string y1,.string y0,.string ⟨#[]⟩,VI 0],.bool b1]) AY rfl ⟨QX ⟨120,0,q,p,[]⟩ b1 ?_ ?_,?_⟩
 . exact eX
 . rw[<- E0.o,<- E1.o];rfl
 . exact abK
theorem jF (s:ByteArray)(w:World)(hs:s.size<=120)(h5:5<=s.size)(g1:List.isPrefixOf [110,101,119,58] (bl s)=false)(g2:List.isPrefixOf [98,101,58] (bl s)=false)
 (h:List.isPrefixOf [99,111,112,121,58] (bl s)=true) (p q r:List UInt8) (MY:Vw ((bl s).drop 5)=[p,q,r]):
 Calls prog 156 #[.string s] w λe w'=>Named s e/\Below w.heap.size w w':=by
 have HR:Hid (Vs (bl s)=if (className p&&selector q&&className r)=true then some ⟨99,0,q,p,r⟩ else none):=by
  exact ag3
 have hl0:p.length<=120:=by
  exact adr
 have Rv:q.length<=120:=by
  exact ad3
 have hl2:r.length<=120:=by
  have:=Rq _ r acX;rw[Zh,VB]at this;omega
 have G1:Hid _:=g1;have G2:Hid _:=g2;have H:Hid _:=h;have HX:Hid (List.isPrefixOf [100,114,111,112,58] (bl s)=false):=OE h Vz;have HY:Hid (List.isPrefixOf [109,111,118,101,58] (bl s)=false):=OE h Vz;have HP:Hid _:=MY;clear g1 g2 h MY;go_enter func156,ntmps156;go_wp2_with fail;refine qW ?_;rintro e w1 ⟨rfl,rfl⟩;go_wp2_with fail;refine tX ?_;rintro e w1 ⟨rfl,rfl⟩;go_wp2_with fail;refine jw ?_;rintro e w1 ⟨v,ys,rfl,hown,hsp,Fs,hb⟩;have Sc:ys.map bl=[p,q,r]:=ad1
 obtain⟨y0,y1,y2,rfl⟩:∃y0 y1 y2,ys=[y0,y1,y2]:=by
  have hl:=YV List.length Sc;simp at hl
  match ys,hl with
  | [y0,y1,y2],_=>exact⟨y0,y1,y2,rfl⟩
 obtain⟨g,cap,rfl,hg,hcap,hcells⟩:=JW hown Vy;have c0:=hcells 0 y0 rfl;have c0:=hcells 1 y1 rfl;have c0:=hcells 2 y2 rfl;simp only[Zc,Xj,YC,VK]at Sc;obtain⟨e0,e1,e2⟩:=Sc;refine aeO ?_;intro _ E0 Kf E1;have Kf:y2.size<=120:=by rw[<- VB,e2];exact hl2
 have E2:Hid _:=e2;simp only[ZI,YJ]at hcap;refine alH ?_;intro hz hblk r0 r1 r2 r3 r4 r5 rf hne L_;clear hcells hown hsp Fs hb e0 e1 e2;go_wp2_with fail;refine(Tt s [100,114,111,112,58] false _ VH Vy HX.o).mono ?_;rintro e w1 ⟨rfl,rfl⟩;go_wp2_with fail;refine(Tt s [109,111,118,101,58] false _ VH Vy HY.o).mono ?_;rintro e w1 ⟨rfl,rfl⟩;go_wp2_with fail;refine(Tt s [99,111,112,121,58] true _ VH Vy H.o).mono ?_;rintro e w1 ⟨rfl,rfl⟩;obtain⟨b0,hb0⟩:∃b,className (bl y0)=b:=Vx;have B0:Hid _:=hb0;clear hb0;obtain⟨b1,hb0⟩:∃b,selector (bl y1)=b:=Vx;have B1:Hid _:=hb0;clear hb0;obtain⟨b2,hb0⟩:∃b,className (bl y2)=b:=Vx;have B2:Hid _:=hb0;clear hb0;go_wp2_with fail;cases b0
 . skip;refine aeJ ?_;intro hHeld Y_ Z_;rintro e w' ⟨rfl,rfl⟩
   try go_wp2_with fail
   refine Z_.go λhHeld=>?_;clear Z_ Y_
   try refine UE ?_
   refine Ur 14 ?_;refine aiy ?_;refine MC ?_;refine Ze (i:=16) (oi:=_) (v:=_) rfl VE VE VE Nh Gu Ox ?_;refine MC ?_;refine Ze (i:=17) (oi:=_) (v:=_) rfl VE VE VE Nh Gu Ox ?_;refine MC ?_;refine Ze (i:=18) (oi:=_) (v:=_) rfl VE VE VE Nh Gu Ox ?_;refine MC ?_;exact aou
 cases b1
 . skip;refine aeJ ?_;intro hHeld Y_ Z_;rintro e w' ⟨rfl,rfl⟩
   try go_wp2_with fail
   refine Z_.go λhHeld=>?_;clear Z_ Y_;refine ahu ?_;intro Y_ Z_;rintro e w' ⟨rfl,rfl⟩
   try go_wp2_with fail
   refine Z_.go λhHeld=>?_;clear Z_ Y_
   try refine UE ?_
   exact aou
 skip;refine aeJ ?_;intro hHeld Y_ Z_;rintro e w' ⟨rfl,rfl⟩
 try go_wp2_with fail
 refine Z_.go λhHeld=>?_;clear Z_ Y_;refine ahu ?_;intro Y_ Z_;rintro e w' ⟨rfl,rfl⟩
 try go_wp2_with fail
 refine Z_.go λhHeld=>?_;clear Z_ Y_
 try refine UE ?_
 refine Uh 19 ?_;refine Ur 20 ?_;refine Uh 21 ?_;refine Uh 22 ?_;refine Ur 23 ?_;refine Ul 24 λY_ Z_=>?_;go_simp;refine(KX y2 _ _ SE B2.o).mono ?_;rintro e w' ⟨rfl,rfl⟩
 try go_wp2_with fail
 refine Z_.go λhHeld=>?_;clear Z_ Y_
 try refine UE ?_
 refine Ur 25 ?_;refine Ul 26 λY_ Z_=>?_;refine Vg ?_;intro hHeld;clear Z_ Y_
 try refine UE ?_
 refine Ur 27 ?_;refine Nr ?_;go_wp2;refine ZQ (v:=.tuple #[.agg #[.int .u8 99,VI 0,.string y1,.string y0,.string y2,VI 0],.bool b2]) AY rfl ⟨QX ⟨99,0,q,p,r⟩ b2 ?_ ?_,?_⟩
 . rw[HR.o,<- E0.o,<- E1.o,<- E2.o];simp[B0.o,B1.o,B2.o]
 . rw[<- E0.o,<- E1.o,<- E2.o];rfl
 . exact abK
theorem nK (s:ByteArray)(w:World)(hs:s.size<=120)(h5:5<=s.size)(g1:List.isPrefixOf [110,101,119,58] (bl s)=false)(g2:List.isPrefixOf [98,101,58] (bl s)=false)
 (h:List.isPrefixOf [109,111,118,101,58] (bl s)=true) (p q:List UInt8) (MY:Vw ((bl s).drop 5)=[p,q]):
 Calls prog 156 #[.string s] w λe w'=>Named s e/\Below w.heap.size w w':=by
 have HR:Hid (Vs (bl s)=if (className p&&className q)=true then some ⟨118,0,[],p,q⟩ else none):=by
  have hx:=MH (bl s) g1 g2 G8;rw[MY,Ue,ZX (by rw[OE h Vz];simp),ZU h]at hx;exact hx
 have hl0:p.length<=120:=by
  exact adr
 have Rv:q.length<=120:=by
  exact ad3
 have G1:Hid _:=g1;have G2:Hid _:=g2;have H:Hid _:=h;have HX:Hid (List.isPrefixOf [100,114,111,112,58] (bl s)=false):=OE h Vz;have HP:Hid _:=MY;clear g1 g2 h MY;go_enter func156,ntmps156;go_wp2_with fail;refine qW ?_;rintro e w1 ⟨rfl,rfl⟩;go_wp2_with fail;refine tX ?_;rintro e w1 ⟨rfl,rfl⟩;go_wp2_with fail;refine jw ?_;rintro e w1 ⟨v,ys,rfl,hown,hsp,Fs,hb⟩;have Sc:ys.map bl=[p,q]:=ad1
 obtain⟨y0,y1,rfl⟩:∃y0 y1,ys=[y0,y1]:=by
  have hl:=YV List.length Sc;simp at hl
  match ys,hl with
  | [y0,y1],_=>exact⟨y0,y1,rfl⟩
 obtain⟨g,cap,rfl,hg,hcap,hcells⟩:=JW hown Vy;have c0:=hcells 0 y0 rfl;have c0:=hcells 1 y1 rfl;simp only[Zc,Xj,YC,VK]at Sc;obtain⟨e0,e1⟩:=Sc;refine aeO ?_;intro _ E0 Kf E1;simp only[ZI,YJ]at hcap;refine alH ?_;intro hz hblk r0 r1 r2 r3 r4 r5 rf hne L_;clear hcells hown hsp Fs hb e0 e1;go_wp2_with fail;refine(Tt s [100,114,111,112,58] false _ VH Vy HX.o).mono ?_;rintro e w1 ⟨rfl,rfl⟩;go_wp2_with fail;refine(Tt s [109,111,118,101,58] true _ VH Vy H.o).mono ?_;rintro e w1 ⟨rfl,rfl⟩;obtain⟨b0,hb0⟩:∃b,className (bl y0)=b:=Vx;have B0:Hid _:=hb0;clear hb0;obtain⟨b1,hb0⟩:∃b,className (bl y1)=b:=Vx;have B1:Hid _:=hb0;clear hb0;go_wp2_with fail;cases b0
 . skip;refine fA ?_;intro hHeld Y_ Z_;rintro e w' ⟨rfl,rfl⟩
   try go_wp2_with fail
   refine Z_.go λhHeld=>?_;clear Z_ Y_;refine ahG ?_;intro hHeld;go_wp2;refine ZQ (v:=.tuple #[.agg #[.int .u8 118,VI 0,.string ⟨#[]⟩,.string y0,.string y1,VI 0],.bool false]) AY rfl ⟨QX ⟨118,0,[],p,q⟩ false ?_ ?_,?_⟩
   . exact eX
   . rw[<- E0.o,<- E1.o];rfl
   . exact abK
 skip;refine fA ?_;intro hHeld Y_ Z_;rintro e w' ⟨rfl,rfl⟩
 try go_wp2_with fail
 refine Z_.go λhHeld=>?_;clear Z_ Y_;refine La ?_;refine Uh 12 ?_;refine Uh 13 ?_;refine Ur 14 ?_;refine Ul 15 λY_ Z_=>?_;go_simp;refine(KX y1 _ _ SE B1.o).mono ?_;rintro e w' ⟨rfl,rfl⟩
 try go_wp2_with fail
 refine Z_.go λhHeld=>?_;clear Z_ Y_
 try refine UE ?_
 refine aha ?_;intro hHeld;go_wp2;refine ZQ (v:=.tuple #[.agg #[.int .u8 118,VI 0,.string ⟨#[]⟩,.string y0,.string y1,VI 0],.bool b1]) AY rfl ⟨QX ⟨118,0,[],p,q⟩ b1 ?_ ?_,?_⟩
 . exact eX
 . rw[<- E0.o,<- E1.o];rfl
 . exact abK
theorem DF (l:List UInt8)(ps:List (List UInt8))(h2:ps.length=2->List.isPrefixOf [100,114,111,112,58] l=false/\List.isPrefixOf [109,111,118,101,58] l=false)
 (h3:ps.length=3->List.isPrefixOf [99,111,112,121,58] l=false):Ue l ps=none:=by
 unfold Ue;split
 . rw[(h2 rfl).1,(h2 rfl).2];rfl
 . rw[h3 rfl];rfl
 . rfl
theorem ay {B:Nat}{e:TypeId}{v:Value}{ys:List ByteArray}(h:w.ownsRow B e 1 v ys.length (ys.map Value.string))(hne:ys≠[]):∃g cap,v=.slice (some (VJ g 0)) ys.length cap:=by
 obtain⟨g,cap,h,_⟩:=JW h hne;exact⟨g,cap,h⟩
theorem MR (s:ByteArray)(w:World)(hs:s.size<=120)(h5:5<=s.size)(g1:List.isPrefixOf [110,101,119,58] (bl s)=false)(g2:List.isPrefixOf [98,101,58] (bl s)=false)
 (bd bm bc:Bool) (hd:List.isPrefixOf [100,114,111,112,58] (bl s)=bd) (hm:List.isPrefixOf [109,111,118,101,58] (bl s)=bm) (hc:List.isPrefixOf [99,111,112,121,58] (bl s)=bc)
 (n:Nat) (hn:(Vw ((bl s).drop 5)).length=n) (k2:n=2->bd=false/\bm=false) (k3:n=3->bc=false):
 Calls prog 156 #[.string s] w λe w'=>Named s e/\Below w.heap.size w w':=by
 have HR:Hid (Vs (bl s)=none):=by
  have hx:=MH (bl s) g1 g2 G8;rw[DF _ _ (by rw[hn,hd,hm];exact k2) (by rw[hn,hc];exact k3)]at hx;exact hx
 have G1:Hid _:=g1;have G2:Hid _:=g2;have HD:Hid _:=hd;have HM:Hid _:=hm;have HC:Hid _:=hc;have HN:Hid _:=hn
 have t2:bd=true\/bm=true->((n:Int)==2)=false:=λh=>by
  have:n≠2:=λe=>by have:=k2 e;simp[this.1,this.2]at h
  simp;omega
 have t3:bc=true->((n:Int)==3)=false:=λh=>by
  have:n≠3:=λe=>by have:=k3 e;simp[this]at h
  simp;omega
 have T2:Hid _:=t2;have T3:Hid _:=t3;clear g1 g2 hd hm hc hn k2 k3 t2 t3;go_enter func156,ntmps156;go_wp2_with fail;refine qW ?_;rintro e w1 ⟨rfl,rfl⟩;go_wp2_with fail;refine tX ?_;rintro e w1 ⟨rfl,rfl⟩;go_wp2_with fail;refine jw ?_;rintro e w1 ⟨v,ys,rfl,hown,hsp,Fs,hb⟩
 have aq:ys.length=n:=by
  rw[<- HN.o,show (bl s).drop 5=bl (s.extract 5 s.size) from by rw[N9],hsp,List.length_map]
 have hne:ys≠[]:=λe=>MZ (bl (s.extract 5 s.size)) (by rw[hsp,e];rfl);obtain⟨g,cap,rfl⟩:=ay hown hne;subst aq;refine ah3 ?_;intro hblk;obtain⟨r0,r1,r2,r3,r4,r5,rf⟩:=TL hblk;have L_:=((ZR _ _).alloc UM _).trans (hb.mono Vy);clear hown hsp hb hne;cases bd<;>cases bm<;>cases bc
 all_goals
  (first|have u2:=T2.o (W9 rfl)|have u2:=T2.o (Or.inr rfl)|skip)
  (first|have u2:=T3.o rfl|skip)
  go_wp2_with fail;refine(Tt s [100,114,111,112,58] _ _ VH Vy HD.o).mono ?_;rintro e w2 ⟨rfl,rfl⟩;go_wp2_with fail;refine(Tt s [109,111,118,101,58] _ _ VH Vy HM.o).mono ?_;rintro e w2 ⟨rfl,rfl⟩;go_wp2_with fail;refine(Tt s [99,111,112,121,58] _ _ VH Vy HC.o).mono ?_;rintro e w2 ⟨rfl,rfl⟩;go_wp2;refine ZQ (v:=.tuple #[.agg #[.int .u8 0,VI 0,.string ⟨#[]⟩,.string ⟨#[]⟩,.string ⟨#[]⟩,VI 0],.bool false]) AY rfl ⟨QX w0 false jS rfl,?_⟩;exact((((((L_.setCell UM _).setCell UM _).setCell UM _).setCell UM _).setCell UM _).setCell UM _)
theorem dS (s:ByteArray)(w:World)(hs:s.size<=120):
 Calls prog 156 #[.string s] w λe w'=>Named s e/\Below w.heap.size w w':=by
 cases g1:List.isPrefixOf [110,101,119,58] (bl s)
 . cases g2:List.isPrefixOf [98,101,58] (bl s)
   . by_cases h5:s.size<5
     . exact ug s w h5 g1 g2
     . have zv:5<=s.size:=by omega
       cases hd:List.isPrefixOf [100,114,111,112,58] (bl s)
       . cases hm:List.isPrefixOf [109,111,118,101,58] (bl s)
         . cases hc:List.isPrefixOf [99,111,112,121,58] (bl s)
           . exact MR s w hs zv g1 g2 _ _ _ hd hm hc _ rfl (λ_=>KP) (λ_=>rfl)
           . by_cases h3:(Vw ((bl s).drop 5)).length=3
             . obtain⟨p,q,r,hp⟩:∃p q r,Vw ((bl s).drop 5)=[p,q,r]:=by
                match Vw ((bl s).drop 5),h3 with
                | [p,q,r],_=>exact⟨p,q,r,rfl⟩
               exact jF s w hs zv g1 g2 hc p q r hp
             . exact MR s w hs zv g1 g2 _ _ _ hd hm hc _ rfl (λ_=>KP) (λe=>absurd e h3)
         . by_cases h2:(Vw ((bl s).drop 5)).length=2
           . obtain⟨p,q,hp⟩:∃p q,Vw ((bl s).drop 5)=[p,q]:=by
              match Vw ((bl s).drop 5),h2 with
              | [p,q],_=>exact⟨p,q,rfl⟩
             exact nK s w hs zv g1 g2 hm p q hp
           . exact MR s w hs zv g1 g2 _ _ _ hd hm (OE hm Vz) _ rfl (λe=>absurd e h2) (λ_=>rfl)
       . by_cases h2:(Vw ((bl s).drop 5)).length=2
         . obtain⟨p,q,hp⟩:∃p q,Vw ((bl s).drop 5)=[p,q]:=by
            match Vw ((bl s).drop 5),h2 with
            | [p,q],_=>exact⟨p,q,rfl⟩
           exact kL s w hs zv g1 g2 hd p q hp
         . exact MR s w hs zv g1 g2 _ _ _ hd (OE hd Vz) (OE hd Vz) _ rfl (λe=>absurd e h2) (λ_=>rfl)
   . exact acN s w hs g1 g2
 . exact aaB s w hs g1
def aeZ (s:ByteArray)(e:Ending):Prop:=∃x:W,e=.returned (.tuple #[Tm x 0,.bool (rd (bl s)).isSome])/\∀y,rd (bl s)=some y->x=y
theorem iD {s:ByteArray}{e:Ending}(x:W)(b:Bool)(h:rd (bl s)=if b=true then some x else none)(he:e=.returned (.tuple #[Tm x 0,.bool b])):aeZ s e:=by
 exact ao9
variable {w1 : World}
theorem SQ {B:Nat}(h:Below B w w1){b:Nat}(hb:B<=b)(v0 v1 v2 v3 v4 v5:Value):
 Below B w ((((((w1.setCell (VJ b 0) v0).setCell (VJ b 1) v1).setCell (VJ b 2) v2).setCell (VJ b 3) v3).setCell (VJ b 4) v4).setCell (VJ b 5) v5):=
 (((((h.setCell hb _).setCell hb _).setCell hb _).setCell hb _).setCell hb _).setCell hb _
theorem amw {b:Nat}(v0 v1 v2 v3 v4 v5:Value):
 ((((((w1.setCell (VJ b 0) v0).setCell (VJ b 1) v1).setCell (VJ b 2) v2).setCell (VJ b 3) v3).setCell (VJ b 4) v4).setCell (VJ b 5) v5).heap.size=w1.heap.size:=by
 simp[World.setCell]
theorem aj2 {b c:Nat}(hbc:c≠b)(v0 v1 v2 v3 v4 v5:Value):
 ((((((w1.setCell (VJ b 0) v0).setCell (VJ b 1) v1).setCell (VJ b 2) v2).setCell (VJ b 3) v3).setCell (VJ b 4) v4).setCell (VJ b 5) v5).heap[c]?=w1.heap[c]?:=by
 rw[ZW _ _ _ _ hbc,ZW _ _ _ _ hbc,ZW _ _ _ _ hbc,ZW _ _ _ _ hbc,ZW _ _ _ _ hbc,ZW _ _ _ _ hbc]
end Go.Proofs.Rz
