import Derived.BigRegion
import Derived.Test.YtkghmgoefiepeaaGreatDoorD
import Derived.Test.YtkghmgoefiepeaaGreatDoorF
set_option linter.all false
set_option maxHeartbeats 4000000
set_option maxRecDepth 100000
namespace Go.Proofs.Rz
open ChangeShapes WideShapes ChangeAt RowKit Kn Tryz
def aaf:(prog.info? 188).map (λi=>(i.zero,i.size,i.bytes))=some (some (.agg #[.int .u8 0,VI 0,.string ⟨#[]⟩,.string ⟨#[]⟩,.string ⟨#[]⟩,VI 0]),6,72):=VE
variable {w : World}
def Rn {B:Nat}{e:TypeId}{size n:Nat}{v:Value}{xs:List Value}(h:w.ownsRow B e size v n xs):∃p cap,v=.slice p n cap:=by
 rcases h.2 with⟨rfl,rfl⟩|⟨g,cap,cur,rfl,_⟩
 . exact⟨none,0,rfl⟩
 . exact⟨_,_,rfl⟩
variable {w' : World}
def below_grown (h:Below w.heap.size w w')(row:Option Nat):w.grownBy w' row:=⟨h.os,h.tape,h.output,h.size,λk hk _=>h.block k hk⟩
def own_below {B:Nat}{e:TypeId}{size n:Nat}{v:Value}{xs:List Value}(h:w.ownsRow B e size v n xs)(hb:Below w.heap.size w w'):w'.ownsRow B e size v n xs:=
 h.kept (below_grown hb none) (by cases v.ownBlock<;>simp)
def lD (p:W×Nat):∀u∈QN p,u.oneCell'=true:=by
 intro u hu;simp only[QN,ZM,Zx,YE]at hu;rcases hu with rfl|rfl|rfl|rfl|rfl|rfl<;>rfl
def laid2 (w1:World)(x:W)(j:Nat)(t:TypeId):∀i u,(QN (x,j))[i]?=some u->
 ((w1.alloc (.cells #[.int .u8 x.k,VI x.n,.string (VF x.sel),.string (VF x.a),.string (VF x.b),VI (j:Nat)] t)).alloc (.cells #[.int .u8 x.k,VI x.n,.string (VF x.sel),.string (VF x.a),.string (VF x.b),VI (j:Nat)] t)).cell? ((VJ (w1.heap.size+1) 0).add i)=some u:=by
 have h:=Us (w1.alloc (.cells #[.int .u8 x.k,VI x.n,.string (VF x.sel),.string (VF x.a),.string (VF x.b),VI (j:Nat)] t)) (QN (x,j)) t;rw[ZJ]at h;exact h
def oC (s:ByteArray)(w:World)(hs:120<s.size)(hm:s.size<=maxLen):
 Calls prog 99 #[.string s] w λe w'=>e=.returned (.tuple #[.slice none 0 0,VI 0])/\w'=w:=by
 unfold maxLen at hm;go_enter func99,ntmps99;go_wp2
 go_ret2
 exact KP
def dW (s:ByteArray)(w:World)(hs:s.size<=120):
 Calls prog 99 #[.string s] w λe w'=>∃v:Value,e=.returned (.tuple #[v,VI (Vh (bl s)).2])/\
  ((Vh (bl s)).2=-1->w'.ownsRow w.heap.size 188 6 v (Vh (bl s)).1.length (PU (Vh (bl s)).1))/\Below w.heap.size w w':=by
 obtain⟨i0,hi,hz0,hz1,hz2⟩:=YQ aaf;go_enter func99,ntmps99;go_wp2
 go_loopw [4,5] (λv i wr=>∃(j:Nat) (acc:List (W×Nat)),i=VI j/\j<=s.size/\Ro (bl s) j acc/\wr.ownsRow w.heap.size 188 6 v acc.length (PU acc)/\Below w.heap.size w wr)
  (λ_ i _=>s.size-(intOf i).toNat)
 case atStart=>exact⟨0,[],rfl,VH,Jr _,YW _ _ _ _,ZR _ _⟩
 case round=>
  obtain⟨j,acc,rfl,hj,hwt,hown,hb⟩:=hrel;have HW:=UQ hwt;have hal:=hwt.2.2;clear hwt;by_cases hlt:j<s.size
  . have hg:=Qw s j hlt;by_cases C':s[j].toNat=32
    . have t32:((s[j].toNat:Int)==32)=true:=by simp;omega
      have HB:Hid ((bl s)[j]?.getD 0=32):=by
       have hx:(bl s)[j]?.getD 0=32:=an6;exact hx
      clear hg C';go_wp2
      go_roundw
      case rel=>exact⟨j+1,acc,Uu,VH,Jy HW.o Hz HB.o,hown,hb⟩
      case measure=>simp[intOf]<;>omega
    . have t32:((s[j].toNat:Int)==32)=false:=by simp;omega
      have HB:Hid (¬(bl s)[j]?.getD 0=32):=by
       exact ajg
      clear hg C';go_wp2
      go_loop [6] (λk=>∃q:Nat,k=VI q/\j<=q/\q<=s.size/\∀a,j<=a->a<q->¬(bl s)[a]?.getD 0=32) (λk=>s.size-(intOf k).toNat)
      case atStart=>exact⟨j,rfl,VH,VH,λa h1 h2=>VH⟩
      case round=>
       obtain⟨q,rfl,pD,hq,hin⟩:=hrel;have HI:Hid _:=hin;clear hin;by_cases LI:∃h:q<s.size,¬s[q].toNat=32
       . obtain⟨UX,DA⟩:=LI;have em:=Qw s q UX
         have HQ:Hid (¬(bl s)[q]?.getD 0=32):=by
          have hx:¬(bl s)[q]?.getD 0=32:=by rw[em];intro e;exact DA Sv
          exact hx
         have tq:((s[q].toNat:Int)==32)=false:=Vo;have tq2:((s[q].toNat:Int) != 32)=true:=Vo;clear em DA;go_wp2
         go_round
         case rel=>
          refine⟨q+1,Uu,VH,VH,λa h1 h2=>?_⟩;by_cases e:a=q
          . subst e;exact HQ.o
          . exact HI.o a h1 VH
         case measure=>simp[intOf]<;>omega
       . have As:tok (bl s) j=((bl s).take q).drop j/\j+(tok (bl s) j).length=q:=by
          refine akG (bl s) j q pD (by rw[VB];exact hq) HI.o ?_;by_cases UX:q<s.size
          . right
            have:s[q].toNat=32:=by
             by_cases h:s[q].toNat=32
             . exact h
             . exact absurd ⟨UX,h⟩ LI
            rw[Qw s q UX];exact Zj.1 (by rw[this];rfl)
          . left;rw[VB];omega
         have aL:j<q:=by
          have:=Ec (bl s) j Hz HB.o;omega
         have HT:Hid (tok (bl s) j=bl (s.extract j q)/\j+(tok (bl s) j).length=q):=by
          have hx:tok (bl s) j=bl (s.extract j q)/\j+(tok (bl s) j).length=q:=⟨by rw[Gj,NV];exact As.1,As.2⟩
          exact hx
         have hxs:(s.extract j q).size<=120:=Vo;have hx1:1<=(s.extract j q).size:=Vo
         have tL:(∃h:q<s.size,s[q].toNat=32)\/q=s.size:=by
          by_cases UX:q<s.size
          . left
            exact⟨UX,by
             by_cases h:s[q].toNat=32
             . exact h
             . exact absurd ⟨UX,h⟩ LI⟩
          . right;omega
         clear As LI;rcases tL with⟨UX,DA⟩|GE
         rotate_left
         have tq2:¬q<s.size:=VH;clear GE;go_wp2_with fail
         rotate_left
         clear DA;go_wp2_with fail
         all_goals
          refine(abw (s.extract j q) _ hxs hx1).mono ?_;rintro e w1 ⟨⟨x,rfl,hxy⟩,hb1⟩;have hrd:rd (tok (bl s) j)=rd (bl (s.extract j q)):=by rw[HT.o.1]
          have hown1:=own_below hown hb1;have L_:=hb.trans (hb1.mono hb.size);have hsz:=hb1.size;have hsz0:=hb.size;obtain⟨pv,cap,rfl⟩:=Rn hown;simp only[Tm]
          cases hr:rd (bl (s.extract j q)) with
          | none=>
           have HZ:=UQ (KO HW.o Hz HB.o (by rw[hrd];exact hr));simp only[XV];clear hr hrd hxy hown;go_wp2
           go_ret2
           exact ahD
          | some y=>
           obtain rfl:=hxy y hr;have HR:=UQ (hrd.trans hr);simp only[WG];clear hr hrd hxy hown;by_cases Uq:acc.length=40
           . have HZ:=UQ (IG HW.o Hz HB.o Uq);have t32:((acc.length:Int)==40)=true:=Vo;clear Uq;go_wp2
             go_ret2
             exact ahD
           . have t32:((acc.length:Int)==40)=false:=by simp;omega
             have hnews:=laid2 w1 x j 188
             go_wp2_with (first
              | (at_builtin;refine Wx _ rfl _ _ 178 rfl w.heap.size 188 i0 (.agg #[.int .u8 0,VI 0,.string ⟨#[]⟩,.string ⟨#[]⟩,.string ⟨#[]⟩,VI 0]) 6 72 underlying178 hi hz0 hz1 hz2 rfl Vz _ _ _ rfl ((hown1.alloc _).alloc _) (VJ (w1.heap.size+1) 0) 1 1 (QN (x,j)) rfl rfl hnews (lD _) SE VH Ey ?_)
              | go_in)
             intro v2 w1 hown2 hg2 _
             have HN:Hid (Ro (bl s) q (acc++[(x,j)])):=by
              have hx:=H8 HW.o Hz HB.o HR.o Uq;rw[HT.o.2]at hx;exact hx
             have SR:w1.ownsRow w.heap.size 188 6 v2 (acc++[(x,j)]).length (PU (acc++[(x,j)])):=by
              rw[xu,Zw];exact hown2
             have hb1:=Tc (L_.alloc VH _) UM (hown1.alloc _) hg2;clear hown2 hown1 hg2 L_ hnews;go_wp2
             go_roundw
             case rel=>exact⟨q,acc++[(x,j)],rfl,VH,HN.o,SR,hb1⟩
             case measure=>simp[intOf]<;>omega
  . go_wp2
    go_ret2
    refine⟨_,by rw[KW HW.o Hz];rfl,λ_=>?_,hb⟩;rw[KW HW.o Hz];exact hown
def aA (k:Nat)(n:Int)(a b c:ByteArray)(t:Int)(w:World)(hk:k∈kinds)(Z1:-10000<n)(W7:n<10000):
 Calls prog 159 #[.agg #[.int .u8 k,VI n,.string a,.string b,.string c,VI t]] w λe w'=>
  e=.returned (.tuple #[VI (U9 k n).1,VI (U9 k n).2])/\Below w.heap.size w w':=by
 simp only[kinds,ZM,Zx,YE]at hk;rcases hk with rfl|rfl|rfl|rfl|rfl|rfl|rfl|rfl|rfl|rfl|rfl|rfl|rfl|rfl|rfl|rfl|rfl|rfl|rfl|rfl|rfl|rfl
 all_goals
  go_enter func159,ntmps159;go_wp2
  go_ret2
  exact zt6
def MJ (B:Nat)(w:World)(v:Value)(ts:List Int):Prop:=
 (ts=[]/\v=.slice none 0 0)\/∃p,B<=p/\p<w.heap.size/\v=.slice (some (VJ p 0)) ts.length ts.length/\∀j x,ts[j]?=some x->w.cell? (VJ p j)=some (VI x)
def qJ (w:World)(ts:List Int)(t:TypeId)(B:Nat)(hB:B<=w.heap.size):MJ B (w.alloc (.cells (ts.map (Value.int .i64)).toArray t)) (.slice (some (VJ w.heap.size 0)) ts.length ts.length) ts:=by
 refine .inr ⟨w.heap.size,hB,Vy,rfl,λj x hj=>?_⟩;have:=Us w (ts.map (Value.int .i64)) t j (VI x) (by rw[YO,hj];rfl);have hadd:(VJ w.heap.size 0).add j=(VJ w.heap.size j):=qP;rw[hadd]at this;exact this
def Jh (w:World)(o:Obj)(ts:List Int)(t:TypeId):MJ w.heap.size ((w.alloc o).alloc (.cells (ts.map (Value.int .i64)).toArray t)) (.slice (some (VJ (w.heap.size+1) 0)) ts.length ts.length) ts:=by
 have h:=qJ (w.alloc o) ts t w.heap.size Vy;rw[ZJ]at h;exact h
def aej (k:Nat)(n:Int)(a b c:ByteArray)(t:Int)(i:Nat)(w:World)(hi:i<=40):
 Calls prog 160 #[.agg #[.int .u8 k,VI n,.string a,.string b,.string c,VI t],VI i] w λe w'=>
  ∃v,e=.returned v/\MJ w.heap.size w' v (TS k n i)/\Below w.heap.size w w':=by
 by_cases N4:k=114
 . have t1:((k:Int)==114)=true:=by simp;omega
   have HG:Hid (TS k n i=[]):=by
    have hx:TS k n i=[]:=by unfold TS;rw[ZU N4]
    exact hx
   clear N4;go_enter func160,ntmps160;go_wp2
   go_ret
   exact⟨_,rfl,.inl ⟨HG.o,rfl⟩,(ZR _ _).alloc UM _⟩
 . have t1:((k:Int)==114)=false:=by simp;omega
   by_cases Ow:k=62
   . have t1:((k:Int)==62)=true:=by simp;omega
     have HG:Hid (TS k n i=[n]):=by
      have hx:TS k n i=[n]:=by unfold TS;rw[ZX N4,ZU Ow]
      exact hx
     clear N4 Ow;go_enter func160,ntmps160;go_wp2;refine aaO ?_;exact Jh w _ [n] _
   . have t1:((k:Int)==62)=false:=by simp;omega
     by_cases h63:k=63
     . have t1:((k:Int)==63)=true:=by simp;omega
       have HG:Hid (TS k n i=[(i:Int)+1,n]):=by
        have hx:TS k n i=[(i:Int)+1,n]:=by unfold TS;rw[ZX N4,ZX Ow,ZU h63]
        exact hx
       clear N4 Ow h63;go_enter func160,ntmps160;go_wp2;refine aaO ?_;exact Jh w _ [(i:Int)+1,n] _
     . have t1:((k:Int)==63)=false:=by simp;omega
       have HG:Hid (TS k n i=[(i:Int)+1]):=by
        have hx:TS k n i=[(i:Int)+1]:=by unfold TS;rw[ZX N4,ZX Ow,ZX h63]
        exact hx
       clear N4 Ow h63;go_enter func160,ntmps160;go_wp2;refine aaO ?_;exact Jh w _ [(i:Int)+1] _
end Go.Proofs.Rz
namespace Go.Proofs.Rz
open ChangeShapes WideShapes ChangeAt RowKit Kn Tryz
def oI:(prog.info? 236).map (λi=>(i.zero,i.size,i.bytes))=some (some (.slice none 0 0),1,24):=VE
def bM:(prog.info? 4).map (λi=>(i.zero,i.size,i.bytes))=some (some (.bool false),1,1):=VE
def Dy (z:Value)(n:Nat):madeCells #[z] n=Array.replicate n z:=by
 apply Array.ext
 . simp[madeCells]
 . intro i h1 h1;simp[madeCells,Nat.mod_one]
def agd (n:Nat)(hn:n<=40)(w:World):(Instr.makeSlice 235 (VI ((n:Int)+1)) (VI ((n:Int)+1))).run prog w=.ok (.slice (some (VJ w.heap.size 0)) (n+1) (n+1)) (w.alloc (.cells (Array.replicate (n+1) (.slice none 0 0)) 236)):=by
 obtain⟨i0,hi,hz0,hz1,hz2⟩:=YQ oI;have h:=VN (P:=prog) w 235 236 i0 _ underlying235 hi hz0 .i64 .i64 ((n:Int)+1) ((n:Int)+1) VH VH (by rw[hz2];omega) VH;rw[h,show ((n:Int)+1).toNat=n+1 from VH,hz1];show Result.ok _ (w.alloc (.cells (madeCells #[.slice none 0 0] ((n+1)*1)) _))=_;rw[Dy,Nat.mul_one]
def acs (n:Nat)(hn:n<=40)(w:World):(Instr.makeSlice 236 (VI ((n:Int)+1)) (VI ((n:Int)+1))).run prog w=.ok (.slice (some (VJ w.heap.size 0)) (n+1) (n+1)) (w.alloc (.cells (Array.replicate (n+1) (.bool false)) 4)):=by
 obtain⟨i0,hi,hz0,hz1,hz2⟩:=YQ bM;have h:=VN (P:=prog) w 236 4 i0 _ underlying236 hi hz0 .i64 .i64 ((n:Int)+1) ((n:Int)+1) VH VH (by rw[hz2];omega) VH;rw[h,show ((n:Int)+1).toNat=n+1 from VH,hz1];show Result.ok _ (w.alloc (.cells (madeCells #[.bool false] ((n+1)*1)) _))=_;rw[Dy,Nat.mul_one]
def aa5 (w:World):(Instr.makeSlice 236 (VI 17) (VI 17)).run prog w=.ok (.slice (some (VJ w.heap.size 0)) 17 17) (w.alloc (.cells (Array.replicate 17 (.bool false)) 4)):=acs 16 VH w
def Vr {w:World}{a:Addr}{v u:Value}(h:w.cell? a=some u):(w.setCell a v).cell? a=some v:=World.cell?_setCell_same _ _ _ h
def VD {w:World}{a b:Addr}{v:Value}(h:a≠b):(w.setCell a v).cell? b=w.cell? b:=World.cell?_setCell_other _ _ _ _ h
structure Grid (w:World)(R n:Nat)(M:Nat->Nat->Bool):Prop where
 size:R+n+2<=w.heap.size
 row:∀i,i<=n->w.cell? (VJ R i)=some (.slice (some (VJ (R+1+i) 0)) 17 17)
 cell:∀i h,i<=n->h<=16->w.cell? (VJ (R+1+i) h)=some (.bool (M i h))
 free:∀i h,i<=n->w.frozen? (VJ (R+1+i) h)=false
structure OA (w:World)(D n:Nat)(Bd:Nat->Bool):Prop where
 size:D<w.heap.size
 cell:∀i,i<=n->w.cell? (VJ D i)=some (.bool (Bd i))
 free:∀i,w.frozen? (VJ D i)=false
def Grid.below {w w':World}{R n:Nat}{M:Nat->Nat->Bool}(h:Grid w R n M)(hb:Below w.heap.size w w'):Grid w' R n M:=
 ⟨ZC h.size hb.size, λi hi => (hb.cell (p := ⟨R, i, none⟩) (by have := h.size; show R<_; omega)).trans (h.row i hi),
  λi k hi hk=>(hb.cell (p:=(VJ (R+1+i) k)) (by have:=h.size;show R+1+i<_;omega)).trans (h.cell i k hi hk),
  λi k hi=>(hb.frozen (p:=(VJ (R+1+i) k)) (by have:=h.size;show R+1+i<_;omega)).trans (h.free i k hi)⟩
def OA.below {w w':World}{D n:Nat}{Bd:Nat->Bool}(h:OA w D n Bd)(hb:Below w.heap.size w w'):OA w' D n Bd:=
 ⟨ZY h.size hb.size,λi hi=>(hb.cell (p:=(VJ D i)) h.size).trans (h.cell i hi),λi=>(hb.frozen (p:=(VJ D i)) h.size).trans (h.free i)⟩
def Grid.mark {w:World}{R n:Nat}{M:Nat->Nat->Bool}(h:Grid w R n M){a b:Nat}(ha:a<=n)(hb:b<=16):Grid (w.setCell (VJ (R+1+a) b) (.bool true)) R n (Kn.mark M a b):=by
 refine⟨afC,λi hi=>?_,λi k hi hk=>?_,λi k hi=>(YK _ _ _ _).trans (h.free i k hi)⟩
 . rw[Yo _ _ _ _ (by show R+1+a≠R;omega)];exact h.row i hi
 . by_cases e:i=a/\k=b
   . obtain⟨rfl,rfl⟩:=e;rw[Vr (h.cell i k hi hk),Kn.J3]
   . rw[VD (by intro e';injection e' with e1 e2;exact e ⟨VH,e2.symm⟩),h.cell i k hi hk];have:Kn.mark M a b i k=M i k:=by unfold Kn.mark;rw[show (decide (i=a)&&decide (k=b))=false from by simpa using λe1 e2=>e ⟨e1,e2⟩,WY]
     rw[this]
def Grid.far {w:World}{R n:Nat}{M:Nat->Nat->Bool}(h:Grid w R n M){a:Addr}{v:Value}(h1:a.block=R+n+2):Grid (w.setCell a v) R n M:=by
 refine⟨afC,λi hi=>?_,λi k hi hk=>?_,λi k hi=>(YK _ _ _ _).trans (h.free i k hi)⟩
 . rw[Yo _ _ _ _ (by rw[h1];show R+n+2≠R;omega)];exact h.row i hi
 . rw[Yo _ _ _ _ (by rw[h1];show R+n+2≠R+1+i;omega)];exact h.cell i k hi hk
def OA.far {w:World}{D n:Nat}{Bd:Nat->Bool}(h:OA w D n Bd){a:Addr}{v:Value}(h1:a.block≠D):OA (w.setCell a v) D n Bd:=
 ⟨afC,λi hi=>by rw[Yo _ _ _ _ h1];exact h.cell i hi,λi=>(YK _ _ _ _).trans (h.free i)⟩
def OT (Bd:Nat->Bool)(a:Nat):Nat->Bool:=λi=>decide (i=a)||Bd i
def OA.mark {w:World}{D n:Nat}{Bd:Nat->Bool}(h:OA w D n Bd){a:Nat}(ha:a<=n):OA (w.setCell (VJ D a) (.bool true)) D n (OT Bd a):=by
 refine⟨afC,λi hi=>?_,λi=>(YK _ _ _ _).trans (h.free i)⟩;by_cases e:i=a
 . subst e;rw[Vr (h.cell i hi)];simp[OT]
 . rw[VD (by intro e';injection e' with e1 e1;exact e e1.symm),h.cell i hi];simp[OT,e]
structure Rows (w:World)(R n k:Nat):Prop where
 size:w.heap.size=R+1+k
 done:∀j,j<k->w.cell? (VJ R j)=some (.slice (some (VJ (R+1+j) 0)) 17 17)
 rest:∀j,k<=j->j<=n->w.cell? (VJ R j)=some (.slice none 0 0)
 free:∀j,w.frozen? (VJ R j)=false
 blk:∀j,j<k->w.heap[R+1+j]?=some (.cells (Array.replicate 17 (.bool false)) 4)
def mZ (w:World)(n:Nat):Rows (w.alloc (.cells (Array.replicate (n+1) (.slice none 0 0)) 236)) w.heap.size n 0:=by
 have hb:=(Z4 w (.cells (Array.replicate (n+1) (.slice none 0 0)) 236)).1;refine⟨Vy,λj hj=>VH,λj _ hj=>?_,λj=>?_,λj hj=>VH⟩
 . refine Iq ?_;simp[show j<n+1 from VH]
 . simp only[World.frozen?,hb];simp
def aao {w:World}{R n k:Nat}(h:Rows w R n k)(hk:k<=n):Rows ((w.alloc (.cells (Array.replicate 17 (.bool false)) 4)).setCell (VJ R k) (.slice (some (VJ (R+1+k) 0)) 17 17)) R n (k+1):=by
 have hs:=h.size;have hlt:R<w.heap.size:=VH;have hc:∀j,(w.alloc (.cells (Array.replicate 17 (.bool false)) 4)).cell? (VJ R j)=w.cell? (VJ R j):=λj=>Z9 (ZV w _ R hlt);refine⟨xM,λj hj=>?_,λj hj hj'=>?_,λj=>?_,λj hj=>?_⟩
 . by_cases e:j=k
   . subst e;rw[Vr (by rw[hc];exact h.rest j UM hk)]
   . rw[VD (by intro e';injection e' with e1 e2;exact e e2.symm),hc];exact h.done j VH
 . rw[VD xY,hc];exact h.rest j VH hj'
 . rw[YK,Zr (ZV w _ R hlt)];exact h.free j
 . rw[ZW _ _ _ _ (by show R+1+j≠R;omega)];by_cases e:j=k
   . subst e;rw[<- hs];exact(Z4 w _).1
   . rw[ZV w _ _ VH];exact h.blk j VH
def zT {w:World}{R n:Nat}(h:Rows w R n (n+1)):Grid w R n (λ_ _=>false):=by
 refine⟨by have:=h.size;omega,λi hi=>h.done i VH,λi k hi hk=>?_,λi k hi=>?_⟩
 . simp only[World.cell?,h.blk i VH];simp[show k<17 from VH]
 . simp only[World.frozen?,h.blk i VH];simp
def tY (w:World)(n:Nat):OA (w.alloc (.cells (Array.replicate (n+1) (.bool false)) 4)) w.heap.size n (λ_=>false):=by
 have hb:=(Z4 w (.cells (Array.replicate (n+1) (.bool false)) 4)).1;refine⟨Vy,λi hi=>?_,λi=>?_⟩
 . refine Iq ?_;simp[show i<n+1 from VH]
 . simp only[World.frozen?,hb];simp
end Go.Proofs.Rz
namespace Go.Proofs.Rz
open ChangeShapes WideShapes ChangeAt RowKit Kn Tryz
structure St (w0 w:World)(ws:List (W×Nat))(u:Nat)(b:Bool)(M:Nat->Nat->Bool)(Bd:Nat->Bool)(D:Nat->Nat->Prop):Prop where
 grid:Grid w w0.heap.size ws.length M
 bad:OA w (w0.heap.size+ws.length+2) ws.length Bd
 marked:Marked ws M Bd
 gone:b=true\/∀i h,D i h->Gone ws M Bd i h
 le:Gv ws.length M<=u
 lt:b=true->Gv ws.length M<u
 below:Below w0.heap.size w0 w
variable {w0 w w' : World} {ws : List (W × Nat)} {u : Nat} {b : Bool} {M : Nat -> Nat -> Bool} {Bd : Nat -> Bool} {D D' : Nat -> Nat -> Prop}
def St.mono (h:St w0 w ws u b M Bd D)(hb:Below w.heap.size w w'):St w0 w' ws u b M Bd D:=
 ⟨h.grid.below hb,h.bad.below hb,h.marked,h.gone,h.le,h.lt,h.below.trans (hb.mono h.below.size)⟩
def St.weak (h:St w0 w ws u b M Bd D)(hD:∀i k,D' i k->b=true\/D i k\/Gone ws M Bd i k):St w0 w ws u b M Bd D':=
 ⟨h.grid,h.bad,h.marked,by
  rcases h.gone with e|e
  . exact .inl e
  . cases hb:b
    . right;intro i k hd;rcases hD i k hd with h'|h'|h'
      . rw[hb]at h';cases h'
      . exact e i k h'
      . exact h'
    . exact .inl rfl,h.le,h.lt,h.below⟩
def St.restart (h:St w0 w ws u b M Bd D):St w0 w ws (Gv ws.length M) false M Bd (λ_ _=>False):=
 ⟨h.grid,h.bad,h.marked,.inr λ_ _ hf=>hf.elim,ZN _,λe=>EO,h.below⟩
def St.afV (h:St w0 w ws u b M Bd D){a k:Nat}(ha:a<=ws.length)(hk:k<=16)(hm:M a k=false)(hr:Kn.Reach ws a k):St w0 (w.setCell (VJ (w0.heap.size+1+a) k) (.bool true)) ws u true (Kn.mark M a k) Bd D':=by
 refine⟨h.grid.mark ha hk,h.bad.far (by show w0.heap.size+1+a≠_;omega),⟨Ie _ _ h.marked.1,λi j hj=>?_,h.marked.2.2⟩,.inl rfl,?_,λ_=>?_,h.below.setCell (by show w0.heap.size<=w0.heap.size+1+a;omega) _⟩
 . rcases Iw.1 hj with⟨rfl,rfl⟩|hj
   . exact hr
   . exact h.marked.2.1 i j hj
 . have:=Bl ha hk hm;have:=h.le;omega
 . have:=Bl ha hk hm;have:=h.le;omega
def qV {i j a:Nat}(h:Gone ws M Bd i j):Gone ws M (OT Bd a) i j:=λhm=>⟨(h hm).1,λho=>by simp[OT,(h hm).2 ho]⟩
def St.akg (h:St w0 w ws u b M Bd D){a k:Nat}(ha:a<ws.length)(hm:M a k=true)(ho:¬Ph ws a k):St w0 (w.setCell (VJ (w0.heap.size+ws.length+2) a) (.bool true)) ws u b M (OT Bd a) (λi j=>D i j\/(i=a/\j=k)):=by
 refine⟨h.grid.far rfl,h.bad.mark VH,⟨h.marked.1,h.marked.2.1,λi hi=>?_⟩,?_,h.le,h.lt,h.below.setCell (by show w0.heap.size<=w0.heap.size+ws.length+2;omega) _⟩
 . by_cases e:i=a
   . subst e;exact⟨k,h.marked.2.1 i k hm,ho⟩
   . simp[OT,e]at hi;exact h.marked.2.2 i hi
 . rcases h.gone with e|e
   . exact .inl e
   . right;rintro i j (hd|⟨rfl,rfl⟩)
     . exact qV (e i j hd)
     . exact λ_=>⟨λh'=>absurd h' ho,λ_=>by simp[OT]⟩
structure pG (w:World)(p:Option Addr)(g:Nat)(ws:List (W×Nat)):Prop where
 head:1<=ws.length->p=some (VJ g 0)
 lt:1<=ws.length->g<w.heap.size
 c0:∀i x,ws[i]?=some x->w.cell? (VJ g (i*6))=some (.int .u8 x.1.k)
 c1:∀i x,ws[i]?=some x->w.cell? (VJ g (i*6+1))=some (VI x.1.n)
 c2:∀i x,ws[i]?=some x->w.cell? (VJ g (i*6+2))=some (.string (VF x.1.sel))
 c3:∀i x,ws[i]?=some x->w.cell? (VJ g (i*6+3))=some (.string (VF x.1.a))
 c4:∀i x,ws[i]?=some x->w.cell? (VJ g (i*6+4))=some (.string (VF x.1.b))
 c5:∀i x,ws[i]?=some x->w.cell? (VJ g (i*6+5))=some (VI (x.2:Nat))
def pG.below {p:Option Addr}{g:Nat}(h:pG w p g ws){B:Nat}(hB:w.heap.size<=B)(hb:Below B w w'):pG w' p g ws:=by
 exact amL
theorem FW:∀(l:List (W×Nat)) (i:Nat) (x:W×Nat) (c:Nat),l[i]?=some x->c<6->(PU l)[i*6+c]?=(QN x)[c]?
 | [],i,x,c,h,_=>vF
 | y::r,0,x,c,h,hc=>by
  simp at h;subst h;rw[Yu,YU];show (QN y++PU r)[c]?=_;exact ZH (by simpa[QN]using hc)
 | y::r,i+1,x,c,h,hc=>by
  have ih:=FW r i x c Nv hc;show (QN y++PU r)[(i+1)*6+c]?=_;rw[ZP (by simp[QN];omega)];rw[show (i+1)*6+c-(QN y).length=i*6+c from by simp[QN];omega];exact ih
def acL {B:Nat}{e:TypeId}{v:Value}(h:w.ownsRow B e 6 v ws.length (PU ws)):∃p g cap,v=.slice p ws.length cap/\pG w p g ws:=by
 have hc:=λg hg=>h.cells (g:=g) hg;rcases h.2 with⟨rfl,h0⟩|⟨g,cap,cur,rfl,hb,hg,hn,_⟩
 . exact aoI
 . have key:∀i x c u,ws[i]?=some x->c<6->(QN x)[c]?=some u->w.cell? (VJ g (i*6+c))=some u:=by
    intro i x c u hx hcc hu;have:=hc g rfl (i*6+c) u (by rw[FW ws i x c hx hcc];exact hu);exact ajm
   exact anR
structure Fine (x:W)(n:Nat):Prop where
 kind:x.k∈kinds
 lo:-10000<x.n
 hi:x.n<10000
 send:x.k=115\/x.k=94->0<=x.n/\x.n<=3
 goto:x.k=62\/x.k=63->0<=x.n/\x.n<=n
def I7 {x:W}{n:Nat}(h:Fine x n):0<=(U9 x.k x.n).1/\(U9 x.k x.n).1<=4/\0<=(U9 x.k x.n).2/\(U9 x.k x.n).2<=2:=by
 have hs:=h.send;unfold U9;split
 . simp
 . split
   . simp
   . split
     . simp
     . split
       . simp
       . split
         . rename_i e;have:=hs (.inl e);simp;omega
         . split
           . rename_i e;have:=hs (.inr e);simp;omega
           . split<;>simp
def bg {x:W}{n i:Nat}(h:Fine x n)(hi:i<n):∀t∈TS x.k x.n i,0<=t/\t<=n:=by
 have hg:=h.goto;unfold TS;intro t ht;split at ht
 . cases ht
 . split at ht
   . simp at ht;subst ht;exact hg VH
   . split at ht
     . simp at ht;rcases ht with rfl|rfl
       . omega
       . exact hg VH
     . simp at ht;subst ht;omega
end Go.Proofs.Rz
namespace Go.Proofs.Rz
open ChangeShapes WideShapes ChangeAt RowKit Kn Tryz
variable {w : World}
def nI {R n k:Nat}(h:Rows w R n k)(hk:k<=n):Rows ((w.setCell (VJ R k) (.slice (some (VJ w.heap.size 0)) 17 17)).alloc (.cells (Array.replicate 17 (.bool false)) 4)) R n (k+1):=by
 have h1:=aao h hk;have hs:=h.size;rw[<- hs,World.setCell_alloc_past _ _ _ _ VH]at h1;exact h1
variable {w0 : World}
def st_start {ws:List (W×Nat)}(h:Rows w w0.heap.size ws.length (ws.length+1))(hb:Below w0.heap.size w0 w):
 St w0 ((w.setCell (VJ (w0.heap.size+1) 0) (.bool true)).alloc (.cells (Array.replicate (ws.length+1) (.bool false)) 4)) ws (Gv ws.length (Kn.mark (λ_ _=>false) 0 0)+1) true (Kn.mark (λ_ _=>false) 0 0) (λ_=>false) (λ_ _=>False):=by
 have hs:=h.size;have hsz:(w.setCell (VJ (w0.heap.size+1) 0) (.bool true)).heap.size=w0.heap.size+ws.length+2:=xM;have hg:Grid (w.setCell (VJ (w0.heap.size+1) 0) (.bool true)) w0.heap.size ws.length (Kn.mark (λ_ _=>false) 0 0):=(zT h).mark (a:=0) (b:=0) VH VH;have hd:=tY (w.setCell (VJ (w0.heap.size+1) 0) (.bool true)) ws.length;rw[hsz]at hd;have hbb:Below w0.heap.size w0 (w.setCell (VJ (w0.heap.size+1) 0) (.bool true)):=hb.setCell (by show w0.heap.size<=w0.heap.size+1;omega) _;refine⟨hg.below zt7,hd,⟨J3 _ _ _,λi k hk=>?_,λi hi=>by cases hi⟩,.inl rfl,VH,λ_=>VH,hbb.alloc (by rw[hsz];omega) _⟩;rcases Iw.1 hk with⟨rfl,rfl⟩|hk
 . exact KY ws
 . cases hk
def ints_set {B:Nat}{v v':Value}{ts:List Int}{a:Addr}(h:MJ B w v ts)(ha:a.block<B):MJ B (w.setCell a v') v ts:=by
 rcases h with h|⟨p,hp,hlt,hv,hc⟩
 . exact .inl h
 . exact .inr ⟨p,hp,by simpa[World.setCell]using hlt,hv,λj x hj=>by rw[Yo _ _ _ _ (by show a.block≠p;omega)];exact hc j x hj⟩
def aeI (k:Nat)(n:Int)(i:Nat):(TS k n i).length<=2:=by
 unfold TS;split
 . simp
 . split
   . simp
   . split<;>simp
def cnt (M:Nat->Nat->Bool)(k hh:Nat):Nat:=((List.range hh).filter (M k)).length
def cnt_le (M:Nat->Nat->Bool)(k hh:Nat):cnt M k hh<=hh:=by
 have:=XI (M k) (List.range hh);rw[List.length_range]at this;exact this
def ad6 (M:Nat->Nat->Bool)(k hh:Nat):cnt M k (hh+1)=cnt M k hh+(if M k hh=true then 1 else 0):=by
 unfold cnt;rw[List.range_succ,Yi,Zw];by_cases h:M k hh=true<;>simp[Xz,h]
def iR (M:Nat->Nat->Bool)(k:Nat):1<cnt M k 17↔∃h1 h2,h1<h2/\h2<=16/\M k h1=true/\M k h2=true:=by
 have hp:((List.range 17).filter (M k)).Pairwise (· < ·):=List.pairwise_lt_range.filter _
 have hm:∀h,h∈(List.range 17).filter (M k)↔h<=16/\M k h=true:=λh=>by rw[XM,YD];constructor<;>(rintro⟨a,b⟩;exact⟨VH,b⟩)
 unfold cnt;generalize (List.range 17).filter (M k)=l at *;constructor
 . intro h
   match l,h,hp,hm with
   | a::c::r,_,hp,hm=>
    have h1:=(hm a).1 Vy;have h2:=(hm c).1 Vy;exact⟨a,c,(List.pairwise_cons.1 hp).1 c Vy,h2.1,h1.2,h2.2⟩
 . rintro⟨h1,h2,hlt,hle,m1,m2⟩;have e1:=(hm h1).2 ⟨VH,m1⟩;have e2:=(hm h2).2 ⟨hle,m2⟩
   match l,e1,e2 with
   | [],e1,_=>cases e1
   | [a],e1,e2=>simp at e1 e2;omega
   | a::c::r,_,_=>simp
def yY {ws:List (W×Nat)}{M:Nat->Nat->Bool}{Bd:Nat->Bool}(hm:Marked ws M Bd)(hg:∀i h,i<ws.length->h<=16->Gone ws M Bd i h){k:Nat}(hk:k<ws.length):Wrong ws k↔(Bd k=true\/1<cnt M k 17):=by
 unfold Wrong;rw[mG hm hg hk,iR];constructor
 . rintro(h|⟨h1,h2,hlt,r1,r2⟩)
   . exact .inl h
   . exact .inr ⟨h1,h2,hlt,Nq r2,(OV hm hg).1 r1,(OV hm hg).1 r2⟩
 . rintro(h|⟨h1,h2,hlt,_,m1,m2⟩)
   . exact .inl h
   . exact .inr ⟨h1,h2,hlt,(OV hm hg).2 m1,(OV hm hg).2 m2⟩
def dI {B:Nat}{v:Value}{ts:List Int}(h:MJ B w v ts):∃q,v=.slice q ts.length ts.length:=by
 rcases h with⟨rfl,rfl⟩|⟨p,_,_,rfl,_⟩
 . exact⟨none,rfl⟩
 . exact Vx
def ad7 {B:Nat}{q:Option Addr}{n m:Nat}{ts:List Int}(h:MJ B w (.slice q n m) ts){j:Nat}{x:Int}(hj:ts[j]?=some x):∃p,q=some (VJ p 0)/\w.cell? (VJ p j)=some (VI x):=by
 rcases h with⟨rfl,_⟩|⟨p,_,_,hv,hc⟩
 . simp at hj
 . injection hv with h1;exact⟨p,h1,hc j x hj⟩
def qj (ws:List (W×Nat))(p:Option Addr)(g cap:Nat)(w:World)(hn:ws.length<=40)(hw:pG w p g ws)(hf:∀(i:Nat) (x:W×Nat),ws[i]?=some x->Fine x.1 ws.length):
 Calls prog 142 #[.slice p ws.length cap] w λe w'=>∃r:Int,e=.returned (VI r)/\Kt (Wrong ws) ws.length r/\Below w.heap.size w w':=by
 have hm1:=agd ws.length hn;have hm1:=acs ws.length hn;have hm1:=aa5;have HW:Hid _:=hw;have HF:Hid _:=hf;clear hw hf;go_enter func142,ntmps142;go_wp2
 go_loopw [4] (λi wr=>∃k:Nat,i=VI k/\k<=ws.length+1/\Rows wr w.heap.size ws.length k/\Below w.heap.size w wr) (λi _=>ws.length+1-(intOf i).toNat)
 case atStart=>exact⟨0,rfl,VH,mZ w ws.length,(ZR _ _).alloc UM _⟩
 case round=>
  obtain⟨k,rfl,hk,hrows,hb⟩:=hrel;have HR:Hid _:=hrows;have hlt:w.heap.size<wr.heap.size:=by have:=hrows.size;omega
  clear hrows;by_cases hkn:k<=ws.length
  . have c1:=HR.o.rest k UM hkn;have c2:=HR.o.free k;go_wp2
    go_roundw
    case rel=>
     refine⟨k+1,Uu,VH,?_,?_⟩
     . exact nI HR.o hkn
     . exact(hb.setCell UM _).alloc xM _
    case measure=>simp[intOf]<;>omega
  . obtain rfl:k=ws.length+1:=by omega
    have Mb:=zT HR.o;have r0:wr.cell? (VJ w.heap.size 0)=some (.slice (some (VJ (w.heap.size+1) 0)) 17 17):=Mb.row 0 VH;have r0:wr.cell? (VJ (w.heap.size+1) 0)=some (.bool false):=Mb.cell 0 0 VH VH;have r2:wr.frozen? (VJ (w.heap.size+1) 0)=false:=Mb.free 0 0 VH;have hsz:wr.heap.size=w.heap.size+ws.length+2:=by have:=HR.o.size;omega
    have HS:=st_start HR.o hb;have HS:Hid _:=HS;clear Mb hlt hb;go_wp2
    go_loopg [6] (2*Gv ws.length (Kn.mark (λ_ _=>false) 0 0)+1) (λgk t wr=>∃(b:Bool) (M:Nat->Nat->Bool) (Bd:Nat->Bool) (u:Nat),t=.bool b/\St w wr ws u b M Bd (λi h=>i<ws.length/\h<=16)/\gk=2*Gv ws.length M+(if b=true then 1 else 0))
    case atStart=>exact⟨true,_,_,_,rfl,(HS.o.weak (λi h hd=>.inl rfl)),rfl⟩
    case round=>
     obtain⟨b,M,Bd,u,rfl,hst,rfl⟩:=hrel;have HT:Hid _:=hst;clear hst;cases b
     . have nF:Hid (∀k,k<ws.length->(Wrong ws k↔(Bd k=true\/1<cnt M k 17))):=by
        have hx1:∀k,k<ws.length->(Wrong ws k↔(Bd k=true\/1<cnt M k 17)):=λk hk=>yY HT.o.marked (λi h hi hh=>by
         rcases HT.o.gone with e|e
         . cases e
         . exact e i h ⟨hi,hh⟩) hk
        exact hx1
       have hbl:=HT.o.below;go_wp2
       go_loop [13] (λi=>∃k:Nat,i=VI k/\k<=ws.length/\∀j,j<k->¬Wrong ws j) (λi=>ws.length-(intOf i).toNat)
       case atStart=>exact zt9
       case round=>
        obtain⟨k,rfl,hk,hno⟩:=hrel;have G':Hid _:=hno;clear hno;by_cases hkn:k<ws.length
        . have r0:=HT.o.grid.row k VH;go_wp2
          go_loop [14,15] (λc h=>∃hh:Nat,h=VI hh/\c=VI (cnt M k hh:Nat)/\hh<=17) (λ_ h=>17-(intOf h).toNat)
          case atStart=>exact⟨0,rfl,rfl,VH⟩
          case round=>
           obtain⟨hh,rfl,rfl,bR⟩:=hrel;have hcl:=cnt_le M k hh;by_cases zp:hh<=16
           . have r2:=HT.o.grid.cell k hh VH zp;have HC:=UQ (ad6 M k hh);cases hM:M k hh
             . rw[hM]at r2;go_wp2
               go_round
               case rel=>exact⟨hh+1,Uu,by rw[HC.o,hM];rfl,VH⟩
               case measure=>simp[intOf]<;>omega
             . rw[hM]at r2;go_wp2
               go_round
               case rel=>exact⟨hh+1,Uu,by rw[HC.o,hM];go_num,VH⟩
               case measure=>simp[intOf]<;>omega
           . obtain rfl:hh=17:=by omega
             have q1:=HT.o.bad.cell k VH;have HK:=nF.o k hkn;have HK:Hid _:=HK;cases hB:Bd k
             . rw[hB]at q1;by_cases hc:1<cnt M k 17
               . go_wp2
                 go_ret
                 exact⟨k,rfl,.inr ⟨k,hkn,rfl,HK.o.2 (.inr hc),G'.o⟩,hbl⟩
               . go_wp2
                 go_round
                 case rel=>
                  refine⟨k+1,Uu,VH,λj hj=>?_⟩;by_cases e:j=k
                  . subst e;intro hwr;rcases HK.o.1 hwr with h|h
                    . rw[hB]at h;cases h
                    . exact hc h
                  . exact G'.o j VH
                 case measure=>simp[intOf]<;>omega
             . rw[hB]at q1;go_wp2
               go_ret
               exact⟨k,rfl,.inr ⟨k,hkn,rfl,HK.o.2 (.inl hB),G'.o⟩,hbl⟩
        . obtain rfl:k=ws.length:=by omega
          go_wp2
          go_ret
          exact⟨-1,rfl,.inl ⟨rfl,G'.o⟩,hbl⟩
     . go_wp2
       go_loopg [6,7] ws.length (λgk t i wr=>∃(b:Bool) (M':Nat->Nat->Bool) (qD:Nat->Bool) (k:Nat),t=.bool b/\i=VI k/\k<=ws.length/\gk=ws.length-k/\St w wr ws (Gv ws.length M) b M' qD (λi h=>i<k/\h<=16))
       case atStart=>exact⟨false,M,Bd,0,rfl,rfl,VH,VH,HT.o.restart.weak (λi h hd=>VH)⟩
       case round=>
        obtain⟨b,M',qD,k,rfl,rfl,hk,rfl,hst⟩:=hrel;have HU:Hid _:=hst;have kz:=hst.below.size;clear hst;by_cases hkn:k<ws.length
        . refine BH ?_;intro x hx;have Rg:=HF.o k x hx;obtain rfl:p=some (VJ g 0):=HW.o.head VH;have NF:=HW.o.below UM HU.o.below;have hgl:=NF.lt VH;have c0:=NF.c0 k x hx;have c1:=NF.c1 k x hx;have c2:=NF.c2 k x hx;have c3:=NF.c3 k x hx;have c4:=NF.c4 k x hx;have c5:=NF.c5 k x hx;have HX:Hid _:=hx;have NE:Hid _:=Rg;clear hx Rg NF;go_wp2_with fail;refine(aA x.1.k x.1.n _ _ _ _ _ NE.o.kind NE.o.lo NE.o.hi).mono ?_;rintro e w1 ⟨rfl,hb1⟩;obtain⟨ta,Mr⟩:∃ta,(U9 x.1.k x.1.n).1=ta:=Vx;obtain⟨la,FJ⟩:∃la,(U9 x.1.k x.1.n).2=la:=Vx;rw[Mr,FJ];have hft:=I7 NE.o;rw[Mr,FJ]at hft;obtain⟨sw,aql,s7,aE⟩:=hft
          have dT:Hid ((U9 x.1.k x.1.n).1=ta/\(U9 x.1.k x.1.n).2=la):=⟨Mr,FJ⟩
          clear Mr FJ;have d0:=(hb1.cell (p:=(VJ g (k*6))) hgl).trans c0;have d1:=(hb1.cell (p:=(VJ g (k*6+1))) hgl).trans c1;have d2:=(hb1.cell (p:=(VJ g (k*6+2))) hgl).trans c2;have d3:=(hb1.cell (p:=(VJ g (k*6+3))) hgl).trans c3;have d4:=(hb1.cell (p:=(VJ g (k*6+4))) hgl).trans c4;have d5:=(hb1.cell (p:=(VJ g (k*6+5))) hgl).trans c5;have HV:=UQ (HU.o.mono hb1);have hD:=HV.o.bad.size;clear c0 c1 c2 c3 c4 c5 hb1 HU hgl kz;go_wp2_with fail;refine(aej x.1.k x.1.n _ _ _ _ k _ VH).mono ?_;rintro e w2 ⟨vt,rfl,hints,hb1⟩;have HI:=UQ hints;have HU:=UQ (HV.o.mono hb1);clear d0 d1 d2 d3 d4 d5 hb1 HV hints;obtain⟨tan,rfl⟩:=YP sw;obtain⟨K8,rfl⟩:=YP s7;have eI:EG ws k=x.1:=by unfold EG;rw[HX.o];rfl
          have Fi:Hid (tk ws k=tan/\ly ws k=K8/\tg ws k=(TS x.1.k x.1.n k).map Int.toNat):=by
           have hx1:tk ws k=tan/\ly ws k=K8/\tg ws k=(TS x.1.k x.1.n k).map Int.toNat:=by
            unfold tk ly tg;rw[eI,dT.o.1,dT.o.2];exact⟨Zp _,Zp _,rfl⟩
           exact hx1
          obtain⟨ts,hts⟩:∃ts,TS x.1.k x.1.n k=ts:=Vx
          have mx:Hid (tg ws k=ts.map Int.toNat/\∀t∈ts,0<=t/\t<=ws.length):=by
           have hx1:tg ws k=ts.map Int.toNat/\∀t∈ts,0<=t/\t<=ws.length:=⟨by rw[Fi.o.2.2,hts],by rw[<- hts];exact bg NE.o hkn⟩
           exact hx1
          rw[hts]at HI;have htl:ts.length<=2:=by rw[<- hts];exact aeI _ _ _
          clear eI hts sw s7;go_wp2
          go_loopg [6,11] 17 (λgk t h wr=>∃(b:Bool) (M1:Nat->Nat->Bool) (v9:Nat->Bool) (hh:Nat),t=.bool b/\h=VI hh/\hh<=17/\gk=17-hh/\St w wr ws (Gv ws.length M) b M1 v9 (λi h=>(i<k/\h<=16)\/(i=k/\h<hh))/\MJ w1.heap.size wr vt ts)
          case atStart=>exact⟨b,M',qD,0,rfl,rfl,VH,VH,HU.o.weak (λi h hd=>by rcases hd with hd|hd;exact .inr (.inl hd);omega),HI.o⟩
          case round=>
           clear HU HI;obtain⟨b,M1,v9,hh,rfl,rfl,bR,rfl,hst,hints⟩:=hrel;have HU:Hid _:=hst;have HI:=UQ hints;clear hst hints;by_cases zp:hh<=16
           . have r0:=HU.o.grid.row k VH;have r2:=HU.o.grid.cell k hh VH zp;cases hM:M1 k hh
             . rw[hM]at r2;go_wp2
               go_roundg (17-(hh+1))
               case measure=>omega
               case rel=>
                refine⟨b,M1,v9,hh+1,rfl,Uu,VH,rfl,HU.o.weak (λi h hd=>?_),HI.o⟩;rcases hd with hd|⟨rfl,hd⟩
                . exact .inr (.inl (.inl hd))
                . by_cases e:h=hh
                  . subst e;right;right;intro e;rw[hM]at e;cases e
                  . exact .inr agB
             . rw[hM]at r2;by_cases hok:tan<=hh/\hh-tan+K8<=16
               . obtain⟨Ab,Ab⟩:=hok
                 obtain⟨d,rfl⟩:∃d,hh=tan+d:=⟨hh-tan,VH⟩
                 have tE:d+K8<=16:=VH
                 have HO:Hid (Ph ws k (tan+d)/\nx ws k (tan+d)=d+K8):=by
                  have hx1:Ph ws k (tan+d)/\nx ws k (tan+d)=d+K8:=by
                   exact ag7
                  exact hx1
                 obtain⟨q0,rfl⟩:=dI HI.o;go_wp2
                 go_loopg [6,12] ts.length (λgk t kk wr=>∃(b:Bool) (M2:Nat->Nat->Bool) (sB:Nat->Bool) (q:Nat),t=.bool b/\kk=VI q/\q<=ts.length/\gk=ts.length-q/\St w wr ws (Gv ws.length M) b M2 sB (λi h=>(i<k/\h<=16)\/(i=k/\h<tan+d))/\M2 k (tan+d)=true/\(b=true\/∀j t,j<q->ts[j]?=some t->M2 t.toNat (d+K8)=true)/\MJ w1.heap.size wr (.slice q0 ts.length ts.length) ts)
                 case atStart=>exact⟨b,M1,v9,0,rfl,rfl,VH,VH,HU.o,hM,.inr (λj t h=>VH),HI.o⟩
                 case round=>
                  clear HU HI r0 r2;obtain⟨b,M2,sB,q,rfl,rfl,hq,rfl,hst,cQ,hall,hints⟩:=hrel;have HU:Hid _:=hst;have HI:=UQ hints;have HA:Hid _:=hall;have HK:Hid _:=cQ;clear hst hints hall cQ;by_cases FL:q<ts.length
                  . obtain⟨t,ht⟩:∃t,ts[q]?=some t:=⟨_,Z8 FL⟩
                    have htb:=mx.o.2 t (ZK ht);obtain⟨ht0,htn⟩:=htb;obtain⟨tn,rfl⟩:=YP ht0;have CD:tn<=ws.length:=VH;have hmem:tn∈tg ws k:=by rw[mx.o.1];exact Zy.2 ⟨_,ZK ht,Zp _⟩
                    have LT:Hid (Kn.Reach ws tn (d+K8)):=by
                     have hx1:=I5 hkn (HU.o.marked.2.1 _ _ HK.o) HO.o.1 hmem;rw[HO.o.2]at hx1;exact hx1
                    obtain⟨pp,rfl,hcell⟩:=ad7 HI.o ht;have r0:=HU.o.grid.row tn CD;have r0:=HU.o.grid.cell tn (d+K8) CD tE;have r2:=HU.o.grid.free tn (d+K8) CD;have HTq:Hid _:=ht;clear ht ht0 htn hmem;cases po:M2 tn (d+K8)
                    . rw[po]at r0;go_wp2
                      go_roundg (ts.length-(q+1))
                      case measure=>omega
                      case rel=>
                       refine⟨true,Kn.mark M2 tn (d+K8),sB,q+1,rfl,Uu,VH,rfl,HU.o.afV CD tE po LT.o,Ie _ _ HK.o,.inl rfl,ints_set HI.o (by show w.heap.size+1+tn<w1.heap.size;omega)⟩
                    . rw[po]at r0;go_wp2
                      go_roundg (ts.length-(q+1))
                      case measure=>omega
                      case rel=>
                       refine⟨b,M2,sB,q+1,rfl,Uu,VH,rfl,HU.o,HK.o,?_,HI.o⟩;rcases HA.o with h|h
                       . exact .inl h
                       . right;intro j t hj uv;by_cases e:j=q
                         . subst e;rw[HTq.o]at uv;injection uv with uv;rw[<- uv,Zp];exact po
                         . exact h j t VH uv
                  . go_wp2
                    go_roundg (17-(tan+d+1))
                    case measure=>omega
                    case rel=>
                     refine⟨b,M2,sB,tan+d+1,rfl,Uu,VH,rfl,HU.o.weak (λi h hd=>?_),HI.o⟩;rcases hd with hd|⟨rfl,hd⟩
                     . exact .inr (.inl (.inl hd))
                     . by_cases e:h=tan+d
                       . subst e;rcases HA.o with hb|hb
                         . exact .inl hb
                         . right;right;intro _;refine⟨λ_ t ht=>?_,λho=>absurd HO.o.1 ho⟩;rw[mx.o.1]at ht;obtain⟨t',ht',rfl⟩:=Zy.1 ht;obtain⟨j,hj⟩:=YG.1 ht';rw[HO.o.2];exact hb j t' (by have:=(Z7.1 hj).1;omega) hj
                       . exact .inr agB
               . have q1:=HU.o.bad.cell k VH;have q1:=HU.o.bad.free k
                 have HO:Hid (¬Ph ws k hh):=by
                  have hx1:¬Ph ws k hh:=an1;exact hx1
                 have ZD:hh<tan\/(tan<=hh/\16<hh-tan+K8):=VH;clear hok;rcases ZD with hc1|⟨hc1,hc1⟩
                 all_goals
                  go_wp2
                  go_roundg (17-(hh+1))
                  case measure=>omega
                  case rel=>
                   refine⟨b,M1,OT v9 k,hh+1,rfl,Uu,VH,rfl,(HU.o.akg hkn hM HO.o).weak (λi h hd=>?_),ints_set HI.o hD⟩;rcases hd with hd|⟨rfl,hd⟩
                   . exact .inr (.inl (.inl (.inl hd)))
                   . by_cases e:h=hh
                     . subst e;exact .inr (.inl (.inr KP))
                     . exact .inr (.inl agB)
           . obtain rfl:hh=17:=by omega
             go_wp2
             go_roundg (ws.length-(k+1))
             case measure=>omega
             case rel=>
              refine⟨b,M1,v9,k+1,rfl,Uu,VH,rfl,HU.o.weak (λi h hd=>?_)⟩;by_cases e:i=k
              . subst e;exact .inr agB
              . exact .inr (.inl (.inl ⟨VH,hd.2⟩))
        . obtain rfl:k=ws.length:=by omega
          go_wp2
          go_roundg (2*Gv ws.length M'+(if b=true then 1 else 0))
          case measure=>
           have h1:=HU.o.le;have h1:=HU.o.lt;cases b
           . simp;omega
           . have:=h1 rfl;simp;omega
          case rel=>exact⟨b,M',qD,_,rfl,HU.o,rfl⟩
end Go.Proofs.Rz
namespace Kn
open Go
def Aq {sel src:List UInt8}{n:Nat}{a:Int}(h:Ti sel src n 0 a):a=0:=by
 rcases h with⟨_,h,_⟩|⟨_,_,h,_⟩|⟨_,_,_,h,_⟩|⟨_,_,hw,e',i,hf,hr⟩
 . omega
 . omega
 . omega
 . rcases hr with⟨j,x,rfl,hx,he,_⟩|⟨_,_,h⟩
   . exact apd
   . exact h
def wR {sel src:List UInt8}{n:Nat}{a:Int}(h:Ti sel src n 0 a):selector sel=true:=by
 rcases h with⟨_,h,_⟩|⟨_,_,h,_⟩|⟨_,_,_,h,_⟩|⟨hs,_⟩
 . omega
 . omega
 . omega
 . exact hs
def Ua (m:Im)(cls sel src:ByteArray)(e a:Int)(m':Im):Prop:=
 match m.cls cls with
 | none=>e=2/\a=0/\m'=m
 | some c=>Ti (bl sel) (bl src) (m.tot c) e a/\m'=if e=0 then m.UY c (·.put ⟨sel,(Vh (bl src)).1⟩) else m
def sO {m m1 m2:Im}{cls sel src:ByteArray}{e a e' a':Int}(h:Ua m cls sel src e a m1)(h':Ua m cls sel src e' a' m2):e=e'/\a=a'/\m1=m2:=by
 unfold Ua at h h'
 cases hc:m.cls cls with
 | none=>rw[hc]at h h';simp only at h h';exact⟨h.1.trans h'.1.symm,h.2.1.trans h'.2.1.symm,h.2.2.trans h'.2.2.symm⟩
 | some c=>
  rw[hc]at h h';simp only at h h';obtain⟨h1,h2⟩:=wQ h.1 h'.1;subst h1 h2;exact⟨rfl,rfl,h.2.trans h'.2.symm⟩
variable {m m' : Im}
def jc (h:U3 m){cls sel src:ByteArray}{e a:Int}(hr:Ua m cls sel src e a m'):U3 m'/\Ext m m':=by
 unfold Ua at hr
 cases hc:m.cls cls with
 | none=>rw[hc]at hr;obtain⟨_,_,rfl⟩:=hr;exact⟨h,Ext.refl m'⟩
 | some c=>
  rw[hc]at hr;simp only at hr;obtain⟨hm,rfl⟩:=hr;by_cases he:e=0
  . subst he;rw[ZU rfl];have ha:=Aq hm;subst ha;exact adF h c ⟨sel,(Vh (bl src)).1⟩ (wR hm) (af4 hm).2
  . rw[ZX he];exact NU
def SN.Sz (fuel n:Nat):SN->Prop
 | .on _ fuel' Sf=>fuel'=fuel/\Sf.length<=n
 | _=>True
def vN (m:Im)(fuel:Nat)(C_:Option Nat)(to:Vl)(sel:ByteArray)(args:List Vl)(fs:List Fr):(m.send fuel C_ to sel args fs).Sz fuel (fs.length+1):=by
 unfold Im.send
 repeat' split
 all_goals first|trivial|exact⟨rfl,Vy⟩
def SN.Sz.le {fuel n n':Nat}{g:SN}(h:g.Sz fuel n)(hl:n<=n'):g.Sz fuel n':=by
 cases g with
 | on m f fs=>exact⟨h.1,ZC h.2 hl⟩
 | told m v=>trivial
 | stop m e=>trivial
def jm (m:Im)(fuel:Nat)(v:Vl)(fs:List Fr):(QJ m fuel v fs).Sz fuel fs.length:=by
 cases fs with
 | nil=>trivial
 | cons f r=>exact⟨rfl,Vy⟩
def lC {c:Prop}[Decidable c]{fuel n:Nat}{a b:SN}(h1:a.Sz fuel n)(h2:b.Sz fuel n):(if c then a else b).Sz fuel n:=by
 by_cases h:c
 . rw[ZU h];exact h1
 . rw[ZX h];exact h2
def fO (m:Im)(fuel:Nat)(x:W)(f:Fr)(fs:List Fr):(VA m fuel x f fs).Sz fuel (fs.length+2):=by
 unfold VA;dsimp only
 repeat' refine lC ?_ ?_
 all_goals try split
 all_goals try (repeat' refine lC ?_ ?_)
 all_goals first
  | trivial
  | exact⟨rfl,Vy⟩
  | (split;repeat' refine lC ?_ ?_;all_goals first|trivial|exact⟨rfl,Vy⟩)
  | (refine SN.Sz.le (vN _ _ _ _ _ _ _) ?_;simp;done)
  | (refine SN.Sz.le (jm _ _ _ _) ?_;omega)
theorem afD (m:Im)(fuel:Nat)(fs:List Fr):match stepM m fuel fs with
 | .on _ fuel' Sf=>2*fuel'+Sf.length<2*fuel+fs.length
 | _=>True:=by
 cases fs with
 | nil=>trivial
 | cons f r=>
  cases hx:f.ws[f.pc]? with
  | none=>
   simp only[stepM,hx];have:=jm m fuel f.self r
   cases hg:QJ m fuel f.self r with
   | on m' f' Sf=>rw[hg]at this;have h1:=this.1;have h2:=this.2;simp only[ZI];omega
   | told m' v=>trivial
   | stop m' e=>trivial
  | some x=>
   cases fuel with
   | zero=>simp only[stepM,hx]
   | succ fuel=>
    simp only[stepM,hx];have:=fO m fuel x.1 {f with pc:=f.pc+1} r
    cases hg:VA m fuel x.1 {f with pc:=f.pc+1} r with
    | on m' f' Sf=>rw[hg]at this;have h1:=this.1;have h2:=this.2;simp only[ZI];omega
    | told m' v=>trivial
    | stop m' e=>trivial
theorem Dl:∀(k:Nat) (m:Im) (fuel:Nat) (fs:List Fr),2*fuel+fs.length<k->∀m' fuel' Sf,runM k (.on m fuel fs)≠.on m' fuel' Sf
 | 0,_,_,_,h=>VH
 | k+1,m,fuel,fs,h=>by
  intro m' fuel' Sf e;unfold runM at e;have hs:=afD m fuel fs
  cases hg:stepM m fuel fs with
  | on m1 f1 fs1=>
   rw[hg]at hs e;simp only at hs;exact Dl k m1 f1 fs1 VH m' fuel' Sf e
  | told m1 v=>rw[hg]at e;cases k<;>(unfold runM at e;cases e)
  | stop m1 x=>rw[hg]at e;cases k<;>(unfold runM at e;cases e)
def Im.Uf (m:Im)(to:Vl)(sel:ByteArray)(args:List Vl)(fuel:Int):Vl×Int×Int×Im:=
 if selector (bl sel)=false\/U6 (bl sel)≠args.length\/fuel<0\/3000<fuel then (Vl.zero,0,1,m)
 else if (to::args).any (λv=>v.obj&&!m.there v.n)=true then (Vl.zero,0,4,m)
 else match runM (2*fuel.toNat+64) (m.send fuel.toNat (m.of to) to sel args []) with
  | .told m' v=>(v,0,0,m')
  | .stop m' e=>(Vl.zero,e,0,m')
  | .on m' _ _=>(Vl.zero,0,0,m')
def Im.slot (m:Im)(o j:Int):Vl×Int:=match (if m.there o=true then m.obs[o.toNat]? else none) with
 | none=>(Vl.zero,4)
 | some x=>if 0<=j then (match x.slots[j.toNat]? with
  | some v=>(v,0)
  | none=>(Vl.zero,4)) else (Vl.zero,4)
def Im.nP (m:Im)(o:Int):ByteArray×Int:=match (if m.there o=true then m.obs[o.toNat]? else none) with
 | none=>(⟨#[]⟩,4)
 | some x=>((m.kl[x.cls]?.map (·.name)).getD ⟨#[]⟩,0)
def Vl.val (v:Vl):Value:=.agg #[.bool v.obj,VI v.n]
end Kn
namespace Go.Proofs.Rz
open ChangeShapes WideShapes ChangeAt RowKit Kn Tryz
def vcs:List Vl->List Value
 | []=>[]
 | v::r=>.bool v.obj::VI v.n::vcs r
def Kr (l:List Vl):(vcs l).length=l.length*2:=by
 induction l with
 | nil=>rfl
 | cons v r ih=>simp[vcs,ih];omega
theorem PV:∀(l:List Vl) (i:Nat) (v:Vl),l[i]?=some v->(vcs l)[i*2]?=some (.bool v.obj)/\(vcs l)[i*2+1]?=some (VI v.n)
 | [],i,v,h=>MO
 | x::r,0,v,h=>by
  simp at h;subst h;exact KP
 | x::r,i+1,v,h=>by
  have:=PV r i v Nv;rw[show (i+1)*2=i*2+1+1 from VH];simpa[vcs]using this
theorem Ej:∀(l:List Vl) (i:Nat) (v:Vl),i<l.length->vcs (l.set i v)=((vcs l).set (i*2) (.bool v.obj)).set (i*2+1) (VI v.n)
 | [],i,v,h=>vF
 | x::r,0,v,h=>rfl
 | x::r,i+1,v,h=>by
  have:=Ej r i v Nv;rw[show (i+1)*2=i*2+1+1 from VH];simp[vcs,this]
def afZ (l:List Vl):∀u∈vcs l,u.oneCell'=true:=by
 induction l with
 | nil=>intro u hu;cases hu
 | cons v r ih=>
  intro u hu;simp only[vcs,ZM]at hu;rcases hu with rfl|rfl|hu
  . rfl
  . rfl
  . exact ih u hu
variable {m : Im}
def Rj {o:Int}(h:m.there o=true):∃i x,o=((i:Nat):Int)/\m.obs[i]?=some x/\o.toNat=i/\i<m.obs.length:=by
 obtain⟨h0,h0⟩:=Im.NJ.1 h;have hi:o.toNat<m.obs.length:=VH;exact⟨o.toNat,_,VH,Z8 hi,rfl,hi⟩
def XJ (fb o j:Nat):(VJ fb o).add j=(VJ fb (o+j)):=qP
def Ug (w:World)(cs:Array Value)(t:TypeId)(z k:Nat)(hz:z=w.heap.size):(w.alloc (.cells cs t)).cell? (VJ z k)=cs[k]?:=by
 subst hz;simp only[World.cell?,(Z4 w (.cells cs t)).1];simp
def Addr.add_block (a:Addr)(j:Nat):(a.add j).block=a.block:=by unfold Addr.add;split<;>rfl
def UH (w:World)(av:Value)(args:List Vl)(ab:Nat):Prop:=∃ap cap,av=.slice ap args.length cap/\(args≠[]->∃ad:Addr,ap=some ad/\ad.block=ab/\∀j u,(vcs args)[j]?=some u->w.cell? (ad.add j)=some u)
variable {w w' : World}
def UH.same {av:Value}{args:List Vl}{ab:Nat}(h:UH w av args ab)(e:args≠[]->w'.heap[ab]?=w.heap[ab]?):UH w' av args ab:=by
 obtain⟨ap,cap,e1,h1⟩:=h;refine⟨ap,cap,e1,λhn=>?_⟩;obtain⟨ad,e1,e3,h1⟩:=h1 hn;refine⟨ad,e1,e3,λj u hu=>(Z9 (a:=ad.add j) ?_).trans (h1 j u hu)⟩;rw[Addr.add_block,e3];exact e hn
def Bg {a:Addr}{v:Value}(h:w.cell? a=some v):a=(VJ a.block a.off):=by
 obtain⟨b,o,sp⟩:=a
 cases sp with
 | none=>rfl
 | some x=>
  simp only[World.cell?]at h;split at h
  . simp at h
  . cases h
def KL {ap:Option Addr}{cap:Nat}{args:List Vl}{ab:Nat}(h:UH w (.slice ap args.length cap) args ab)(hne:args≠[]):∃o,ap=some (VJ ab o)/\∀k v,args[k]?=some v->w.cell? (VJ ab (o+k*2))=some (.bool v.obj)/\w.cell? (VJ ab (o+k*2+1))=some (VI v.n):=by
 obtain⟨ap',cap',e,h1⟩:=h;injection e with e1 e2 e3;subst e1;obtain⟨ad,e2,e3,h2⟩:=h1 hne
 obtain⟨v0,hv0⟩:∃v,args[0]?=some v:=by
  cases args with
  | nil=>exact absurd rfl hne
  | cons v r=>exact⟨v,rfl⟩
 have hp:=Bg (h2 _ _ (PV _ _ v0 hv0).1);simp only[Yu,Addr.add,Y6]at hp;subst e3;refine⟨ad.off,by rw[e2,<- hp],λk v hk=>?_⟩;obtain⟨g1,g2⟩:=PV _ _ v hk;have c0:=h2 _ _ g1;have c1:=h2 _ _ g2;rw[hp,XJ]at c0 c1;exact⟨c0,c1⟩
variable {f : Fr}
def rC {x:Kn.W×Nat}(h:Rk m 0 f)(hx:f.ws[f.pc]?=some x):f.st.length-(U9 x.1.k x.1.n).1.toNat+(U9 x.1.k x.1.n).2.toNat<=16:=by
 refine qL ?_;intro hlt hw;have hok:=(vV h.good hlt h.at_).2;unfold tk ly at hok;rw[hw]at hok;exact hok
def BU {x:Kn.W×Nat}(hm:U3 m)(h:Rk m 0 f)(hx:f.ws[f.pc]?=some x)(hk:x.1.k=103\/x.1.k=112):∃(i j:Nat) (o:Ob),f.self.n=i/\x.1.n=j/\m.obs[i]?=some o/\j<o.slots.length:=by
 refine qL ?_;intro hlt hw;have hn:=h.good.num f.pc hlt;unfold SC TG at hn;rw[hw]at hn;have h1:=VY.1 λe=>hn (.inr ⟨hk,e⟩);have h1:=(h.good.shp f.pc x hx).low (by rcases hk with e|e<;>simp[e]);have hwd:=h.wide;unfold Im.width at hwd
 cases ho:f.self.obj with
 | false=>rw[ho]at hwd;simp at hwd;omega
 | true=>
  rw[ho]at hwd;simp only[Y6]at hwd;obtain⟨i,o,e1,e2,e3,_⟩:=Rj (h.self.2 ho);rw[e3,e2]at hwd;simp at hwd;exact⟨i,x.1.n.toNat,o,e1,VH,e2,VH⟩
def SV {l:List Vl}(h:1<=l.length):∃v r,l=v::r:=by
 cases l with
 | nil=>simp at h
 | cons v r=>exact⟨v,r,rfl⟩
def PW {l:List Vl}(h:2<=l.length):∃b a r,l=b::a::r:=by
 obtain⟨b,l1,rfl⟩:=SV (l:=l) VH;obtain⟨a,r,rfl⟩:=SV (l:=l1) (by simp at h;omega);exact⟨b,a,r,rfl⟩
def Q7 (s:ByteArray):Int:=if s≠⟨#[]⟩/\selector (bl s)=false then 1 else 0
end Go.Proofs.Rz
namespace Kn
open Go
inductive To:SN->SN->Prop
 | refl (g:SN):To g g
 | step {m:Im}{fuel:Nat}{fs:List Fr}{g:SN} (h:To (stepM m fuel fs) g):To (.on m fuel fs) g
def To.trans {a b c:SN}(h1:To a b)(h2:To b c):To a c:=by
 induction h1 with
 | refl g=>exact h2
 | step _ ih=>exact .step (ih h2)
variable {m : Im}
variable {fs : List Fr}
def To.one {fuel:Nat}:To (.on m fuel fs) (stepM m fuel fs):=.step (.refl _)
def To.ok {a b:SN}(h:To a b)(ha:a.Ok):b.Ok:=by
 induction h with
 | refl g=>exact ha
 | step _ ih=>exact ih (step_ok ha)
def SN.adu:SN->Bool
 | .on _ _ _=>true
 | _=>false
def run_end {g:SN}(h:g.adu=false)(k:Nat):runM k g=g:=by
 cases g with
 | on m f fs=>cases h
 | told m v=>cases k<;>rfl
 | stop m e=>cases k<;>rfl
def To.run {g e:SN}(h:To g e)(he:e.adu=false):∀k,(runM k g).adu=false->runM k g=e:=by
 induction h with
 | refl g=>intro k _;exact run_end he k
 | step _ ih=>
  intro k hk
  cases k with
  | zero=>cases hk
  | succ k=>exact ih he k hk
def To.ends {fuel:Nat}{e:SN}(h:To (.on m fuel fs) e)(he:e.adu=false){k:Nat}(hk:2*fuel+fs.length<k):runM k (.on m fuel fs)=e:=by
 refine h.run he k ?_
 cases hr:runM k (.on m fuel fs) with
 | on m' f' Sf=>exact absurd hr (Dl k m fuel fs hk m' f' Sf)
 | told m' v=>rfl
 | stop m' x=>rfl
def To.sent {fuel:Nat}{C_:Option Nat}{to:Vl}{sel:ByteArray}{args:List Vl}{e:SN}(h:To (m.send fuel C_ to sel args []) e)(he:e.adu=false):runM (2*fuel+64) (m.send fuel C_ to sel args [])=e:=by
 have hs:=vN m fuel C_ to sel args []
 cases hg:m.send fuel C_ to sel args []with
 | on m' f' Sf=>
  rw[hg]at h hs;have h1:=hs.1;have h1:=hs.2;simp only[YJ]at h1;exact h.ends he VH
 | told m' v=>
  rw[hg]at h;cases h;exact run_end rfl _
 | stop m' x=>
  rw[hg]at h;cases h;exact run_end rfl _
def SN.Lk (n:Nat):SN->Prop
 | .on m fuel _=>m.looks+2*fuel<=n
 | .told m _=>m.looks<=n
 | .stop m _=>m.looks<=n
def gJ (m:Im)(fuel:Nat)(C_:Option Nat)(to:Vl)(sel:ByteArray)(args:List Vl)(fs:List Fr):(m.send fuel C_ to sel args fs).Lk (m.looks+2*fuel+2):=by
 unfold Im.send
 repeat' split
 all_goals (simp only[SN.Lk];omega)
def SN.Lk.le {n n':Nat}{g:SN}(h:g.Lk n)(hl:n<=n'):g.Lk n':=by
 cases g with
 | on m f fs=>exact ZC h hl
 | told m v=>exact ZC h hl
 | stop m e=>exact ZC h hl
def iI (m:Im)(fuel:Nat)(v:Vl)(fs:List Fr):(QJ m fuel v fs).Lk (m.looks+2*fuel):=by
 cases fs with
 | nil=>show m.looks<=_;omega
 | cons f r=>exact ZN _
def nJ {c:Prop}[Decidable c]{n:Nat}{a b:SN}(h1:a.Lk n)(h2:b.Lk n):(if c then a else b).Lk n:=by
 by_cases h:c
 . rw[ZU h];exact h1
 . rw[ZX h];exact h2
def BO (m:Im)(s:ByteArray):(m.make s).2.2.looks=m.looks:=by unfold Im.make;(repeat' split)<;>rfl
def tu (m:Im)(o:Int)(s:ByteArray):(m.be o s).2.looks=m.looks:=by unfold Im.be;(repeat' split)<;>rfl
def D7 (m:Im)(s t:ByteArray):(m.drop s t).2.looks=m.looks:=by unfold Im.drop;(repeat' split)<;>rfl
def D6 (m:Im)(s t:ByteArray):(m.move s t).2.looks=m.looks:=by unfold Im.move;(repeat' split)<;>rfl
def BR (m:Im)(s t u:ByteArray):(m.copy s t u).2.looks=m.looks:=by unfold Im.copy;(repeat' split)<;>rfl
def afm (m:Im)(fuel:Nat)(x:W)(f:Fr)(fs:List Fr):(VA m fuel x f fs).Lk (m.looks+2*fuel+2):=by
 have hm:=BO m (VF x.a);have hb:=λo=>tu m o (VF x.a);have hd:=D7 m (VF x.a) (VF x.sel);have hv:=D6 m (VF x.a) (VF x.b);have hc:=BR m (VF x.a) (VF x.sel) (VF x.b);unfold VA;dsimp only
 repeat' refine nJ ?_ ?_
 all_goals try split
 all_goals try (repeat' refine nJ ?_ ?_)
 all_goals first
  | (simp only[SN.Lk];omega)
  | (simp only[SN.Lk,hm];omega)
  | (simp only[SN.Lk,hb];omega)
  | (rename_i he;rw[he]at hm;simp only at hm;simp only[SN.Lk];omega)
  | (rename_i he;rw[he]at hd;simp only at hd;simp only[SN.Lk];omega)
  | (rename_i he;rw[he]at hv;simp only at hv;simp only[SN.Lk];omega)
  | (rename_i he;rw[he]at hc;simp only at hc;simp only[SN.Lk];omega)
  | (split;rename_i he;have hb1:=hb _;rw[he]at hb1;simp only at hb1;repeat' refine nJ ?_ ?_;all_goals (simp only[SN.Lk];omega))
  | exact gJ _ _ _ _ _ _ _
  | (refine SN.Lk.le (iI _ _ _ _) ?_;omega)
def aeX (m:Im)(fuel:Nat)(fs:List Fr):(stepM m fuel fs).Lk (m.looks+2*fuel):=by
 cases fs with
 | nil=>show m.looks<=_;omega
 | cons f r=>
  cases hx:f.ws[f.pc]? with
  | none=>simp only[stepM,hx];exact iI _ _ _ _
  | some x=>
   cases fuel with
   | zero=>simp only[stepM,hx];exact ZN _
   | succ fuel=>
    simp only[stepM,hx];exact(afm m fuel x.1 {f with pc:=f.pc+1} r).le VH
theorem adt:∀(k:Nat) (g:SN) (n:Nat),g.Lk n->(runM k g).Lk n
 | 0,g,n,h=>by cases g<;>exact h
 | k+1,.on m fuel fs,n,h=>by unfold runM;exact adt k _ n ((aeX m fuel fs).le h)
 | k+1,.told m v,n,h=>h
 | k+1,.stop m e,n,h=>h
def Af (m:Im)(to:Vl)(sel:ByteArray)(args:List Vl)(fuel:Int):(m.Uf to sel args fuel).2.2.2.looks<=m.looks+6002:=by
 unfold Im.Uf;split
 . show m.looks<=_;omega
 . rename_i h;split
   . show m.looks<=_;omega
   . have hl:=adt (2*fuel.toNat+64) _ _ (gJ m fuel.toNat (m.of to) to sel args [])
     have hf:fuel.toNat<=3000:=by
      omega
     cases hg:runM (2*fuel.toNat+64) (m.send fuel.toNat (m.of to) to sel args []) with
     | on m' f' Sf=>rw[hg]at hl;have hl:m'.looks+2*f'<=_:=hl;show m'.looks<=_;omega
     | told m' v=>rw[hg]at hl;have hl:m'.looks<=_:=hl;show m'.looks<=_;omega
     | stop m' e=>rw[hg]at hl;have hl:m'.looks<=_:=hl;show m'.looks<=_;omega
end Kn
namespace Go.Proofs.Rz
open ChangeShapes WideShapes ChangeAt RowKit Kn Tryz
def sD (l:List UInt8):kindOf (PD l)=UD l:=by
 unfold PD Va UD
 by_cases h1:l=[115,101,108,102]
 . simp[h1,kindOf]
 . by_cases h2:l=[112,111,112]
   . simp[h2,kindOf]
   . by_cases h3:l=[100,117,112]
     . simp[h3,kindOf]
     . by_cases h4:l=[114,101,116]
       . simp[h4,kindOf]
       . by_cases h5:l=[43]
         . simp[h5,kindOf]
         . by_cases h6:l=[45]
           . simp[h6,kindOf]
           . by_cases h7:l=[42]
             . simp[h7,kindOf]
             . by_cases h8:l=[60]
               . simp[h8,kindOf]
               . by_cases h9:l=[61]
                 . simp[h9,kindOf]
                 . simp[h1,h2,h3,h4,h5,h6,h7,h8,h9,kindOf]
def acu (s:ByteArray)(i:Nat)(hlt:i<s.size):first ((bl s).drop i)=s[i].toNat:=by
 have e:(bl s).drop i=s[i]::(bl s).drop (i+1):=by
  rw[Yx Hz];rfl
 rw[e];rfl
def amI (s:ByteArray)(i:Nat)(hlt:i<s.size):kw ((bl s).drop i) =
 if s[i].toNat=45 then (if Q9 (bl s) (i+1)=true then some (⟨45,0,[],[],[]⟩,1) else (TA 110 U8 4 1 ((bl s).drop (i+1))).map dZ)
 else if s[i].toNat=61 then (if (bl s)[i+1]?=some 115 then TA 112 U8 1 2 ((bl s).drop (i+1+1)) else some (⟨61,0,[],[],[]⟩,1))
 else if s[i].toNat=94 then QT 94 1 ((bl s).drop (i+1))
 else if s[i].toNat=62 then TA 62 U8 2 1 ((bl s).drop (i+1))
 else if s[i].toNat=63 then TA 63 U8 2 1 ((bl s).drop (i+1))
 else if s[i].toNat=43\/s[i].toNat=42\/s[i].toNat=60 then some (⟨s[i].toNat,0,[],[],[]⟩,1)
 else if Vj isSmall 6 ((bl s).drop i)=[] then TA 110 U8 4 0 ((bl s).drop i)
 else if (bl s)[i+(Vj isSmall 6 ((bl s).drop i)).length]?=some 58 then TP (QG (Vj isSmall 6 ((bl s).drop i))) ((Vj isSmall 6 ((bl s).drop i)).length+1) ((bl s).drop (i+(Vj isSmall 6 ((bl s).drop i)).length+1))
 else if (bl s)[i+(Vj isSmall 6 ((bl s).drop i)).length]?=some 47 then QT 115 0 ((bl s).drop i)
 else if Vj isSmall 6 ((bl s).drop i)=[97] then TA 97 Gx 1 1 ((bl s).drop (i+1))
 else if Vj isSmall 6 ((bl s).drop i)=[115] then TA 103 U8 1 1 ((bl s).drop (i+1))
 else if PD (Vj isSmall 6 ((bl s).drop i))=0 then none else some (⟨PD (Vj isSmall 6 ((bl s).drop i)),0,[],[],[]⟩,(Vj isSmall 6 ((bl s).drop i)).length):=by
 refine ah1 ?_;intro g1 g2
 have g3:(((bl s).drop i).length=1\/((bl s).drop i)[1]?=some 32)↔Q9 (bl s) (i+1)=true:=by
  rw[g1,Zh,VB];unfold Q9;rw[VB];exact anh
 unfold kw;rw[acu s i hlt];simp only[g3];rw[g2 1,g2 2,g1 1,g2 _,g1 _];rfl
def ac3 (b:Nat)(s:ByteArray)(i:Nat)(w:World)(hs:s.size<=140737488355328)(hlt:i<s.size)(hg1:2<b)(hg2:1<b)(g_:U7 w)(U':UR w)(h:Uz w b s i):
 Calls prog 76 #[VG b] w λe w'=>e=.returned (RV (kw ((bl s).drop i)))/\Got w w' b s i (kw ((bl s).drop i)):=by
 rw[amI s i hlt];by_cases h45:s[i].toNat=45
 . rw[ZU h45];by_cases he:Q9 (bl s) (i+1)=true
   . rw[ZU he];exact Ry rfl rfl VH rfl (jR b s i w hs hlt hg1 hg2 g_ U' h45 he h)
   . rw[ZX he];exact Ag b s i _ w hs hlt hg1 hg2 g_ U' h45 (by simpa using he) rfl h
 rw[ZX h45];by_cases BB:s[i].toNat=61
 . rw[ZU BB];rcases MW s (i+1) 115 with⟨y_,VC,hd⟩|⟨VC,hd⟩
   . rw[ZU hd];exact nU b s i _ w hs hlt hg1 hg2 g_ U' BB y_ VC rfl h
   . rw[ZX hd];exact Ry rfl rfl VH rfl (uP b s i w hs hlt hg1 hg2 g_ U' BB VC h)
 rw[ZX BB];by_cases Kb:s[i].toNat=94
 . rw[ZU Kb];exact oZ b s i _ w hs hlt hg1 hg2 g_ U' Kb rfl h
 rw[ZX Kb];by_cases Ow:s[i].toNat=62
 . rw[ZU Ow];exact ae4 b s i _ w hs hlt hg1 hg2 g_ U' Ow rfl h
 rw[ZX Ow];by_cases h63:s[i].toNat=63
 . rw[ZU h63];exact adA b s i _ w hs hlt hg1 hg2 g_ U' h63 rfl h
 rw[ZX h63];by_cases hp:s[i].toNat=43\/s[i].toNat=42\/s[i].toNat=60
 . rw[ZU hp];rcases hp with hp|hp|hp
   . exact Ry rfl (by rw[hp];rfl) VH rfl (dM b s i w hs hlt hg1 hg2 g_ U' hp h)
   . exact Ry rfl (by rw[hp];rfl) VH rfl (eH b s i w hs hlt hg1 hg2 g_ U' hp h)
   . exact Ry rfl (by rw[hp];rfl) VH rfl (dQ b s i w hs hlt hg1 hg2 g_ U' hp h)
 rw[ZX hp]
 have hno:s[i].toNat≠45/\s[i].toNat≠61/\s[i].toNat≠94/\s[i].toNat≠62/\s[i].toNat≠63/\s[i].toNat≠43/\s[i].toNat≠42/\s[i].toNat≠60:=
  ⟨h45,BB,Kb,Ow,h63,λe=>hp (.inl e),λe=>hp vJ,λe=>hp apu⟩
 obtain⟨lt,hl⟩:∃lt,Vj isSmall 6 ((bl s).drop i)=lt:=Vx;rw[hl]
 by_cases hle:lt=[]
 . subst hle;rw[ZU rfl];exact qR b s i _ w hs hlt hg1 hg2 g_ U' hno hl rfl h
 rw[ZX hle];have hok:=G9 hl hle;rcases MW s (i+lt.length) 58 with⟨y_,N0,hd⟩|⟨N0,hd⟩
 . rw[ZU hd];exact lW b s i lt _ w hs hlt hg1 hg2 g_ U' hno hl hle y_ N0 rfl h
 rw[ZX hd];rcases MW s (i+lt.length) 47 with⟨y_,h47,hd⟩|⟨h47,hd⟩
 . rw[ZU hd];exact aaL b s i lt _ w hs hlt hg1 hg2 g_ U' hno hl hle N0 y_ h47 rfl h
 rw[ZX hd]
 by_cases ha:lt=[97]
 . rw[ZU ha];subst ha;exact acA b s i _ w hs hlt hg1 hg2 g_ U' hno hl N0 h47 rfl h
 rw[ZX ha]
 by_cases hs2:lt=[115]
 . rw[ZU hs2];subst hs2;exact dF b s i _ w hs hlt hg1 hg2 g_ U' hno hl N0 h47 rfl h
 rw[ZX hs2];have hk:=sD lt;by_cases hz:PD lt=0
 . rw[ZU hz];rw[hz]at hk;refine RS rfl ?_;refine(Dj b s i lt 0 w hs hlt hg1 hg2 g_ U' hno hl hle N0 h47 ha hs2 hk.symm h).mono ?_;rintro e w' ⟨rfl,ht⟩;exact⟨rfl,_,hok,ht⟩
 . rw[ZX hz];exact Ry rfl (by show _=Value.agg #[VI (kindOf (PD lt):Nat),_,_,_,_,.pointer none];rw[hk]) hok rfl (Dj b s i lt (UD lt) w hs hlt hg1 hg2 g_ U' hno hl hle N0 h47 ha hs2 rfl h)
def Rx (l:List (Kn.W×Nat)):List Value:=l.flatMap λp=>QM p.1
def Qo (l:List (Kn.W×Nat)):List Value:=l.map λp=>VI (p.2:Nat)
def Au (l:List (Kn.W×Nat))(p:W×Nat):Rx (l++[p])=Rx l++QM p.1:=by simp[Rx]
def Ai (l:List (Kn.W×Nat))(p:W×Nat):Qo (l++[p])=Qo l++[VI (p.2:Nat)]:=by simp[Qo]
def nH (x:W):∀u∈QM x,u.oneCell'=true:=by
 intro u hu;simp only[QM,ZM,Zx,YE]at hu;rcases hu with rfl|rfl|rfl|rfl|rfl|rfl<;>rfl
def nR:(prog.info? 146).map (λi=>(i.zero,i.size,i.bytes))=some (some (.agg #[VI 0,VI 0,.string ⟨#[]⟩,.string ⟨#[]⟩,.string ⟨#[]⟩,.pointer none]),6,72):=VE
def aea:(prog.info? 3).map (λi=>(i.zero,i.size,i.bytes))=some (some (VI 0),1,8):=VE
structure Rw (w W:World)(s:ByteArray)(j:Nat)(aw M4:List (Kn.W×Nat))(vw vs:Value):Prop where
 rd:Uz W w.heap.size s j
 hu:∃y0 y1 y2 y3 y4,RP W (w.heap.size+1) y0 y1 y2 y3 y4
 ow:W.ownsRow (w.heap.size+2) 146 6 vw aw.length (Rx aw)
 os:W.ownsRow (w.heap.size+2) 3 1 vs M4.length (Qo M4)
 ne:vw.ownBlock=none\/vs.ownBlock=none\/vw.ownBlock≠vs.ownBlock
 below:Below w.heap.size w W
def own_ne {W:World}{B k:Nat}{e:TypeId}{size n:Nat}{v:Value}{xs:List Value}(h:W.ownsRow B e size v n xs)(hk:k<B):v.ownBlock=none\/v.ownBlock≠some k:=by
 cases hv:v.ownBlock with
 | none=>exact .inl rfl
 | some g=>exact .inr (λe=>by injection e with e;have:=(h.lt g hv).1;omega)
def Lm {W:World}{B B':Nat}{e:TypeId}{size n:Nat}{v:Value}{xs:List Value}(h:W.ownsRow B e size v n xs)(hB:B'<=B):W.ownsRow B' e size v n xs:=by
 refine⟨h.1,?_⟩;rcases h.2 with h2|⟨g,cap,cur,h1,h2,h3⟩
 . exact .inl h2
 . exact .inr ⟨g,cap,cur,h1,ZC hB h2,h3⟩
def Rw.to {w W W':World}{s:ByteArray}{j j':Nat}{aw M4:List (Kn.W×Nat)}{vw vs:Value}(h:Rw w W s j aw M4 vw vs)(t:SA W W' w.heap.size s j'):Rw w W' s j' aw M4 vw vs:=by
 obtain⟨y0,y0,y0,y0,y0,hy⟩:=h.hu;exact⟨t.rd,⟨_,_,_,_,_,hy.to t VH⟩,h.ow.kept t.grown (own_ne h.ow VH),h.os.kept t.grown (own_ne h.os VH),h.ne,h.below.grown t.grown h.below.size akJ⟩
def ou (W:World)(u:Nat)(y0 y1 y2 y3 y4:Value):W.grownBy ((((((W.setCell (VJ u 0) y0).setCell (VJ u 1) y1).setCell (VJ u 2) y2).setCell (VJ u 3) y3).setCell (VJ u 4) y4).setCell (VJ u 5) (.pointer none)) (some u):=
 (((((Qb W (VJ u 0) y0).trans (Qb _ (VJ u 1) y1)).trans (Qb _ (VJ u 2) y2)).trans (Qb _ (VJ u 3) y3)).trans (Qb _ (VJ u 4) y4)).trans (Qb _ (VJ u 5) _)
def Rw.aft {w W:World}{s:ByteArray}{j:Nat}{aw M4:List (Kn.W×Nat)}{vw vs:Value}(h:Rw w W s j aw M4 vw vs)(y0 y1 y2 y3 y4:Value):
 Rw w ((((((W.setCell (VJ (w.heap.size+1) 0) y0).setCell (VJ (w.heap.size+1) 1) y1).setCell (VJ (w.heap.size+1) 2) y2).setCell (VJ (w.heap.size+1) 3) y3).setCell (VJ (w.heap.size+1) 4) y4).setCell (VJ (w.heap.size+1) 5) (.pointer none)) s j aw M4 vw vs/\
 RP ((((((W.setCell (VJ (w.heap.size+1) 0) y0).setCell (VJ (w.heap.size+1) 1) y1).setCell (VJ (w.heap.size+1) 2) y2).setCell (VJ (w.heap.size+1) 3) y3).setCell (VJ (w.heap.size+1) 4) y4).setCell (VJ (w.heap.size+1) 5) (.pointer none)) (w.heap.size+1) y0 y1 y2 y3 y4:=by
 obtain⟨z0,z0,z0,z0,z0,hz⟩:=h.hu;have hg:=ou W (w.heap.size+1) y0 y1 y2 y3 y4;have Ni:=hz.N8 y0 y1 y2 y3 y4;exact⟨⟨(hg.block _ h.rd.lt akS).trans h.rd,⟨_,_,_,_,_,Ni⟩,h.ow.kept hg (own_ne h.ow VH),h.os.kept hg (own_ne h.os VH),h.ne,h.below.grown hg h.below.size akJ⟩,Ni⟩
def Rw.anJ {w W W':World}{s:ByteArray}{j:Nat}{aw M4:List (Kn.W×Nat)}{vw vs v':Value}{o:Obj}{x:Kn.W×Nat}(h:Rw w W s j aw M4 vw vs)(hown:W'.ownsRow (w.heap.size+2) 146 6 v' (aw.length+1) (Rx aw++QM x.1))
 (hg:(W.alloc o).grownBy W' vw.ownBlock) (hb:v'.ownBlock=vw.ownBlock\/v'.ownBlock=some (W.heap.size+1)):Rw w W' s j (aw++[x]) M4 v' vs:=by
 obtain⟨z0,z0,z0,z0,z0,hz⟩:=h.hu
 have Gk:∀k,k<w.heap.size+2->k<W.heap.size->W'.heap[k]?=W.heap[k]?:=λk hk hlt=>
  (hg.block k Vo (λe=>by have:=(h.ow.lt k e.symm).1;omega)).trans (ZV W o k hlt)
 have hos:=(h.os.alloc o).kept hg (by
  rcases h.ne with e|e|e
  . cases hv:vs.ownBlock with
    | none=>exact .inl rfl
    | some g=>rw[e];exact .inr Vy
  . exact .inl e
  . exact .inr (λe'=>e e'.symm))
 refine⟨(Gk _ VH h.rd.lt).trans h.rd,⟨_,_,_,_,_,(Gk _ VH hz.lt).trans hz⟩,by rw[Au,Zw];exact hown,hos,?_,?_⟩
 . rcases hb with e|e
   . rw[e];exact h.ne
   . cases hv:vs.ownBlock with
     | none=>exact .inr NP
     | some g=>
      have:=(h.os.lt g hv).2;exact ah5
 . exact Tc h.below UM (Lm h.ow VH) hg
def Rw.aoj {w W W':World}{s:ByteArray}{j:Nat}{aw M4:List (Kn.W×Nat)}{vw vs v':Value}{o:Obj}{x:Kn.W×Nat}(h:Rw w W s j aw M4 vw vs)(hown:W'.ownsRow (w.heap.size+2) 3 1 v' (M4.length+1) (Qo M4++[VI (x.2:Nat)]))
 (hg:(W.alloc o).grownBy W' vs.ownBlock) (hb:v'.ownBlock=vs.ownBlock\/v'.ownBlock=some (W.heap.size+1)):Rw w W' s j aw (M4++[x]) vw v':=by
 obtain⟨z0,z0,z0,z0,z0,hz⟩:=h.hu
 have Gk:∀k,k<w.heap.size+2->k<W.heap.size->W'.heap[k]?=W.heap[k]?:=λk hk hlt=>
  (hg.block k Vo (λe=>by have:=(h.os.lt k e.symm).1;omega)).trans (ZV W o k hlt)
 have how:=(h.ow.alloc o).kept hg (by
  rcases h.ne with e|e|e
  . exact .inl e
  . cases hv:vw.ownBlock with
    | none=>exact .inl rfl
    | some g=>rw[e];exact .inr Vy
  . exact .inr e)
 refine⟨(Gk _ VH h.rd.lt).trans h.rd,⟨_,_,_,_,_,(Gk _ VH hz.lt).trans hz⟩,how,by rw[Ai,Zw];exact hown,?_,?_⟩
 . rcases hb with e|e
   . rw[e];exact h.ne
   . cases hv:vw.ownBlock with
     | none=>exact .inl rfl
     | some g=>
      have:=(h.ow.lt g hv).2;exact ah5
 . exact Tc h.below UM (Lm h.os VH) hg
def RWJ (s:ByteArray)(w:World)(n l:Nat)(a:Act)(W:World):Prop:=
 (l=0/\∃(j:Nat) (acc:List (Kn.W×Nat)) (vw vs x7 x10 x11 x12 Ff x14 x15 x16 x17 x18 x19 CT El C5 EA Cq Cv CN Cx CM Cp Ex E7 D3 CK Er EE Co C4 Eq Ct:Value),a={tmps:=#[.string s,undef,vw,vs,VI 0,VG w.heap.size,VG (w.heap.size+1),x7,.string s,.agg #[.string s,VI 0],x10,x11,x12,Ff,x14,x15,x16,x17,x18,x19,CT,El,C5,EA,Cq,Cv,CN,Cx,CM,Cp,Ex,E7,D3,CK,Er,EE,Co,C4,Eq,Ct],defers:=[]}/\j<=s.size/\n=s.size-j+1/\Ro (bl s) j acc/\Rw w W s j acc acc vw vs)\/
 (l=1/\∃(j:Nat) (vw vs x10 x11 x12 Ff x14 x15 x16 x17 x18 x19 CT El C5 EA Cq Cv CN Cx CM Cp Ex E7 D3 CK Er EE Co C4 Eq Ct:Value),a={tmps:=#[.string s,undef,vw,vs,VI 0,VG w.heap.size,VG (w.heap.size+1),VI (j:Nat),.string s,.agg #[.string s,VI 0],x10,x11,x12,Ff,x14,x15,x16,x17,x18,x19,CT,El,C5,EA,Cq,Cv,CN,Cx,CM,Cp,Ex,E7,D3,CK,Er,EE,Co,C4,Eq,Ct],defers:=[]}/\n=0/\Vh (bl s)=([],(j:Int))/\Below w.heap.size w W)
def Bv {s:ByteArray}{w W:World}{j:Nat}{acc:List (Kn.W×Nat)}{vw vs x7 x10 x11 x12 Ff x14 x15 x16 x17 x18 x19 CT El C5 EA Cq Cv CN Cx CM Cp Ex E7 D3 CK Er EE Co C4 Eq Ct:Value}(hj:j<=s.size)(hw:Ro (bl s) j acc)(h:Rw w W s j acc acc vw vs):RWJ s w (s.size-j+1) 0 {tmps:=#[.string s,undef,vw,vs,VI 0,VG w.heap.size,VG (w.heap.size+1),x7,.string s,.agg #[.string s,VI 0],x10,x11,x12,Ff,x14,x15,x16,x17,x18,x19,CT,El,C5,EA,Cq,Cv,CN,Cx,CM,Cp,Ex,E7,D3,CK,Er,EE,Co,C4,Eq,Ct],defers:=[]} W:=
 .inl ⟨rfl,j,acc,vw,vs,x7,x10,x11,x12,Ff,x14,x15,x16,x17,x18,x19,CT,El,C5,EA,Cq,Cv,CN,Cx,CM,Cp,Ex,E7,D3,CK,Er,EE,Co,C4,Eq,Ct,rfl,hj,rfl,hw,h⟩
def xG {s:ByteArray}{w W:World}{j:Nat}{vw vs x10 x11 x12 Ff x14 x15 x16 x17 x18 x19 CT El C5 EA Cq Cv CN Cx CM Cp Ex E7 D3 CK Er EE Co C4 Eq Ct:Value}(hz:Vh (bl s)=([],(j:Int)))(h:Below w.heap.size w W):RWJ s w 0 1 {tmps:=#[.string s,undef,vw,vs,VI 0,VG w.heap.size,VG (w.heap.size+1),VI (j:Nat),.string s,.agg #[.string s,VI 0],x10,x11,x12,Ff,x14,x15,x16,x17,x18,x19,CT,El,C5,EA,Cq,Cv,CN,Cx,CM,Cp,Ex,E7,D3,CK,Er,EE,Co,C4,Eq,Ct],defers:=[]} W:=
 .inr ⟨rfl,j,vw,vs,x10,x11,x12,Ff,x14,x15,x16,x17,x18,x19,CT,El,C5,EA,Cq,Cv,CN,Cx,CM,Cp,Ex,E7,D3,CK,Er,EE,Co,C4,Eq,Ct,rfl,rfl,hz,h⟩
variable {w : World}
def adn {s:ByteArray}{y0 y1 y2 y3 y4:Value}:Rw w ((w.alloc (.cells #[.string s,VI 0] 135)).alloc (.cells #[y0,y1,y2,y3,y4,.pointer none] 146)) s 0 [] [] (.slice none 0 0) (.slice none 0 0):=
 have e:(w.alloc (.cells #[.string s,VI 0] 135)).heap.size=w.heap.size+1:=ZJ w _
 ⟨(GK w s).alloc _,⟨_,_,_,_,_,e ▸ RY _ y0 y1 y2 y3 y4⟩,YW _ _ _ _,YW _ _ _ _,.inl rfl,((ZR _ _).alloc UM _).alloc Vy _⟩
def abj {x:W}(h:Pv x):kindOf x.k≠0:=by
 have hk:=h.kind;unfold kinds at hk;simp only[ZM,Zx,YE]at hk;rcases hk with e|e|e|e|e|e|e|e|e|e|e|e|e|e|e|e|e|e|e|e|e|e<;>rw[e]<;>decide
def aB {l:List UInt8}{j n:Nat}(hn:n<=(l.drop j).length)(hj:j<=l.length):(n=(l.drop j).length\/(l.drop j)[n]?=some 32)↔Q9 l (j+n)=true:=by
 rw[Zh]at hn ⊢;rw[Zn];unfold Q9;exact anh
def AP (s:ByteArray)(w:World)(hs:s.size<=120)(hg1:2<w.heap.size)(hg2:1<w.heap.size)(g_:U7 w)(U':UR w):
 Calls prog 40 #[.string s] w λe w'=>∃vw vs:Value,e=.returned (.tuple #[vw,vs,VI (Vh (bl s)).2])/\
  ((Vh (bl s)).2=-1->w'.ownsRow w.heap.size 146 6 vw (Vh (bl s)).1.length (Rx (Vh (bl s)).1)/\w'.ownsRow w.heap.size 3 1 vs (Vh (bl s)).1.length (Qo (Vh (bl s)).1))/\Below w.heap.size w w':=by
 obtain⟨i0,hi,hz0,hz1,hz2⟩:=YQ nR;obtain⟨i1,hj,hy0,hy1,hy2⟩:=YQ aea;have P1:=UQ g_;have P2:=UQ U';have hs2:s.size<=140737488355328:=VH;clear g_ U';go_enter func40,ntmps40;go_wp2;refine Aa (RWJ s w) ?_ ?_
 . intro n0 l a W hJ G HR HG;rcases hJ with⟨rfl,j,acc,vw,vs,x7,x7,x7,x7,x7,x7,x7,x7,x7,x7,x7,x7,x7,x7,x7,x7,x7,x7,x7,x7,x7,x7,x7,x7,x7,x7,x7,x7,x7,x7,x7,rfl,hjs,rfl,hwt,Pe⟩|⟨rfl,j,vw,vs,x7,x7,x7,x7,x7,x7,x7,x7,x7,x7,x7,x7,x7,x7,x7,x7,x7,x7,x7,x7,x7,x7,x7,x7,x7,x7,x7,x7,x7,x7,rfl,rfl,hz,hb⟩
   . refine⟨_,rfl,?_⟩;have w8:Hid _:=Pe;have HW:=UQ hwt;clear Pe hwt;go_wp2_with fail;by_cases hlt:j<s.size
     . have hg:=Qw s j hlt;have ZS:(bl s).drop j≠[]:=by intro e;have:=YV List.length e;rw[Zh,VB]at this;simp at this;omega
       by_cases C':s[j].toNat=32
       . have HB:Hid ((bl s)[j]?.getD 0=32):=by
          have hx:(bl s)[j]?.getD 0=32:=an6;exact hx
         refine(TY w.heap.size s j 32 _ hs2 hlt C' w8.o.rd).mono ?_;rintro e W1 ⟨rfl,X_⟩;have H1:=UQ (w8.o.to X_);have HN:=UQ (Jy HW.o Hz HB.o);clear X_ hg C' ZS;go_wp2
         go_step3
         simp only[Exit.then];exact HG.o (s.size-(j+1)+1) 0 _ _ VH (Bv VH HN.o H1.o)
       . have HB:Hid (¬(bl s)[j]?.getD 0=32):=by
          exact ajg
         have HD:=UQ ZS;refine(TU w.heap.size s j 32 _ hs2 VH (λ_=>C') w8.o.rd).mono ?_;rintro e W1 ⟨rfl,X_⟩;have H1:=UQ (w8.o.to X_);have d1:=H1.o.rd.c1;obtain⟨p,cap,rfl⟩:=Rn H1.o.ow;have pP:((j:Int)==s.size)=false:=Vo;clear X_ hg C' ZS;by_cases Uq:acc.length=40
         . have HZ:=UQ (IG HW.o Hz HB.o Uq);have t40:((acc.length:Int)==40)=true:=Vo;clear Uq;go_wp2
           go_step3
           simp only[Exit.then];exact HG.o 0 1 _ _ VH (xG HZ.o H1.o.below)
         . have t40:((acc.length:Int)==40)=false:=by simp;omega
           have xc:Hid _:=Uq;clear Uq;go_wp2_with fail;refine(ac3 w.heap.size s j _ hs2 hlt hg1 hg2 (P1.o.below hg1 H1.o.below) (P2.o.below hg2 H1.o.below) H1.o.rd).mono ?_;rintro e W2 ⟨rfl,j2,eK,X_,hjn⟩;have H2:=UQ (H1.o.to X_);clear X_ d1
           cases hk:kw ((bl s).drop j) with
           | none=>
            have HZ:=UQ (KO HW.o Hz HB.o (aaS HD.o hk));simp only[RV];obtain⟨q0,q1,q2,q3,q4,hz⟩:=H2.o.hu;have u0:=hz.c0;have u1:=hz.c1;have u2:=hz.c2;have u3:=hz.c3;have u4:=hz.c4;have u5:=hz.c5;have uf:=hz.f;have HF:Hid _:=H2.o.aft (VI 0) (VI 0) (.string (VF [])) (.string (VF [])) (.string (VF []));clear hk hjn hz;go_wp2
            go_step3
            simp only[Exit.then];exact HG.o 0 1 _ _ VH (xG HZ.o HF.o.1.below)
           | some q=>
            obtain⟨x,n⟩:=q;obtain rfl:j2=j+n:=hjn x n hk;have hnl:=anC HD.o hk;have hpos:=abj (afo HD.o hk);have tk:(((kindOf x.k:Nat):Int)==0)=false:=Vo;have HA:=UQ (aB hnl G8);have HK:Hid _:=hk;rw[Zh,VB]at hnl;simp only[RV];obtain⟨q0,q1,q2,q3,q4,hz⟩:=H2.o.hu;have u0:=hz.c0;have u1:=hz.c1;have u2:=hz.c2;have u3:=hz.c3;have u4:=hz.c4;have u5:=hz.c5;have uf:=hz.f;have hu9:=H2.o.aft (VI (kindOf x.k:Nat)) (VI x.n) (.string (VF x.a)) (.string (VF x.sel)) (.string (VF x.b));clear hk hjn hz hpos
            go_upto_region 10 with fail
            revert hu9;generalize ((((((W2.setCell (VJ (w.heap.size+1) 0) (VI (kindOf x.k:Nat))).setCell (VJ (w.heap.size+1) 1) (VI x.n)).setCell (VJ (w.heap.size+1) 2) (.string (VF x.a))).setCell (VJ (w.heap.size+1) 3) (.string (VF x.sel))).setCell (VJ (w.heap.size+1) 4) (.string (VF x.b))).setCell (VJ (w.heap.size+1) 5) (.pointer none))=W3;rintro⟨rB,hz3⟩;have H2:Hid _:=rB;have co:=UQ hz3;clear u0 u1 u2 u3 u4 u5 uf rB;have u0:=hz3.c0;clear hz3;go_wp2_with fail;refine(Gi w.heap.size s (j+n) _ hs2 VH H2.o.rd).mono ?_;rintro e W4 ⟨rfl,X_⟩;have H2:=UQ (H2.o.to X_);have hz3:=co.o.to X_ VH;clear X_ u0
            cases he:Q9 (bl s) (j+n) with
            | false=>
             have HZ:=UQ (KO HW.o Hz HB.o (aff HD.o HK.o (λh=>by have:=HA.o.1 h;rw[he]at this;cases this)));clear he hz3;go_wp2
             go_step3
             simp only[Exit.then];exact HG.o 0 1 _ _ VH (xG HZ.o H2.o.below)
            | true=>
             have H_:=aez HD.o HK.o (HA.o.2 he)
             have HN:Hid (Ro (bl s) (j+n) (acc++[(x,j)])):=by
              have hx:=H8 HW.o Hz HB.o H_.1 xc.o;rw[H_.2]at hx;exact hx
             have Z1:1<=n:=by have:=Ec (bl s) j Hz HB.o;omega
             have u0:=hz3.c0;have u1:=hz3.c1;have u2:=hz3.c2;have u3:=hz3.c3;have u4:=hz3.c4;have u5:=hz3.c5;have hnews:=Us W4 (QM x) 146;have hal:=HW.o.2.2;have j8:w.heap.size+2<=W4.heap.size:=by have:=hz3.lt;omega
             clear he H_ hz3
             go_wp2_with (first
              | (at_builtin;refine wpList_append_own_at _ rfl _ _ 106 rfl (w.heap.size+2) 146 i0 (.agg #[VI 0,VI 0,.string ⟨#[]⟩,.string ⟨#[]⟩,.string ⟨#[]⟩,.pointer none]) 6 72 underlying106 hi hz0 hz1 hz2 rfl Vz _ _ _ rfl (H2.o.ow.alloc _) (VJ W4.heap.size 0) 1 1 (QM x) rfl rfl hnews (nH _) SE VH Ey ?_)
              | go_in)
             intro vw2 W5 hown2 Mq _ hblk;have xc:=UQ (H2.o.anJ (x:=(x,j)) hown2 Mq hblk);have j8:w.heap.size+2<=W5.heap.size:=by have:=Mq.size;simp at this;omega
             have GT:=Us W5 [VI (j:Nat)] 3;clear hown2 Mq hblk hnews u0 u1 u2 u3 u4 u5
             go_wp2_with (first
              | (at_builtin;refine wpList_append_own_at _ rfl _ _ 107 rfl (w.heap.size+2) 3 i1 (VI 0) 1 8 underlying107 hj hy0 hy1 hy2 rfl Vz _ _ _ rfl (xc.o.os.alloc _) (VJ W5.heap.size 0) 1 1 [VI (j:Nat)] rfl rfl GT vH SE VH Ey ?_)
              | go_in)
             intro vs2 W6 hown2 Mq _ hblk;have xc:=UQ (xc.o.aoj (x:=(x,j)) hown2 Mq hblk);clear hown2 Mq hblk GT;go_wp2
             go_step3
             simp only[Exit.then];exact HG.o (s.size-(j+n)+1) 0 _ _ VH (Bv VH HN.o xc.o)
     . obtain rfl:j=s.size:=by omega
       refine(TU w.heap.size s s.size 32 _ hs2 VH (λh=>absurd h VH) w8.o.rd).mono ?_;rintro e W1 ⟨rfl,X_⟩;have H1:=UQ (w8.o.to X_);have d1:=H1.o.rd.c1;have HE:=UQ (KW HW.o G8);clear X_;go_wp2;refine HR.o _ _ ?_
       go_ret3
       refine⟨_,_,by rw[HE.o];rfl,λ_=>?_,H1.o.below⟩;rw[HE.o];exact⟨Lm H1.o.ow VH,Lm H1.o.os VH⟩
   . refine⟨_,rfl,?_⟩;have HZ:Hid _:=hz;clear hz;go_wp2;refine HR.o _ _ ?_
     go_ret3
     refine⟨_,_,by rw[HZ.o];rfl,λe=>?_,hb⟩;rw[HZ.o]at e;simp at e
 . intro G HG;go_wp2
   go_step3
   simp only[Exit.then];refine ‹∀(a:Act) (w:World),Code.wp _ _ _ a w->_› _ _ ?_;exact HG.o _ 0 _ _ _ (Bv nO (Jr _) adn) rfl
end Go.Proofs.Rz
namespace Go.Proofs.Rz
open ChangeShapes WideShapes ChangeAt RowKit Kn Tryz
def _root_.Go.RowKit.Below.drewN' {B:Nat}{a w:World}(h:Below B a w)(n:Nat):Below B a (w.drewN n):=⟨h.os,h.tape,h.output,h.size,h.block⟩
def Jl:List (Nat×Nat×Bool×Bool×Bool):=
 [(0,0,false,false,false),(0,1,false,false,false),(0,1,false,false,false),(0,1,false,false,false),(0,1,false,false,false),(1,0,false,false,false),
  (2,1,false,false,false),(2,1,false,false,false),(2,1,false,false,false),(2,1,false,false,false),(2,1,false,false,false),(1,0,false,false,false),(1,2,false,false,false),
  (0,0,false,true,true),(1,0,false,true,false),(1,1,true,false,false),(0,1,true,false,false),(0,1,false,false,false),(1,1,false,false,false),(0,0,false,false,false),
  (0,0,false,false,false),(0,0,false,false,false),(1,0,false,false,true)]
structure su (w:World)(k t l:Nat)(sd jp st:Bool):Prop where
 c0:w.cell? (VJ 0 (k*5))=some (VI t)
 c1:w.cell? (VJ 0 (k*5+1))=some (VI l)
 c2:w.cell? (VJ 0 (k*5+2))=some (.bool sd)
 c3:w.cell? (VJ 0 (k*5+3))=some (.bool jp)
 c4:w.cell? (VJ 0 (k*5+4))=some (.bool st)
def Qc (w:World):Prop:=∀k t l sd jp st,Jl[k]?=some (t,l,sd,jp,st)->su w k t l sd jp st
variable {w w' : World}
def Qc.below (h:Qc w){B:Nat}(hB:0<B)(hb:Below B w w'):Qc w':=λk t l sd jp st hk=>
 have hx:=h k t l sd jp st hk
 ⟨(hb.cell (p := ⟨0, _, none⟩) hB).trans hx.c0, (hb.cell (p := ⟨0, _, none⟩) hB).trans hx.c1, (hb.cell (p := ⟨0, _, none⟩) hB).trans hx.c2,
  (hb.cell (p:=(VJ 0 _)) hB).trans hx.c3,(hb.cell (p:=(VJ 0 _)) hB).trans hx.c4⟩
def Jt (k:Nat):Bool:=decide (k=4)||decide (k=5)
def NQ (k:Nat)(n:Int)(t2 t3 t4:ByteArray)(w:World){q:Option Addr} :
 Calls prog 78 #[.agg #[VI k,VI n,.string t2,.string t3,.string t4,.pointer q]] w λe w'=>e=.returned (.bool (Jt k))/\Below w.heap.size w w':=by
 by_cases h4:k=4
 . subst h4;go_enter func78,ntmps78;go_wp2
   go_ret
   exact zt6
 . have bt:((k:Int)==4)=false:=by simp;omega
   by_cases h5:k=5
   . subst h5;clear h4 bt;go_enter func78,ntmps78;go_wp2
     go_ret
     exact zt6
   . have t5':((k:Int)==5)=false:=by simp;omega
     have HS:Hid (Jt k=false):=by
      have hx:Jt k=false:=by simp[Jt,h4,h5]
      exact hx
     clear h4 h5;go_enter func78,ntmps78;go_wp2
     go_ret
     exact⟨by rw[HS.o];rfl,(ZR _ _).alloc UM _⟩
def Ia (t:Nat)(sd:Bool)(n:Int):Int:=if sd then t+n else t
def Dz (k t l:Nat)(sd jp st:Bool)(n:Int)(t2 t3 t4:ByteArray)(w:World)(hk:k<23)(ht:t<=2)(Z1:-10000<n)(W7:n<10000)(hg:0<w.heap.size)(h:su w k t l sd jp st):
 Calls prog 112 #[.agg #[VI k,VI n,.string t2,.string t3,.string t4,.pointer none]] w λe w'=>e=.returned (VI (Ia t sd n))/\Below w.heap.size w w':=by
 have c0:=h.c0;have c0:=h.c2;clear h;cases sd
 . go_enter func112,ntmps112;go_wp2
   go_ret
   exact zt6
 . go_enter func112,ntmps112;go_wp2
   go_quiet (fail)
   go_wp2
   go_ret
   exact⟨rfl,((ZR _ _).alloc UM _).drewN' _⟩
structure KAt (w:World)(p:Option Addr)(g:Nat)(ws:List (W×Nat)):Prop where
 head:1<=ws.length->p=some (VJ g 0)
 lt:1<=ws.length->g<w.heap.size
 c0:∀i x,ws[i]?=some x->w.cell? (VJ g (i*6))=some (VI (kindOf x.1.k:Nat))
 c1:∀i x,ws[i]?=some x->w.cell? (VJ g (i*6+1))=some (VI x.1.n)
 c2:∀i x,ws[i]?=some x->w.cell? (VJ g (i*6+2))=some (.string (VF x.1.a))
 c3:∀i x,ws[i]?=some x->w.cell? (VJ g (i*6+3))=some (.string (VF x.1.sel))
 c4:∀i x,ws[i]?=some x->w.cell? (VJ g (i*6+4))=some (.string (VF x.1.b))
 c5:∀i x,ws[i]?=some x->w.cell? (VJ g (i*6+5))=some (.pointer none)
def KAt.below {ws:List (W×Nat)}{p:Option Addr}{g:Nat}(h:KAt w p g ws){B:Nat}(hB:w.heap.size<=B)(hb:Below B w w'):KAt w' p g ws:=by
 exact amL
theorem G6:∀(l:List (W×Nat)) (i:Nat) (x:W×Nat) (c:Nat),l[i]?=some x->c<6->(Rx l)[i*6+c]?=(QM x.1)[c]?
 | [],i,x,c,h,_=>vF
 | y::r,0,x,c,h,hc=>by
  simp at h;subst h;rw[Yu,YU];show (QM y.1++Rx r)[c]?=_;exact ZH (by simpa[QM]using hc)
 | y::r,i+1,x,c,h,hc=>by
  have ih:=G6 r i x c Nv hc;show (QM y.1++Rx r)[(i+1)*6+c]?=_;rw[ZP (by simp[QM];omega)];rw[show (i+1)*6+c-(QM y.1).length=i*6+c from by simp[QM];omega];exact ih
def ach {ws:List (W×Nat)}{B:Nat}{e:TypeId}{v:Value}(h:w.ownsRow B e 6 v ws.length (Rx ws)):∃p g cap,v=.slice p ws.length cap/\KAt w p g ws:=by
 have hc:=λg hg=>h.cells (g:=g) hg;rcases h.2 with⟨rfl,h0⟩|⟨g,cap,cur,rfl,hb,hg,hn,_⟩
 . exact aoI
 . have key:∀i x c u,ws[i]?=some x->c<6->(QM x.1)[c]?=some u->w.cell? (VJ g (i*6+c))=some u:=by
    intro i x c u hx hcc hu;have:=hc g rfl (i*6+c) u (by rw[G6 ws i x c hx hcc];exact hu);exact ajm
   exact anR
structure anq (k:Nat)(n:Int)(t l:Nat)(sd jp st:Bool):Prop where
 row:Jl[kindOf k]?=some (t,l,sd,jp,st)
 lt:kindOf k<23
 ht:t<=2
 hl:l<=2
 takes:(U9 k n).1=Ia t sd n
 lays:(U9 k n).2=(l:Int)
 goes:∀i:Nat,TS k n i=(if st then [] else [(i:Int)+1])++(if jp then [n] else [])
 jumps:jp=true↔(k=62\/k=63)
 slot:Jt (kindOf k)=true↔(k=103\/k=112)
 arg:kindOf k=3↔k=97
 sends:sd=true↔(k=115\/k=94)
def vM (k:Nat)(n:Int)(hk:k∈kinds):∃t l sd jp st,anq k n t l sd jp st:=by
 simp only[kinds,ZM,Zx,YE]at hk;rcases hk with rfl|rfl|rfl|rfl|rfl|rfl|rfl|rfl|rfl|rfl|rfl|rfl|rfl|rfl|rfl|rfl|rfl|rfl|rfl|rfl|rfl|rfl
 all_goals
  refine⟨_,_,_,_,_,⟨rfl,Vz,Vz,Vz,?_,zb7,λi=>uI,Vz,Vz,Vz,Vz⟩⟩;simp[U9,Ia]<;>omega
def ai2 (ws:List (W×Nat))(args slots:Nat)(e i:Int):Prop:=
 (∃j,j<ws.length/\i=(j:Int)/\SC ws args slots j/\(∀k,k<j->¬SC ws args slots k)/\(TJ ws args j->e=1)/\(¬TJ ws args j->e=7))\/
 ((∀j,j<ws.length->¬SC ws args slots j)/\e=0/\i=0)
def GU (ws:List (W×Nat))(p:Option Addr)(g cap args slots:Nat)(w:World)(hn:ws.length<=40)(ha:args<=3)(hs:slots<=10)(hw:KAt w p g ws)(h0:∀(i:Nat) (x:W×Nat),ws[i]?=some x->Pv x.1)(hge:0<w.heap.size)(hE:Qc w):
 Calls prog 41 #[.slice p ws.length cap,VI args,VI slots] w λe w'=>∃r i:Int,e=.returned (.tuple #[VI r,VI i])/\ai2 ws args slots r i/\Below w.heap.size w w':=by
 have HW:Hid _:=hw;have HF:Hid _:=h0;clear hw h0;go_enter func41,ntmps41;go_wp2
 go_loopw [12] (λi wr=>∃k:Nat,i=VI k/\k<=ws.length/\(∀j,j<k->¬SC ws args slots j)/\Below w.heap.size w wr) (λi _=>ws.length-(intOf i).toNat)
 case atStart=>exact⟨0,rfl,VH,λj h=>VH,ZR _ _⟩
 case round=>
  obtain⟨k,rfl,hk,hno,hb⟩:=hrel;have G':Hid _:=hno;clear hno;by_cases hkn:k<ws.length
  . refine BH ?_;intro x hx;have hwx:EG ws k=x.1:=ql;have Rg:=HF.o k x hx;obtain rfl:p=some (VJ g 0):=HW.o.head VH;have hat:=HW.o.below UM hb;have c0:=hat.c0 k x hx;have c1:=hat.c1 k x hx;have c2:=hat.c2 k x hx;have c3:=hat.c3 k x hx;have c4:=hat.c4 k x hx;have c5:=hat.c5 k x hx;have hlo:=Rg.lo;have hhi:=Rg.hi;obtain⟨t,l,sd,jp,st,he⟩:=vM x.1.k x.1.n Rg.kind;have e3:=(hE.below hge hb (kindOf x.1.k) t l sd jp st he.row).c3;have ft:=ZY hge hb.size;have hK:=he.lt
    have HA:Hid (TJ ws args k↔(kindOf x.1.k=3/\(args:Int)<=x.1.n)\/(jp=true/\(ws.length:Int)<x.1.n)):=by
     have hx1:TJ ws args k↔(kindOf x.1.k=3/\(args:Int)<=x.1.n)\/(jp=true/\(ws.length:Int)<x.1.n):=by unfold TJ;rw[hwx,he.arg,he.jumps]
     exact hx1
    have HS:Hid (TG ws slots k↔(Jt (kindOf x.1.k)=true/\(slots:Int)<=x.1.n)):=by
     have hx1:TG ws slots k↔(Jt (kindOf x.1.k)=true/\(slots:Int)<=x.1.n):=by unfold TG;rw[hwx,he.slot]
     exact hx1
    have HJ:Hid (kindOf x.1.k=3->jp=false):=by
     have hx1:kindOf x.1.k=3->jp=false:=λe=>by
      have hr:=he.row;rw[e]at hr
      have h2:=(Y7 hr)
      injection h2 with _ h2;injection h2 with _ h2;injection h2 with _ h2;injection h2 with h2 _;exact h2.symm
     exact hx1
    clear hx hwx Rg he hat;obtain⟨⟨xk,xn,xs,xa,xb⟩,xi⟩:=x;simp only at c0 c1 c2 c3 c4 e3 hlo hhi hK HA HS HJ;obtain⟨K,D2⟩:∃K,kindOf xk=K:=Vx;rw[D2]at c0 e3 hK HA HS HJ;clear D2
    have next:∀w',Below w.heap.size w w'->¬TJ ws args k->¬TG ws slots k->∃k':Nat,Value.int IntKind.i64 ((k:Int)+1)=VI (k':Nat)/\k'<=ws.length/\(∀j,j<k'->¬SC ws args slots j)/\Below w.heap.size w w':=by
     intro w' hb' ha hs;refine⟨k+1,Uu,VH,λj hj=>?_,hb'⟩;by_cases e:j=k
     . subst e;rintro(h|h)
       . exact ha h
       . exact hs h
     . exact G'.o j VH
    have HN:Hid _:=next;clear next;by_cases oR:K=3/\(args:Int)<=xn
    . obtain⟨h2,Ka⟩:=oR;go_wp2
      go_ret2
      exact⟨1,k,rfl,.inl ⟨k,hkn,rfl,.inl (HA.o.2 (.inl ⟨h2,Ka⟩)),G'.o,λ_=>rfl,λh=>absurd (HA.o.2 (.inl ⟨h2,Ka⟩)) h⟩,hb.alloc hb.size _⟩
    by_cases h2:K=3
    . subst h2;obtain rfl:jp=false:=HJ.o rfl;have e3':wr.cell? (VJ 0 18)=some (.bool false):=e3;have Ka:xn<(args:Int):=VH
      have HX:Hid (¬TJ ws args k):=by
       have hx1:¬TJ ws args k:=λh=>by rcases HA.o.1 h with h|h;exact oR h;cases h.1
       exact hx1
      have HY:Hid (¬TG ws slots k):=by
       have hx1:¬TG ws slots k:=λh=>by have:=(HS.o.1 h).1;cases this
       exact hx1
      clear oR e3;go_wp2_with fail;refine(NQ _ _ _ _ _ _).mono ?_;rintro e w1 ⟨rfl,hb1⟩;have hb2:=(hb.alloc hb.size _).trans (hb1.mono (by rw[ZJ];have:=hb.size;omega));clear hb1;simp only[show Jt 3=false from rfl];go_wp2
      go_roundw
      case rel=>exact HN.o _ hb2 HX.o HY.o
      case measure=>simp[intOf]<;>omega
    have t3:((K:Int)==3)=false:=Vo;clear oR HJ;by_cases hj:jp=true/\(ws.length:Int)<xn
    . obtain⟨rfl,Ka⟩:=hj;go_wp2
      go_ret2
      exact⟨1,k,rfl,.inl ⟨k,hkn,rfl,.inl (HA.o.2 (.inr ⟨by trivial,Ka⟩)),G'.o,λ_=>rfl,λh=>absurd (HA.o.2 (.inr ⟨by trivial,Ka⟩)) h⟩,hb.alloc hb.size _⟩
    have HX:Hid (¬TJ ws args k):=by
     have hx1:¬TJ ws args k:=λh=>by rcases HA.o.1 h with h|h;exact h2 h.1;exact hj h
     exact hx1
    cases jp
    all_goals
     try have hlj:xn<=(ws.length:Int):=by simp at hj;omega
     clear hj;go_wp2_with fail;refine(NQ _ _ _ _ _ _).mono ?_;rintro e w1 ⟨rfl,hb1⟩
     have hz:w1.cell? (VJ wr.heap.size 1)=some (VI xn):=by
      rw[hb1.cell (p:=(VJ wr.heap.size 1)) (by rw[ZJ];show wr.heap.size<_;omega)];simp only[World.cell?,(Z4 wr _).1];rfl
     have hb2:=(hb.alloc hb.size _).trans (hb1.mono (by rw[ZJ];have:=hb.size;omega));clear hb1;cases DM:Jt K
     . have HY:Hid (¬TG ws slots k):=by
        have hx1:¬TG ws slots k:=λh=>by have:=(HS.o.1 h).1;rw[DM]at this;cases this
        exact hx1
       go_wp2
       go_roundw
       case rel=>exact HN.o _ hb2 HX.o HY.o
       case measure=>simp[intOf]<;>omega
     . by_cases hsl:(slots:Int)<=xn
       . go_wp2
         go_ret2
         exact⟨7,k,rfl,.inl ⟨k,hkn,rfl,.inr (HS.o.2 ⟨DM,hsl⟩),G'.o,λh=>absurd h HX.o,λ_=>rfl⟩,hb2⟩
       . have HY:Hid (¬TG ws slots k):=by
          have hx1:¬TG ws slots k:=λh=>hsl (HS.o.1 h).2;exact hx1
         go_wp2
         go_roundw
         case rel=>exact HN.o _ hb2 HX.o HY.o
         case measure=>simp[intOf]<;>omega
  . obtain rfl:k=ws.length:=by omega
    go_wp2
    go_ret2
    exact⟨0,0,rfl,.inr ⟨G'.o,rfl,rfl⟩,hb⟩
structure Wk (w:World)(b:Nat)(vw:Value)(H:Nat->Nat)(Fd:Nat->Bool)(va:Value):Prop where
 lt:b<w.heap.size
 c0:w.cell? (VJ b 0)=some vw
 ch:∀i,i<40->w.cell? (VJ b (1+i))=some (.int .u32 (H i:Nat))
 cf:∀i,i<40->w.cell? (VJ b (41+i))=some (.bool (Fd i))
 ca:w.cell? (VJ b 81)=some va
 free:∀i,w.frozen? (VJ b i)=false
def Wk.same {b:Nat}{vw va:Value}{H:Nat->Nat}{Fd:Nat->Bool}(h:Wk w b vw H Fd va)(hs:w'.heap[b]?=w.heap[b]?):Wk w' b vw H Fd va:=by
 have hc:∀o,w'.cell? (VJ b o)=w.cell? (VJ b o):=λo=>Z9 hs;have hf:∀o,w'.frozen? (VJ b o)=w.frozen? (VJ b o):=λo=>Zr hs;refine⟨?_,(hc _).trans h.c0,λi hi=>(hc _).trans (h.ch i hi),λi hi=>(hc _).trans (h.cf i hi),(hc _).trans h.ca,λi=>(hf _).trans (h.free i)⟩;have:=h.lt;have hx:=Xx this;rw[hx]at hs;exact(Z5.1 hs).1
def Wk.setH {b:Nat}{vw va:Value}{H:Nat->Nat}{Fd:Nat->Bool}(h:Wk w b vw H Fd va){i:Nat}(hi:i<40)(n:Nat):Wk (w.setCell (VJ b (1+i)) (.int .u32 (n:Nat))) b vw (λk=>if k=i then n else H k) Fd va:=by
 refine⟨ako,?_,λk hk=>?_,λk hk=>?_,?_,λk=>(YK _ _ _ _).trans (h.free k)⟩
 . rw[VD PO];exact h.c0
 . by_cases e:k=i
   . subst e;rw[Vr (h.ch k hk)];simp
   . rw[VD xY,h.ch k hk];simp[e]
 . rw[VD xY];exact h.cf k hk
 . rw[VD xY];exact h.ca
def Wk.apk {b:Nat}{vw va:Value}{H:Nat->Nat}{Fd:Nat->Bool}(h:Wk w b vw H Fd va){i:Nat}(hi:i<40):Wk (w.setCell (VJ b (41+i)) (.bool true)) b vw H (OT Fd i) va:=by
 refine⟨ako,?_,λk hk=>?_,λk hk=>?_,?_,λk=>(YK _ _ _ _).trans (h.free k)⟩
 . rw[VD PO];exact h.c0
 . rw[VD xY];exact h.ch k hk
 . by_cases e:k=i
   . subst e;rw[Vr (h.cf k hk)];simp[OT]
   . rw[VD xY,h.cf k hk];simp[OT,e]
 . rw[VD xY];exact h.ca
def Wk.aon {b:Nat}{vw va:Value}{H:Nat->Nat}{Fd:Nat->Bool}(h:Wk w b vw H Fd va)(v:Value):Wk (w.setCell (VJ b 81) v) b vw H Fd v:=by
 refine⟨ako,?_,λk hk=>?_,λk hk=>?_,Vr h.ca,λk=>(YK _ _ _ _).trans (h.free k)⟩
 . rw[VD PO];exact h.c0
 . rw[VD xY];exact h.ch k hk
 . rw[VD xY];exact h.cf k hk
noncomputable def NT (ws:List (W×Nat)) (H:Nat->Nat):Nat->Nat->Bool:=λi h=>if i<ws.length then (H i).testBit h else @decide (Kn.Reach ws i h) (Classical.propDecidable _)
def P9:List (Nat×Nat)->List Value
 | []=>[]
 | x::r=>VI (x.1:Nat)::VI (x.2:Nat)::P9 r
theorem MP:∀l:List (Nat×Nat),(P9 l).length=l.length*2
 | []=>rfl
 | x::r=>by simp only[P9,ZI,MP r];omega
theorem PY:∀(l r:List (Nat×Nat)),P9 (l++r)=P9 l++P9 r
 | [],r=>rfl
 | x::l,r=>by simp only[YR,P9,PY l r]
structure Wi (w0 w:World)(ws:List (W×Nat))(vw:Value)(b:Nat)(H:Nat->Nat)(Fd:Nat->Bool)(va:Value)(A:List (Nat×Nat))(X:Nat->Nat->Prop):Prop where
 wk:Wk w b vw H Fd va
 lo:w0.heap.size<=b
 below:Below w0.heap.size w0 w
 own:w.ownsRow (b+1) 160 2 va A.length (P9 A)
 hH:∀i,i<ws.length->H i<2 ^ 17
 reach:∀i h,NT ws H i h=true->Kn.Reach ws i h
 bad:∀i,Fd i=true->∃h,Kn.Reach ws i h/\¬Ph ws i h
 inA:∀x∈A,x.1<ws.length/\x.2<=16/\(H x.1).testBit x.2=true
 gone:∀i h,i<ws.length->h<=16->X i h\/(i,h)∈A\/Gone ws (NT ws H) Fd i h
def O4 {ws:List (W×Nat)}{H:Nat->Nat}{i:Nat}(hi:i<ws.length)(h:Nat):NT ws H i h=(H i).testBit h:=by unfold NT;rw[ZU hi]
def afn {ws:List (W×Nat)}{H:Nat->Nat}{h:Nat}(hr:Kn.Reach ws ws.length h):NT ws H ws.length h=true:=by unfold NT;rw[ZX VH];simp[hr]
def KI {ws:List (W×Nat)}{H:Nat->Nat}{a k:Nat}(ha:a<ws.length):NT ws (λi=>if i=a then H a ||| 2 ^ k else H i)=Kn.mark (NT ws H) a k:=by
 funext i h;unfold Kn.mark;by_cases hi:i<ws.length
 . rw[O4 hi,O4 hi];by_cases e:i=a
   . subst e;simp only[Y6,or_bit];simp
   . rw[ZX e];simp[e]
 . have:i≠a:=by omega
   unfold NT;rw[ZX hi,ZX hi];simp[this]
variable {w0 : World}
def Wi.mono {ws:List (W×Nat)}{vw va:Value}{b:Nat}{H:Nat->Nat}{Fd:Nat->Bool}{A:List (Nat×Nat)}{X:Nat->Nat->Prop}(h:Wi w0 w ws vw b H Fd va A X)(hb:Below w.heap.size w w'):Wi w0 w' ws vw b H Fd va A X:=
 ⟨h.wk.same (hb.block b h.wk.lt),h.lo,h.below.trans (hb.mono h.below.size),own_below h.own hb,h.hH,h.reach,h.bad,h.inA,h.gone⟩
def afi {B:Nat}{e:TypeId}{size n cap:Nat}{p:Option Addr}{xs ys:List Value}(h:w.ownsRow B e size (.slice p (n+1) cap) (n+1) (xs++ys))(hx:xs.length=n*size):w.ownsRow B e size (.slice p n cap) n xs:=by
 refine⟨hx,?_⟩;rcases h.2 with⟨_,h0⟩|⟨g,cap',cur,hv,hb,hg,hn,hm,hs,ht⟩
 . omega
 . injection hv with h0 h2 h2;subst h0 h2;refine .inr ⟨g,cap,cur,rfl,hb,hg,VH,hm,hs,?_⟩;have:cur.toList.take (n*size)=(cur.toList.take ((n+1)*size)).take (n*size):=by rw[List.take_take,XT (Nat.mul_le_mul_right _ VH)]
   rw[this,ht,<- hx,List.take_left]
def akW {ws:List (W×Nat)}{vw:Value}{b:Nat}{H:Nat->Nat}{Fd:Nat->Bool}{p:Option Addr}{n cap:Nat}{A:List (Nat×Nat)}{x:Nat×Nat}(h:Wi w0 w ws vw b H Fd (.slice p (n+1) cap) (A++[x]) (λ_ _=>False))(hn:A.length=n):
 Wi w0 (w.setCell (VJ b 81) (.slice p n cap)) ws vw b H Fd (.slice p n cap) A (λi k=>i=x.1/\k=x.2):=by
 refine⟨h.wk.aon _,h.lo,h.below.setCell (by show w0.heap.size<=b;exact h.lo) _,?_,h.hH,h.reach,h.bad,λy hy=>h.inA y (Ya _ hy),λi k hi hk=>?_⟩
 . have ho:=h.own;rw[Zw,PY]at ho;simp only[List.length_singleton,hn]at ho;have hp:=afi ho (by rw[MP,hn]);rw[hn];exact hp.kept (row:=some b) afa (.inr (λe=>by have:=(hp.lt b e).1;omega))
 . rcases h.gone i k hi hk with hf|hm|hg
   . exact hf.elim
   . rcases YT.1 hm with hm|hm
     . exact .inr (.inl hm)
     . simp at hm;exact .inl ⟨by rw[<- hm],by rw[<- hm]⟩
   . exact .inr (.inr hg)
def aT {ws:List (W×Nat)}{M:Nat->Nat->Bool}{Bd:Nat->Bool}{i h a k:Nat}(hg:Gone ws M Bd i h)(hne:¬(i=a/\h=k)):Gone ws (Kn.mark M a k) Bd i h:=λhm=>by
 rcases Iw.1 hm with e|e
 . exact absurd e hne
 . exact⟨λho t ht=>Ie _ _ ((hg e).1 ho t ht),(hg e).2⟩
def aak (h:Nat)(hh:h<=16):IntKind.u32.wrap ((2:Int) ^ h)=2 ^ h:=by
 have hp:(2:Nat) ^ h<2 ^ 17:=XC VH VH;have e:((2:Int) ^ h)=((2 ^ h:Nat):Int):=by push_cast;rfl
 rw[e,XB];generalize 2 ^ h=q at *;omega
def afk {ws:List (W×Nat)}{vw va E4:Value}{b:Nat}{H:Nat->Nat}{Fd:Nat->Bool}{A:List (Nat×Nat)}{X:Nat->Nat->Prop}{a k:Nat}(h:Wi w0 w ws vw b H Fd va A X)(ha:a<ws.length)(hk:k<=16)(hr:Kn.Reach ws a k)
 (hwk:Wk w' b vw (λi=>if i=a then H a ||| 2 ^ k else H i) Fd E4) (hb:Below w0.heap.size w0 w') (hown:w'.ownsRow (b+1) 160 2 E4 (A.length+1) (P9 A++[VI (a:Nat),VI (k:Nat)])):
 Wi w0 w' ws vw b (λi=>if i=a then H a ||| 2 ^ k else H i) Fd E4 (A++[(a,k)]) X:=by
 refine⟨hwk,h.lo,hb,?_,λi hi=>?_,λi j hm=>?_,h.bad,λx hx=>?_,λi j hi hj=>?_⟩
 . rw[Zw,PY];exact hown
 . by_cases e:i=a
   . subst e;simp only[Y6];exact anx _ _ (h.hH i hi) hk
   . rw[ZX e];exact h.hH i hi
 . rw[KI ha]at hm;rcases Iw.1 hm with⟨rfl,rfl⟩|hm
   . exact hr
   . exact h.reach i j hm
 . rcases YT.1 hx with hx|hx
   . obtain⟨h1,h2,h3⟩:=h.inA x hx;refine⟨h1,h2,?_⟩;by_cases e:x.1=a
     . rw[ZU e,or_bit,<- e,h3,Bool.or_true]
     . rw[ZX e];exact h3
   . simp at hx;subst hx;refine⟨ha,hk,?_⟩;simp only[Y6,or_bit];simp
 . rw[KI ha];by_cases e:i=a/\j=k
   . exact .inr (.inl (List.mem_append_right _ (by simp[e.1,e.2])))
   . rcases h.gone i j hi hj with hx|hm|hg
     . exact .inl hx
     . exact .inr (.inl (Ya _ hm))
     . exact .inr (.inr (aT hg e))
def vT:(prog.info? 160).map (λi=>(i.zero,i.size,i.bytes))=some (some (.agg #[VI 0,VI 0]),2,16):=VE
def DI (ws:List (W×Nat))(p:Option Addr)(cap b a h:Nat)(H:Nat->Nat)(Fd:Nat->Bool)(va:Value)(A:List (Nat×Nat))(X:Nat->Nat->Prop)(w0 w:World)(hn:ws.length<=40)(ha:a<=ws.length)(hh:h<=16)(hr:Kn.Reach ws a h)(hA:A.length<=5000)
 (hi:Wi w0 w ws (.slice p ws.length cap) b H Fd va A X):
 Calls prog 80 #[VG b,VI a,VI h] w λe w'=>e=.returned (.tuple #[])/\∃(H':Nat->Nat) (E4:Value) (A':List (Nat×Nat)),Wi w0 w' ws (.slice p ws.length cap) b H' Fd E4 A' X/\
  NT ws H' a h=true/\(∀i k,NT ws H i k=true->NT ws H' i k=true)/\A'.length+2*Gv ws.length (NT ws H')<=A.length+2*Gv ws.length (NT ws H)/\
  w.heap.size<=w'.heap.size/\∀k,k<w.heap.size->k≠b->va.ownBlock≠some k->w'.heap[k]?=w.heap[k]?:=by
 have c0:=hi.wk.c0;have HI:Hid _:=hi;have HR:=UQ hr;clear hi hr;by_cases hae:a=ws.length
 . subst hae;go_enter func80,ntmps80;go_wp2
   go_quiet (fail)
   go_wp2;refine yM ?_;exact⟨rfl,H,va,A,HI.o.mono uq,afn HR.o,λ_ _ h=>h,ZN _,ZN _,λ_ _ _ _=>rfl⟩
 . have hal:a<ws.length:=by omega
   have c1:=HI.o.wk.ch a VH;have cf:=HI.o.wk.free (1+a);have te:((a:Int)==(ws.length:Int))=false:=Vo;have dE:=HI.o.hH a hal;have h2:(2:Int) ^ h % 4294967296=2 ^ h:=by have:=aak h hh;rw[XB]at this;exact this
   have Ft:bits .and .u32 (H a:Nat) ((2:Int) ^ h % 4294967296)=if (H a).testBit h=true then 2 ^ h else 0:=by rw[h2];exact Kn.u32_and (H a) h dE hh
   have tor:bits .or .u32 (H a:Nat) ((2:Int) ^ h % 4294967296)=((H a ||| 2 ^ h:Nat):Int):=by rw[h2];exact Kn.u32_or (H a) h dE hh
   have Uq:(a:Int)<40:=VH;have hpos:((2:Int) ^ h)≠0:=Int.pow_ne_zero VH;cases Kk:(H a).testBit h
   . have tb:(bits .and .u32 (H a:Nat) ((2:Int) ^ h % 4294967296) != 0)=false:=by rw[Ft,Kk];simp
     clear Ft hpos h2;go_enter func80,ntmps80;go_wp2
     go_quiet (fail)
     go_wp2
     go_region
     have R8:Wk ((w.drewN (nq+1)).setCell (VJ b (1+a)) (.int .u32 ((H a ||| 2 ^ h:Nat):Int))) b (.slice p ws.length cap) (λi=>if i=a then H a ||| 2 ^ h else H i) Fd va:=(HI.o.wk.same (w':=w.drewN (nq+1)) rfl).setH VH _;have Hm:Below w0.heap.size w0 ((w.drewN (nq+1)).setCell (VJ b (1+a)) (.int .u32 ((H a ||| 2 ^ h:Nat):Int))):=(HI.o.below.drewN' _).setCell (by show w0.heap.size<=b;exact HI.o.lo) _
     have hown1:((w.drewN (nq+1)).setCell (VJ b (1+a)) (.int .u32 ((H a ||| 2 ^ h:Nat):Int))).ownsRow (b+1) 160 2 va A.length (P9 A):=
      HI.o.own.kept (row:=some b) afa (.inr (λe=>by have:=(HI.o.own.lt b e).1;omega))
     have CL:∀k,k≠b->((w.drewN (nq+1)).setCell (VJ b (1+a)) (.int .u32 ((H a ||| 2 ^ h:Nat):Int))).heap[k]?=w.heap[k]?:=λk hk=>ZW _ _ _ _ hk;have hsz1:w.heap.size<=((w.drewN (nq+1)).setCell (VJ b (1+a)) (.int .u32 ((H a ||| 2 ^ h:Nat):Int))).heap.size:=zb4;revert R8 Hm hown1 CL hsz1;generalize (w.drewN (nq+1)).setCell (VJ b (1+a)) (.int .u32 ((H a ||| 2 ^ h:Nat):Int))=W1;intro R8 Hm hown1 CL hsz1;have ca:=R8.ca;have hbW:=R8.lt;have hnews:=Us W1 [VI (a:Nat),VI (h:Nat)] 160;have HFR:Hid _:=CL;clear CL;have vu:Hid _:=R8;clear R8 c0 c1 cf tor tb;obtain⟨i0,hi0,hz0,hz1,hz2⟩:=YQ vT
     go_wp2_with first
      | (at_builtin;refine wpList_append_own_at _ rfl _ _ 155 rfl (b+1) 160 i0 (.agg #[VI 0,VI 0]) 2 16 underlying155 hi0 hz0 hz1 hz2 rfl Vz _ _ _ rfl (hown1.alloc _) (VJ W1.heap.size 0) 1 1 [VI (a:Nat),VI (h:Nat)] rfl rfl hnews vH SE VH Ey ?_)
      | fail
     intro v2 W2 hown2 hg2 _ _;have hne:some b≠va.ownBlock:=λe=>by have:=(hown1.lt b e.symm).1;omega
     have R8:=vu.o.same (by
      rw[hg2.block b Ey hne]
      exact ZV W1 _ b hbW)
     have Hm:=Tc Hm UM (Lm hown1 (by have:=HI.o.lo;omega)) hg2;obtain⟨q,c0,rfl⟩:=Rn hown2;have ca:=R8.ca;have fa:=R8.free 81;have gP:Hid _:=R8
     have QP:Hid (∀k,k<w.heap.size->k≠b->va.ownBlock≠some k->W2.heap[k]?=w.heap[k]?):=by
      have hx1:∀k,k<w.heap.size->k≠b->va.ownBlock≠some k->W2.heap[k]?=w.heap[k]?:=λk hk hkb wn=>by
       rw[hg2.block k Ey (λe=>wn e.symm),ZV W1 _ k VH];exact HFR.o k hkb
      exact hx1
     have hsz1:w.heap.size<=W2.heap.size:=anV;clear R8 hg2 hnews;go_wp2
     go_end0
     refine⟨rfl,_,_,_,afk HI.o hal hh HR.o (gP.o.aon _) (Hm.setCell (by show w0.heap.size<=b;exact HI.o.lo) _) ?_,?_,?_,?_,by simpa[World.setCell]using hsz1,λk hk hkb wn=>(ZW _ _ _ _ hkb).trans (QP.o k hk hkb wn)⟩
     . exact hown2.kept (row:=some b) afa (.inr (λe=>by have:=(hown2.lt b e).1;omega))
     . rw[KI hal];exact Kn.J3 _ _ _
     . intro i k hm;rw[KI hal];exact Ie _ _ hm
     . rw[KI hal,Zw];have hm:NT ws H a h=false:=by rw[O4 hal];exact Kk
       have:=Bl (n:=ws.length) (by omega:a<=ws.length) hh hm;simp only[List.length_singleton];omega
   . have tb:(bits .and .u32 (H a:Nat) ((2:Int) ^ h % 4294967296) != 0)=true:=by rw[Ft,Kk];simpa using hpos
     clear Ft hpos h2;go_enter func80,ntmps80;go_wp2
     go_quiet (fail)
     go_wp2;refine yM ?_;exact⟨rfl,H,va,A,HI.o.mono uq,by rw[O4 hal];exact Kk,λ_ _ h=>h,ZN _,ZN _,λ_ _ _ _=>rfl⟩
structure qI (w:World)(F Z:Nat)(a h K:Nat)(n:Int)(s2 s3 s4:ByteArray):Prop where
 flt:F<w.heap.size
 oq:Z<w.heap.size
 f0:w.cell? (VJ F 0)=some (VI (a:Nat))
 f1:w.cell? (VJ F 1)=some (VI (h:Nat))
 z0:w.cell? (VJ Z 0)=some (VI (K:Nat))
 z1:w.cell? (VJ Z 1)=some (VI n)
 z2:w.cell? (VJ Z 2)=some (.string s2)
 z3:w.cell? (VJ Z 3)=some (.string s3)
 z4:w.cell? (VJ Z 4)=some (.string s4)
 z5:w.cell? (VJ Z 5)=some (.pointer none)
def qI.same {F Z a h K:Nat}{n:Int}{s2 s3 s4:ByteArray}(hs:qI w F Z a h K n s2 s3 s4)(hF:w'.heap[F]?=w.heap[F]?)(hZ:w'.heap[Z]?=w.heap[Z]?)(hsz:w.heap.size<=w'.heap.size):qI w' F Z a h K n s2 s3 s4:=
 ⟨ZY hs.flt hsz, ZY hs.oq hsz, (Z9 hF).trans hs.f0, (Z9 hF).trans hs.f1, (Z9 hZ).trans hs.z0, (Z9 hZ).trans hs.z1,
  (Z9 hZ).trans hs.z2,(Z9 hZ).trans hs.z3,(Z9 hZ).trans hs.z4,(Z9 hZ).trans hs.z5⟩
def qI.below {F Z a h K:Nat}{n:Int}{s2 s3 s4:ByteArray}(hs:qI w F Z a h K n s2 s3 s4)(hb:Below w.heap.size w w'):qI w' F Z a h K n s2 s3 s4:=hs.same (hb.block F hs.flt) (hb.block Z hs.oq) hb.size
def ab8 (w:World)(a h K:Nat)(n:Int)(s2 s3 s4:ByteArray)(t1 t2:TypeId):qI ((w.alloc (.cells #[VI (a:Nat),VI (h:Nat)] t1)).alloc (.cells #[VI (K:Nat),VI n,.string s2,.string s3,.string s4,.pointer none] t2)) w.heap.size (w.heap.size+1) a h K n s2 s3 s4:=by
 have h1:=(Z4 w (.cells #[VI (a:Nat),VI (h:Nat)] t1)).1;have h2:=(Z4 (w.alloc (.cells #[VI (a:Nat),VI (h:Nat)] t1)) (.cells #[VI (K:Nat),VI n,.string s2,.string s3,.string s4,.pointer none] t2)).1;rw[ZJ]at h2;have h1:=(ZV (w.alloc (.cells #[VI (a:Nat),VI (h:Nat)] t1)) (.cells #[VI (K:Nat),VI n,.string s2,.string s3,.string s4,.pointer none] t2) w.heap.size Vy).trans h1;refine⟨Vo,Vy,?_,?_,?_,?_,?_,?_,?_,?_⟩
 all_goals (simp only[World.cell?,h2,h1];rfl)
def Eo {ws:List (W×Nat)}{vw va:Value}{b a k:Nat}{H:Nat->Nat}{Fd:Nat->Bool}{A:List (Nat×Nat)}(h:Wi w0 w ws vw b H Fd va A (λi j=>i=a/\j=k))(hok:Ph ws a k)(ht:∀t∈tg ws a,NT ws H t (nx ws a k)=true):Wi w0 w ws vw b H Fd va A (λ_ _=>False):=
 ⟨h.wk,h.lo,h.below,h.own,h.hH,h.reach,h.bad,h.inA,λi j hi hj=>by
  rcases h.gone i j hi hj with⟨rfl,rfl⟩|hm|hg
  . exact .inr (.inr λ_=>⟨λ_ t htg=>ht t htg,λho=>absurd hok ho⟩)
  . exact .inr (.inl hm)
  . exact .inr (.inr hg)⟩
def ak4 {ws:List (W×Nat)}{vw va:Value}{b a k:Nat}{H:Nat->Nat}{Fd:Nat->Bool}{A:List (Nat×Nat)}(h:Wi w0 w ws vw b H Fd va A (λi j=>i=a/\j=k))(ha:a<40)(hr:Kn.Reach ws a k)(ho:¬Ph ws a k):Wi w0 (w.setCell (VJ b (41+a)) (.bool true)) ws vw b H (OT Fd a) va A (λ_ _=>False):=
 ⟨h.wk.apk ha, h.lo, h.below.setCell (by show w0.heap.size <= b; exact h.lo) _,
  h.own.kept (row:=some b) afa (.inr (λe=>by have:=(h.own.lt b e).1;omega)),
  h.hH,h.reach,λi hi=>by
   by_cases e:i=a
   . subst e;exact⟨k,hr,ho⟩
   . simp[OT,e]at hi
     exact h.bad i hi,h.inA,λi j hi hj=>by
   rcases h.gone i j hi hj with⟨rfl,rfl⟩|hm|hg
   . exact .inr (.inr λ_=>⟨λh'=>absurd h' ho,λ_=>by simp[OT]⟩)
   . exact .inr (.inl hm)
   . exact .inr (.inr (qV hg))⟩
def GN (ws:List (W×Nat))(p:Option Addr)(cap b a h:Nat)(x:Int)(H:Nat->Nat)(Fd:Nat->Bool)(va:Value)(A:List (Nat×Nat))(X:Nat->Nat->Prop)(w0 w:World)(hx:x=(a:Int))(hn:ws.length<=40)(ha:a<=ws.length)(hh:h<=16)(hr:Kn.Reach ws a h)(hA:A.length<=5000)
 (hi:Wi w0 w ws (.slice p ws.length cap) b H Fd va A X):
 Calls prog 80 #[VG b,VI x,VI h] w λe w'=>e=.returned (.tuple #[])/\∃(H':Nat->Nat) (E4:Value) (A':List (Nat×Nat)),Wi w0 w' ws (.slice p ws.length cap) b H' Fd E4 A' X/\
  NT ws H' a h=true/\(∀i k,NT ws H i k=true->NT ws H' i k=true)/\A'.length+2*Gv ws.length (NT ws H')<=A.length+2*Gv ws.length (NT ws H)/\
  w.heap.size<=w'.heap.size/\∀k,k<w.heap.size->k≠b->va.ownBlock≠some k->w'.heap[k]?=w.heap[k]?:=by
 subst hx;exact DI ws p cap b a h H Fd va A X w0 w hn ha hh hr hA hi
def su.drew {k t l:Nat}{sd jp st:Bool}(h:su w k t l sd jp st):su w.drew k t l sd jp st:=⟨h.c0,h.c1,h.c2,h.c3,h.c4⟩
def RH (h:Below w.drew.heap.size w.drew w'):Below w.heap.size w w':=⟨h.os,h.tape,h.output,h.size,h.block⟩
def ad2 (ws:List (W×Nat))(p:Option Addr)(g cap b a h:Nat)(H:Nat->Nat)(Fd:Nat->Bool)(va:Value)(A:List (Nat×Nat))(w0 w:World)(hn:ws.length<=40)(ha:a<ws.length)(hh:h<=16)(Kk:(H a).testBit h=true)(hA:A.length+2*Gv ws.length (NT ws H)<=5000)
 (hw:KAt w0 p g ws) (hf:∀(i:Nat) (x:W×Nat),ws[i]?=some x->Fine x.1 ws.length) (hge:0<w0.heap.size) (hE:Qc w0)
 (hi:Wi w0 w ws (.slice p ws.length cap) b H Fd va A (λi k=>i=a/\k=h)):
 Calls prog 81 #[VG b,.agg #[VI a,VI h]] w λe w'=>e=.returned (.tuple #[])/\∃(H':Nat->Nat) (Fd':Nat->Bool) (E4:Value) (A':List (Nat×Nat)),Wi w0 w' ws (.slice p ws.length cap) b H' Fd' E4 A' (λ_ _=>False)/\
  (∀i k,NT ws H i k=true->NT ws H' i k=true)/\A'.length+2*Gv ws.length (NT ws H')<=A.length+2*Gv ws.length (NT ws H):=by
 obtain⟨x,hx⟩:∃x,ws[a]?=some x:=⟨_,Z8 ha⟩
 have hwx:EG ws a=x.1:=ql;have Rg:=hf a x hx;obtain rfl:p=some (VJ g 0):=hw.head VH;have hat:=hw.below UM hi.below;have hgl:=ZY (hw.lt VH) hi.below.size;have d0:=hat.c0 a x hx;have d1:=hat.c1 a x hx;have d2:=hat.c2 a x hx;have d3:=hat.c3 a x hx;have d4:=hat.c4 a x hx;have d5:=hat.c5 a x hx;have c0:=hi.wk.c0;have hbl:=hi.wk.lt;have hlo:=Rg.lo;have hhi:=Rg.hi;obtain⟨t,l,sd,jp,st,he⟩:=vM x.1.k x.1.n Rg.kind;have Ck:Hid _:=he;have NE:Hid _:=Rg;have HX:Hid _:=hwx;have HI:Hid _:=hi;have oE:=UQ hE;have hkk:=he.lt;have ht2:=he.ht;have hl2:=he.hl;clear hx hwx Rg he hat hw hf hi hE;obtain⟨⟨xk,xn,xs,xa,xb⟩,xi⟩:=x;simp only at d0 d1 d2 d3 d4 hlo hhi hkk Ck NE HX;obtain⟨kk,D2⟩:∃kk,kindOf xk=kk:=Vx
 have pZ:Hid (Jl[kk]?=some (t,l,sd,jp,st)):=by
  have hx1:Jl[kk]?=some (t,l,sd,jp,st):=by rw[<- D2];exact Ck.o.row
  exact hx1
 rw[D2]at d0 hkk;clear D2;have hKi:(kk:Int)<23:=VH;go_enter func81,ntmps81;go_wp2
 go_region
 have hsp:qI ((w.alloc (.cells #[VI (a:Nat),VI (h:Nat)] 160)).alloc (.cells #[VI (kk:Nat),VI xn,.string (VF xa),.string (VF xs),.string (VF xb),.pointer none] 146)).drew w.heap.size (w.heap.size+1) a h kk xn (VF xa) (VF xs) (VF xb):=(ab8 w a h kk xn (VF xa) (VF xs) (VF xb) _ _).same rfl rfl UM;have hw1:Below w.heap.size w ((w.alloc (.cells #[VI (a:Nat),VI (h:Nat)] 160)).alloc (.cells #[VI (kk:Nat),VI xn,.string (VF xa),.string (VF xs),.string (VF xb),.pointer none] 146)).drew:=(((ZR _ _).alloc UM _).alloc Vy _).drew;revert hsp hw1;generalize ((w.alloc (.cells #[VI (a:Nat),VI (h:Nat)] 160)).alloc (.cells #[VI (kk:Nat),VI xn,.string (VF xa),.string (VF xs),.string (VF xb),.pointer none] 146)).drew=W1;intro hsp hw1;have hi1:=UQ (HI.o.mono hw1)
 have pL:Hid (va.ownBlock≠some w.heap.size/\va.ownBlock≠some (w.heap.size+1)):=by
  have hx1:va.ownBlock≠some w.heap.size/\va.ownBlock≠some (w.heap.size+1):=⟨λe=>by have:=(HI.o.own.lt _ e).2;omega,λe=>by have:=(HI.o.own.lt _ e).2;omega⟩
  exact hx1
 have me:b≠w.heap.size:=VH;have nA:b≠w.heap.size+1:=VH;clear d0 d1 d2 d3 d4 d5 c0 hbl hgl hw1;clear HI;revert hsp pL me nA;generalize w.heap.size+1=Z;generalize w.heap.size=F;intro hsp pL me nA;have Cw:Hid _:=hsp;clear hsp;have dg:=(oE.o.below hge hi1.o.below) kk t l sd jp st pZ.o;have JS:Hid _:=dg;have z6:=ZY hge hi1.o.below.size;clear dg
 obtain⟨tn,htn⟩:∃tn:Nat,Ia t sd xn=(tn:Int):=by
  have:=(I7 NE.o).1;simp only at this;rw[Ck.o.takes]at this;exact⟨_,(Int.toNat_of_nonneg this).symm⟩
 have br:tn<=4:=by
  have:=(I7 NE.o).2.1;simp only at this;rw[Ck.o.takes,htn]at this;omega
 have gT:Hid _:=htn;clear htn;have f1:=Cw.o.f1;have z0:=Cw.o.z0;have z1:=Cw.o.z1;have z2:=Cw.o.z2;have z3:=Cw.o.z3;have z4:=Cw.o.z4;have z5:=Cw.o.z5;have e1:=JS.o.c1;go_wp2_with fail;refine afJ ?_;intro hHeld;refine Ep ?_;refine Uh 2 ?_;refine agh ?_;refine Uh 8 ?_;refine Ur 9 ?_;refine Ul 3 λY_ Z_=>?_;go_simp;refine(Dz kk t l sd jp st xn _ _ _ _ hkk ht2 hlo hhi (show 0<W1.drew.heap.size from z6) JS.o.drew).mono ?_;rintro e W2 ⟨rfl,hb⟩;rw[gT.o];have hb2:=RH hb;have PT:=UQ (Cw.o.below hb2);have hi2:=UQ (hi1.o.mono hb2);have m9:=UQ ((oE.o.below hge hi2.o.below) kk t l sd jp st pZ.o);have tv:=ZY z6 hb2.size;clear f1 z0 z1 z2 z3 z4 z5 e1 hb hb2;have f1:=PT.o.f1;have z0:=PT.o.z0;have z1:=PT.o.z1;have z2:=PT.o.z2;have z3:=PT.o.z3;have z4:=PT.o.z4;have z5:=PT.o.z5;have e1:=m9.o.c1
 try go_wp2_with fail
 refine Z_.go λhHeld=>?_;clear Z_ Y_
 try refine UE ?_
 refine Uh 4 ?_;refine Uh 10 ?_;refine Ur 11 ?_;refine Nr ?_;have un:IntKind.i64.wrap ((h:Int)-(tn:Int))=(h:Int)-tn:=Ar;have Dr:IntKind.i64.wrap ((h:Int)-(tn:Int)+(l:Int))=(h:Int)-tn+l:=Ar;simp only[un,Dr];clear un Dr hi1 Cw JS z6 hHeld;clear hHeld
 have Fi:Hid (tk ws a=tn/\ly ws a=l/\tg ws a=((if st then [] else [(a:Int)+1])++(if jp then [xn] else [])).map Int.toNat):=by
  have hx1:tk ws a=tn/\ly ws a=l/\tg ws a=((if st then [] else [(a:Int)+1])++(if jp then [xn] else [])).map Int.toNat:=by
   unfold tk ly tg;rw[HX.o];simp only;rw[Ck.o.takes,Ck.o.lays,Ck.o.goes,gT.o];exact⟨Zp _,Zp _,rfl⟩
  exact hx1
 have hm1:NT ws H a h=true:=by rw[O4 ha];exact Kk
 have HM:Hid _:=hm1;clear hm1;by_cases hok:tn<=h/\h-tn+l<=16
 . obtain⟨Ab,i_⟩:=hok
   obtain⟨m,hm⟩:∃m:Nat,(h:Int)-(tn:Int)+(l:Int)=(m:Int):=⟨h-tn+l,VH⟩
   have hm1:m<=16:=VH
   have HO:Hid (Ph ws a h/\nx ws a h=m):=by
    have hx1:Ph ws a h/\nx ws a h=m:=by
     exact ag7
    exact hx1
   rw[hm];have t1:decide (h<tn)=false:=Vo;have t2:decide (16<m)=false:=Vo;clear hm Ab i_;have HR:=UQ (hi2.o.reach _ _ HM.o);go_wp2_with fail;refine afJ ?_;intro hHeld;refine Ep ?_;refine akr ?_;intro Y_ Z_ W3 hb hb2 Vv hi1 JS;clear f1 z0 z1 z2 z3 z4 z5 e1 hb hb2;refine acg ?_;intro f1 z0 z1 z2 z3 z4 z5 e1
   try go_wp2_with fail
   refine Z_.go λhHeld=>?_;clear Z_ Y_
   try refine UE ?_
   refine Uh 4 ?_;refine Ur 5 ?_
   try simp only[t1]
   refine Uh 6 ?_;refine Ur 7 ?_
   try simp only[t2]
   refine Ur 8 ?_;refine Nr ?_;clear hHeld;clear hHeld;have e3:=JS.o.c3;have f0:=Vv.o.f0
   have hpos:∀q:Nat,q∈tg ws a->Kn.Reach ws q m:=λq hq=>by
    have:=I5 ha HR.o HO.o.1 hq;rw[HO.o.2]at this;exact this
   have HP:Hid _:=hpos;clear hpos m9 PT hi2 tv;have qv:A.length<=5000:=VH;cases jp
   . cases st
     . have e4:=JS.o.c4
       have x8:Hid (tg ws a=[a+1]):=by
        have hx1:tg ws a=[a+1]:=by rw[Fi.o.2.2];simp
        exact hx1
       go_wp2_with fail;refine(GN ws _ cap b (a+1) m _ H Fd va A _ w0 W3 VH hn VH hm1 akX qv hi1.o).mono ?_;rintro e W4 ⟨rfl,H4,oB,A4,Lv,hmk,hmono,R2,_,_⟩;go_wp2
       go_end0
       exact⟨rfl,H4,Fd,oB,A4,Eo Lv HO.o.1 (λt ht=>by rw[x8.o]at ht;simp at ht;subst ht;rw[HO.o.2];exact hmk),hmono,R2⟩
     . have e4:=JS.o.c4
       have x8:Hid (tg ws a=[]):=by
        have hx1:tg ws a=[]:=by rw[Fi.o.2.2];simp
        exact hx1
       go_wp2
       go_end0
       exact⟨rfl,H,Fd,va,A,Eo hi1.o HO.o.1 (λt ht=>by rw[x8.o]at ht;cases ht),λ_ _ h=>h,ZN _⟩
   . have hgo:=NE.o.goto (Ck.o.jumps.1 rfl);simp only at hgo;obtain⟨q,rfl⟩:=YP hgo.1;have FL:q<=ws.length:=VH;clear hgo
     have x8:Hid (tg ws a=(if st then [] else [a+1])++[q]):=by
      have hx1:tg ws a=(if st then [] else [a+1])++[q]:=by rw[Fi.o.2.2];cases st<;>simp<;>omega
      exact hx1
     go_wp2_with fail;refine(GN ws _ cap b q m _ H Fd va A _ w0 W3 rfl hn FL hm1 akX qv hi1.o).mono ?_;rintro e W4 ⟨rfl,H4,oB,A4,Lv,hmk,hmono,R2,hsz,hfr⟩;have t8:=UQ (Vv.o.same (hfr F Vv.o.flt (VL me) pL.o.1) (hfr Z Vv.o.oq (VL nA) pL.o.2) hsz);have ki:Hid _:=Lv;have cw:=UQ ((oE.o.below hge ki.o.below) kk t l sd true st pZ.o)
     have D0:Hid (NT ws H4 q m=true/\(∀i k,NT ws H i k=true->NT ws H4 i k=true)/\A4.length+2*Gv ws.length (NT ws H4)<=A.length+2*Gv ws.length (NT ws H)):=⟨hmk,hmono,R2⟩
     have qv:A4.length<=5000:=VH;clear f1 z0 z1 z2 z3 z4 z5 e1 e3 f0 hfr Lv hmk hmono R2;have z0:=t8.o.z0;have f0:=t8.o.f0;have e4:=cw.o.c4;cases st
     . go_wp2_with fail;refine(GN ws _ cap b (a+1) m _ H4 Fd oB A4 _ w0 W4 VH hn VH hm1 akX qv ki.o).mono ?_;rintro e W5 ⟨rfl,H5,va5,A5,Lv,hmk,hmono,R2,_,_⟩;go_wp2
       go_end0
       refine⟨rfl,H5,Fd,va5,A5,Eo Lv HO.o.1 (λt ht=>?_),λi k hik=>hmono i k (D0.o.2.1 i k hik),ZC R2 D0.o.2.2⟩;rw[x8.o]at ht;simp at ht;rw[HO.o.2];rcases ht with rfl|rfl
       . exact hmk
       . exact hmono _ _ D0.o.1
     . go_wp2
       go_end0
       refine⟨rfl,H4,Fd,oB,A4,Eo ki.o HO.o.1 (λt ht=>?_),D0.o.2.1,D0.o.2.2⟩;rw[x8.o]at ht;simp at ht;subst ht;rw[HO.o.2];exact D0.o.1
 . have HO:Hid (¬Ph ws a h):=by
    have hx1:¬Ph ws a h:=an1;exact hx1
   have HR:=UQ (hi2.o.reach _ _ HM.o);have Uq:(a:Int)<40:=VH;by_cases hlt:h<tn
   . have t1:decide (h<tn)=true:=by simp;omega
     clear hok;go_wp2_with fail;refine afJ ?_;intro hHeld;refine Ep ?_;refine akr ?_;intro Y_ Z_ W3 hb hb2 Vv hi1 JS;clear f1 z0 z1 z2 z3 z4 z5 e1 hb hb2;refine acg ?_;intro f1 z0 z1 z2 z3 z4 z5 e1
     try go_wp2_with fail
     refine Z_.go λhHeld=>?_;clear Z_ Y_
     try refine UE ?_
     refine Uh 4 ?_;refine Ur 5 ?_
     try simp only[t1]
     refine Ze (i:=6) (oi:=_) (v:=_) rfl VE VE VE Nh Gu Ox ?_;refine MC ?_;refine Ze (i:=7) (oi:=_) (v:=_) rfl VE VE VE Nh Gu Ox ?_;refine MC ?_;refine Ur 8 ?_;refine Nr ?_;clear hHeld;clear hHeld;have f0:=Vv.o.f0;have k1:=hi1.o.wk.cf a VH;have k2:=hi1.o.wk.free (41+a);go_wp2_with fail
     go_region
     exact anT
   . obtain⟨m,hm⟩:∃m:Nat,(h:Int)-(tn:Int)+(l:Int)=(m:Int):=⟨h-tn+l,VH⟩
     rw[hm];have t1:decide (h<tn)=false:=Vo;have t2:decide (16<m)=true:=Vo;have t3:16<m:=VH;clear hok hm hlt;go_wp2_with fail;refine afJ ?_;intro hHeld;refine Ep ?_;refine akr ?_;intro Y_ Z_ W3 hb hb2 Vv hi1 JS;clear f1 z0 z1 z2 z3 z4 z5 e1 hb hb2;refine acg ?_;intro f1 z0 z1 z2 z3 z4 z5 e1
     try go_wp2_with fail
     refine Z_.go λhHeld=>?_;clear Z_ Y_
     try refine UE ?_
     refine Uh 4 ?_;refine Ur 5 ?_
     try simp only[t1]
     refine Uh 6 ?_;refine Ur 7 ?_
     try simp only[t2]
     refine Ur 8 ?_;refine Nr ?_;clear hHeld;clear hHeld;have f0:=Vv.o.f0;have k1:=hi1.o.wk.cf a VH;have k2:=hi1.o.wk.free (41+a);go_wp2_with fail
     go_region
     exact anT
end Go.Proofs.Rz
