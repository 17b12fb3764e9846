import Derived.BigRegion
import Derived.Deep.WholeRow
import Derived.Test.YtkghmgoefiepeaaGreatDoorProg
import Derived.OpenShut
import Derived.Laws.CopyRow
import Derived.Test.YtkghmgoefiepeaaGreatDoorC
import Derived.Test.YtkghmgoefiepeaaGreatDoorD
set_option linter.unusedSimpArgs false
set_option linter.unusedVariables false
set_option maxHeartbeats 4000000
set_option maxRecDepth 100000
namespace Go.Proofs.Rz
open ChangeShapes WideShapes ChangeAt RowKit Kn Tryz
theorem aaf:(prog.info? 188).map (λi=>(i.zero,i.size,i.bytes))=some (some (.agg #[.int .u8 0,VI 0,.string ⟨#[]⟩,.string ⟨#[]⟩,.string ⟨#[]⟩,VI 0]),6,72):=VE
variable {w : World}
theorem Rn {B:Nat}{e:TypeId}{size n:Nat}{v:Value}{xs:List Value}(h:w.ownsRow B e size v n xs):∃p cap,v=.slice p n cap:=by
 rcases h.2 with⟨rfl,rfl⟩|⟨g,cap,cur,rfl,_⟩
 . exact⟨none,0,rfl⟩
 . exact⟨_,_,rfl⟩
variable {w' : World}
theorem below_grown (h:Below w.heap.size w w')(row:Option Nat):w.grownBy w' row:=⟨h.os,h.tape,h.output,h.size,λk hk _=>h.block k hk⟩
theorem own_below {B:Nat}{e:TypeId}{size n:Nat}{v:Value}{xs:List Value}(h:w.ownsRow B e size v n xs)(hb:Below w.heap.size w w'):w'.ownsRow B e size v n xs:=
 h.kept (below_grown hb none) (by cases v.ownBlock<;>simp)
theorem lD (p:W×Nat):∀u∈QN p,u.oneCell'=true:=by
 intro u hu;simp only[QN,ZM,Zx,YE]at hu;rcases hu with rfl|rfl|rfl|rfl|rfl|rfl<;>rfl
theorem laid2 (w1:World)(x:W)(j:Nat)(t:TypeId):∀i u,(QN (x,j))[i]?=some u->
 ((w1.alloc (.cells #[.int .u8 x.k,VI x.n,.string (VF x.sel),.string (VF x.a),.string (VF x.b),VI (j:Nat)] t)).alloc (.cells #[.int .u8 x.k,VI x.n,.string (VF x.sel),.string (VF x.a),.string (VF x.b),VI (j:Nat)] t)).cell? ((VJ (w1.heap.size+1) 0).add i)=some u:=by
 have h:=Us (w1.alloc (.cells #[.int .u8 x.k,VI x.n,.string (VF x.sel),.string (VF x.a),.string (VF x.b),VI (j:Nat)] t)) (QN (x,j)) t;rw[ZJ]at h;exact h
theorem oC (s:ByteArray)(w:World)(hs:120<s.size)(hm:s.size<=maxLen):
 Calls prog 99 #[.string s] w λe w'=>e=.returned (.tuple #[.slice none 0 0,VI 0])/\w'=w:=by
 unfold maxLen at hm;go_enter func99,ntmps99;go_wp2
 go_ret2
 exact KP
theorem dW (s:ByteArray)(w:World)(hs:s.size<=120):
 Calls prog 99 #[.string s] w λe w'=>∃v:Value,e=.returned (.tuple #[v,VI (Vh (bl s)).2])/\
  ((Vh (bl s)).2=-1->w'.ownsRow w.heap.size 188 6 v (Vh (bl s)).1.length (PU (Vh (bl s)).1))/\Below w.heap.size w w':=by
 obtain⟨i0,hi,hz0,hz1,hz2⟩:=YQ aaf;go_enter func99,ntmps99;go_wp2
 go_loopw [4,5] (λv i wr=>∃(j:Nat) (acc:List (W×Nat)),i=VI j/\j<=s.size/\Ro (bl s) j acc/\wr.ownsRow w.heap.size 188 6 v acc.length (PU acc)/\Below w.heap.size w wr)
  (λ_ i _=>s.size-(intOf i).toNat)
 case atStart=>exact⟨0,[],rfl,VH,Jr _,YW _ _ _ _,ZR _ _⟩
 case round=>
  obtain⟨j,acc,rfl,hj,hwt,hown,hb⟩:=hrel;have HW:=UQ hwt;have hal:=hwt.2.2;clear hwt;by_cases hlt:j<s.size
  . have hg:=Qw s j hlt;by_cases C':s[j].toNat=32
    . have t32:((s[j].toNat:Int)==32)=true:=by simp;omega
      have HB:Hid ((bl s)[j]?.getD 0=32):=by
       have hx:(bl s)[j]?.getD 0=32:=an6;exact hx
      clear hg C';go_wp2
      go_roundw
      case rel=>exact⟨j+1,acc,Uu,VH,Jy HW.o Hz HB.o,hown,hb⟩
      case measure=>simp[intOf]<;>omega
    . have t32:((s[j].toNat:Int)==32)=false:=by simp;omega
      have HB:Hid (¬(bl s)[j]?.getD 0=32):=by
       exact ajg
      clear hg C';go_wp2
      go_loop [6] (λk=>∃q:Nat,k=VI q/\j<=q/\q<=s.size/\∀a,j<=a->a<q->¬(bl s)[a]?.getD 0=32) (λk=>s.size-(intOf k).toNat)
      case atStart=>exact⟨j,rfl,VH,VH,λa h1 h2=>VH⟩
      case round=>
       obtain⟨q,rfl,pD,hq,hin⟩:=hrel;have HI:Hid _:=hin;clear hin;by_cases LI:∃h:q<s.size,¬s[q].toNat=32
       . obtain⟨UX,DA⟩:=LI;have em:=Qw s q UX
         have HQ:Hid (¬(bl s)[q]?.getD 0=32):=by
          have hx:¬(bl s)[q]?.getD 0=32:=by rw[em];intro e;exact DA Sv
          exact hx
         have tq:((s[q].toNat:Int)==32)=false:=Vo;have tq2:((s[q].toNat:Int) != 32)=true:=Vo;clear em DA;go_wp2
         go_round
         case rel=>
          refine⟨q+1,Uu,VH,VH,λa h1 h2=>?_⟩;by_cases e:a=q
          . subst e;exact HQ.o
          . exact HI.o a h1 VH
         case measure=>simp[intOf]<;>omega
       . have As:tok (bl s) j=((bl s).take q).drop j/\j+(tok (bl s) j).length=q:=by
          refine akG (bl s) j q pD (by rw[VB];exact hq) HI.o ?_;by_cases UX:q<s.size
          . right
            have:s[q].toNat=32:=by
             by_cases h:s[q].toNat=32
             . exact h
             . exact absurd ⟨UX,h⟩ LI
            rw[Qw s q UX];exact Zj.1 (by rw[this];rfl)
          . left;rw[VB];omega
         have aL:j<q:=by
          have:=Ec (bl s) j Hz HB.o;omega
         have HT:Hid (tok (bl s) j=bl (s.extract j q)/\j+(tok (bl s) j).length=q):=by
          have hx:tok (bl s) j=bl (s.extract j q)/\j+(tok (bl s) j).length=q:=⟨by rw[Gj,NV];exact As.1,As.2⟩
          exact hx
         have hxs:(s.extract j q).size<=120:=Vo;have hx1:1<=(s.extract j q).size:=Vo
         have tL:(∃h:q<s.size,s[q].toNat=32)\/q=s.size:=by
          by_cases UX:q<s.size
          . left
            exact⟨UX,by
             by_cases h:s[q].toNat=32
             . exact h
             . exact absurd ⟨UX,h⟩ LI⟩
          . right;omega
         clear As LI;rcases tL with⟨UX,DA⟩|GE
         rotate_left
         have tq2:¬q<s.size:=VH;clear GE;go_wp2_with fail
         rotate_left
         clear DA;go_wp2_with fail
         all_goals
          refine(abw (s.extract j q) _ hxs hx1).mono ?_;rintro e w1 ⟨⟨x,rfl,hxy⟩,hb1⟩;have hrd:rd (tok (bl s) j)=rd (bl (s.extract j q)):=by rw[HT.o.1]
          have hown1:=own_below hown hb1;have L_:=hb.trans (hb1.mono hb.size);have hsz:=hb1.size;have hsz0:=hb.size;obtain⟨pv,cap,rfl⟩:=Rn hown;simp only[Tm]
          cases hr:rd (bl (s.extract j q)) with
          | none=>
           have HZ:=UQ (KO HW.o Hz HB.o (by rw[hrd];exact hr));simp only[XV];clear hr hrd hxy hown;go_wp2
           go_ret2
           exact ahD
          | some y=>
           obtain rfl:=hxy y hr;have HR:=UQ (hrd.trans hr);simp only[WG];clear hr hrd hxy hown;by_cases Uq:acc.length=40
           . have HZ:=UQ (IG HW.o Hz HB.o Uq);have t32:((acc.length:Int)==40)=true:=Vo;clear Uq;go_wp2
             go_ret2
             exact ahD
           . have t32:((acc.length:Int)==40)=false:=by simp;omega
             have hnews:=laid2 w1 x j 188
             go_wp2_with (first
              | (at_builtin;refine Wx _ rfl _ _ 178 rfl w.heap.size 188 i0 (.agg #[.int .u8 0,VI 0,.string ⟨#[]⟩,.string ⟨#[]⟩,.string ⟨#[]⟩,VI 0]) 6 72 underlying178 hi hz0 hz1 hz2 rfl Vz _ _ _ rfl ((hown1.alloc _).alloc _) (VJ (w1.heap.size+1) 0) 1 1 (QN (x,j)) rfl rfl hnews (lD _) SE VH Ey ?_)
              | go_in)
             intro v2 w1 hown2 hg2 _
             have HN:Hid (Ro (bl s) q (acc++[(x,j)])):=by
              have hx:=H8 HW.o Hz HB.o HR.o Uq;rw[HT.o.2]at hx;exact hx
             have SR:w1.ownsRow w.heap.size 188 6 v2 (acc++[(x,j)]).length (PU (acc++[(x,j)])):=by
              rw[xu,Zw];exact hown2
             have hb1:=Tc (L_.alloc VH _) UM (hown1.alloc _) hg2;clear hown2 hown1 hg2 L_ hnews;go_wp2
             go_roundw
             case rel=>exact⟨q,acc++[(x,j)],rfl,VH,HN.o,SR,hb1⟩
             case measure=>simp[intOf]<;>omega
  . go_wp2
    go_ret2
    refine⟨_,by rw[KW HW.o Hz];rfl,λ_=>?_,hb⟩;rw[KW HW.o Hz];exact hown
theorem aA (k:Nat)(n:Int)(a b c:ByteArray)(t:Int)(w:World)(hk:k∈kinds)(Z1:-10000<n)(W7:n<10000):
 Calls prog 159 #[.agg #[.int .u8 k,VI n,.string a,.string b,.string c,VI t]] w λe w'=>
  e=.returned (.tuple #[VI (U9 k n).1,VI (U9 k n).2])/\Below w.heap.size w w':=by
 simp only[kinds,ZM,Zx,YE]at hk;rcases hk with rfl|rfl|rfl|rfl|rfl|rfl|rfl|rfl|rfl|rfl|rfl|rfl|rfl|rfl|rfl|rfl|rfl|rfl|rfl|rfl|rfl|rfl
 all_goals
  go_enter func159,ntmps159;go_wp2
  go_ret2
  exact zt6
def MJ (B:Nat)(w:World)(v:Value)(ts:List Int):Prop:=
 (ts=[]/\v=.slice none 0 0)\/∃p,B<=p/\p<w.heap.size/\v=.slice (some (VJ p 0)) ts.length ts.length/\∀j x,ts[j]?=some x->w.cell? (VJ p j)=some (VI x)
theorem qJ (w:World)(ts:List Int)(t:TypeId)(B:Nat)(hB:B<=w.heap.size):MJ B (w.alloc (.cells (ts.map (Value.int .i64)).toArray t)) (.slice (some (VJ w.heap.size 0)) ts.length ts.length) ts:=by
 refine .inr ⟨w.heap.size,hB,Vy,rfl,λj x hj=>?_⟩;have:=Us w (ts.map (Value.int .i64)) t j (VI x) (by rw[YO,hj];rfl);have hadd:(VJ w.heap.size 0).add j=(VJ w.heap.size j):=qP;rw[hadd]at this;exact this
theorem Jh (w:World)(o:Obj)(ts:List Int)(t:TypeId):MJ w.heap.size ((w.alloc o).alloc (.cells (ts.map (Value.int .i64)).toArray t)) (.slice (some (VJ (w.heap.size+1) 0)) ts.length ts.length) ts:=by
 have h:=qJ (w.alloc o) ts t w.heap.size Vy;rw[ZJ]at h;exact h
theorem aej (k:Nat)(n:Int)(a b c:ByteArray)(t:Int)(i:Nat)(w:World)(hi:i<=40):
 Calls prog 160 #[.agg #[.int .u8 k,VI n,.string a,.string b,.string c,VI t],VI i] w λe w'=>
  ∃v,e=.returned v/\MJ w.heap.size w' v (TS k n i)/\Below w.heap.size w w':=by
 by_cases N4:k=114
 . have t1:((k:Int)==114)=true:=by simp;omega
   have HG:Hid (TS k n i=[]):=by
    have hx:TS k n i=[]:=by unfold TS;rw[ZU N4]
    exact hx
   clear N4;go_enter func160,ntmps160;go_wp2
   go_ret
   exact⟨_,rfl,.inl ⟨HG.o,rfl⟩,(ZR _ _).alloc UM _⟩
 . have t1:((k:Int)==114)=false:=by simp;omega
   by_cases Ow:k=62
   . have t1:((k:Int)==62)=true:=by simp;omega
     have HG:Hid (TS k n i=[n]):=by
      have hx:TS k n i=[n]:=by unfold TS;rw[ZX N4,ZU Ow]
      exact hx
     clear N4 Ow;go_enter func160,ntmps160;go_wp2;refine aaO ?_;exact Jh w _ [n] _
   . have t1:((k:Int)==62)=false:=by simp;omega
     by_cases h63:k=63
     . have t1:((k:Int)==63)=true:=by simp;omega
       have HG:Hid (TS k n i=[(i:Int)+1,n]):=by
        have hx:TS k n i=[(i:Int)+1,n]:=by unfold TS;rw[ZX N4,ZX Ow,ZU h63]
        exact hx
       clear N4 Ow h63;go_enter func160,ntmps160;go_wp2;refine aaO ?_;exact Jh w _ [(i:Int)+1,n] _
     . have t1:((k:Int)==63)=false:=by simp;omega
       have HG:Hid (TS k n i=[(i:Int)+1]):=by
        have hx:TS k n i=[(i:Int)+1]:=by unfold TS;rw[ZX N4,ZX Ow,ZX h63]
        exact hx
       clear N4 Ow h63;go_enter func160,ntmps160;go_wp2;refine aaO ?_;exact Jh w _ [(i:Int)+1] _
theorem oI:(prog.info? 236).map (λi=>(i.zero,i.size,i.bytes))=some (some (.slice none 0 0),1,24):=VE
theorem bM:(prog.info? 4).map (λi=>(i.zero,i.size,i.bytes))=some (some (.bool false),1,1):=VE
theorem Dy (z:Value)(n:Nat):madeCells #[z] n=Array.replicate n z:=by
 apply Array.ext
 . simp[madeCells]
 . intro i h1 h1;simp[madeCells,Nat.mod_one]
theorem agd (n:Nat)(hn:n<=40)(w:World):(Instr.makeSlice 235 (VI ((n:Int)+1)) (VI ((n:Int)+1))).run prog w=.ok (.slice (some (VJ w.heap.size 0)) (n+1) (n+1)) (w.alloc (.cells (Array.replicate (n+1) (.slice none 0 0)) 236)):=by
 obtain⟨i0,hi,hz0,hz1,hz2⟩:=YQ oI;have h:=VN (P:=prog) w 235 236 i0 _ underlying235 hi hz0 .i64 .i64 ((n:Int)+1) ((n:Int)+1) VH VH (by rw[hz2];omega) VH;rw[h,show ((n:Int)+1).toNat=n+1 from VH,hz1];show Result.ok _ (w.alloc (.cells (madeCells #[.slice none 0 0] ((n+1)*1)) _))=_;rw[Dy,Nat.mul_one]
theorem acs (n:Nat)(hn:n<=40)(w:World):(Instr.makeSlice 236 (VI ((n:Int)+1)) (VI ((n:Int)+1))).run prog w=.ok (.slice (some (VJ w.heap.size 0)) (n+1) (n+1)) (w.alloc (.cells (Array.replicate (n+1) (.bool false)) 4)):=by
 obtain⟨i0,hi,hz0,hz1,hz2⟩:=YQ bM;have h:=VN (P:=prog) w 236 4 i0 _ underlying236 hi hz0 .i64 .i64 ((n:Int)+1) ((n:Int)+1) VH VH (by rw[hz2];omega) VH;rw[h,show ((n:Int)+1).toNat=n+1 from VH,hz1];show Result.ok _ (w.alloc (.cells (madeCells #[.bool false] ((n+1)*1)) _))=_;rw[Dy,Nat.mul_one]
theorem aa5 (w:World):(Instr.makeSlice 236 (VI 17) (VI 17)).run prog w=.ok (.slice (some (VJ w.heap.size 0)) 17 17) (w.alloc (.cells (Array.replicate 17 (.bool false)) 4)):=acs 16 VH w
theorem Vr {w:World}{a:Addr}{v u:Value}(h:w.cell? a=some u):(w.setCell a v).cell? a=some v:=World.cell?_setCell_same _ _ _ h
theorem VD {w:World}{a b:Addr}{v:Value}(h:a≠b):(w.setCell a v).cell? b=w.cell? b:=World.cell?_setCell_other _ _ _ _ h
structure Grid (w:World)(R n:Nat)(M:Nat->Nat->Bool):Prop where
 size:R+n+2<=w.heap.size
 row:∀i,i<=n->w.cell? (VJ R i)=some (.slice (some (VJ (R+1+i) 0)) 17 17)
 cell:∀i h,i<=n->h<=16->w.cell? (VJ (R+1+i) h)=some (.bool (M i h))
 free:∀i h,i<=n->w.frozen? (VJ (R+1+i) h)=false
structure OA (w:World)(D n:Nat)(Bd:Nat->Bool):Prop where
 size:D<w.heap.size
 cell:∀i,i<=n->w.cell? (VJ D i)=some (.bool (Bd i))
 free:∀i,w.frozen? (VJ D i)=false
theorem Grid.below {w w':World}{R n:Nat}{M:Nat->Nat->Bool}(h:Grid w R n M)(hb:Below w.heap.size w w'):Grid w' R n M:=
 ⟨ZC h.size hb.size, λi hi => (hb.cell (p := ⟨R, i, none⟩) (by have := h.size; show R<_; omega)).trans (h.row i hi),
  λi k hi hk=>(hb.cell (p:=(VJ (R+1+i) k)) (by have:=h.size;show R+1+i<_;omega)).trans (h.cell i k hi hk),
  λi k hi=>(hb.frozen (p:=(VJ (R+1+i) k)) (by have:=h.size;show R+1+i<_;omega)).trans (h.free i k hi)⟩
theorem OA.below {w w':World}{D n:Nat}{Bd:Nat->Bool}(h:OA w D n Bd)(hb:Below w.heap.size w w'):OA w' D n Bd:=
 ⟨ZY h.size hb.size,λi hi=>(hb.cell (p:=(VJ D i)) h.size).trans (h.cell i hi),λi=>(hb.frozen (p:=(VJ D i)) h.size).trans (h.free i)⟩
theorem Grid.mark {w:World}{R n:Nat}{M:Nat->Nat->Bool}(h:Grid w R n M){a b:Nat}(ha:a<=n)(hb:b<=16):Grid (w.setCell (VJ (R+1+a) b) (.bool true)) R n (Kn.mark M a b):=by
 refine⟨afC,λi hi=>?_,λi k hi hk=>?_,λi k hi=>(YK _ _ _ _).trans (h.free i k hi)⟩
 . rw[Yo _ _ _ _ (by show R+1+a≠R;omega)];exact h.row i hi
 . by_cases e:i=a/\k=b
   . obtain⟨rfl,rfl⟩:=e;rw[Vr (h.cell i k hi hk),Kn.J3]
   . rw[VD (by intro e';injection e' with e1 e2;exact e ⟨VH,e2.symm⟩),h.cell i k hi hk];have:Kn.mark M a b i k=M i k:=by unfold Kn.mark;rw[show (decide (i=a)&&decide (k=b))=false from by simpa using λe1 e2=>e ⟨e1,e2⟩,WY]
     rw[this]
theorem Grid.far {w:World}{R n:Nat}{M:Nat->Nat->Bool}(h:Grid w R n M){a:Addr}{v:Value}(h1:a.block=R+n+2):Grid (w.setCell a v) R n M:=by
 refine⟨afC,λi hi=>?_,λi k hi hk=>?_,λi k hi=>(YK _ _ _ _).trans (h.free i k hi)⟩
 . rw[Yo _ _ _ _ (by rw[h1];show R+n+2≠R;omega)];exact h.row i hi
 . rw[Yo _ _ _ _ (by rw[h1];show R+n+2≠R+1+i;omega)];exact h.cell i k hi hk
theorem OA.far {w:World}{D n:Nat}{Bd:Nat->Bool}(h:OA w D n Bd){a:Addr}{v:Value}(h1:a.block≠D):OA (w.setCell a v) D n Bd:=
 ⟨afC,λi hi=>by rw[Yo _ _ _ _ h1];exact h.cell i hi,λi=>(YK _ _ _ _).trans (h.free i)⟩
def OT (Bd:Nat->Bool)(a:Nat):Nat->Bool:=λi=>decide (i=a)||Bd i
theorem OA.mark {w:World}{D n:Nat}{Bd:Nat->Bool}(h:OA w D n Bd){a:Nat}(ha:a<=n):OA (w.setCell (VJ D a) (.bool true)) D n (OT Bd a):=by
 refine⟨afC,λi hi=>?_,λi=>(YK _ _ _ _).trans (h.free i)⟩;by_cases e:i=a
 . subst e;rw[Vr (h.cell i hi)];simp[OT]
 . rw[VD (by intro e';injection e' with e1 e1;exact e e1.symm),h.cell i hi];simp[OT,e]
structure Rows (w:World)(R n k:Nat):Prop where
 size:w.heap.size=R+1+k
 done:∀j,j<k->w.cell? (VJ R j)=some (.slice (some (VJ (R+1+j) 0)) 17 17)
 rest:∀j,k<=j->j<=n->w.cell? (VJ R j)=some (.slice none 0 0)
 free:∀j,w.frozen? (VJ R j)=false
 blk:∀j,j<k->w.heap[R+1+j]?=some (.cells (Array.replicate 17 (.bool false)) 4)
theorem mZ (w:World)(n:Nat):Rows (w.alloc (.cells (Array.replicate (n+1) (.slice none 0 0)) 236)) w.heap.size n 0:=by
 have hb:=(Z4 w (.cells (Array.replicate (n+1) (.slice none 0 0)) 236)).1;refine⟨Vy,λj hj=>VH,λj _ hj=>?_,λj=>?_,λj hj=>VH⟩
 . refine Iq ?_;simp[show j<n+1 from VH]
 . simp only[World.frozen?,hb];simp
theorem aao {w:World}{R n k:Nat}(h:Rows w R n k)(hk:k<=n):Rows ((w.alloc (.cells (Array.replicate 17 (.bool false)) 4)).setCell (VJ R k) (.slice (some (VJ (R+1+k) 0)) 17 17)) R n (k+1):=by
 have hs:=h.size;have hlt:R<w.heap.size:=VH;have hc:∀j,(w.alloc (.cells (Array.replicate 17 (.bool false)) 4)).cell? (VJ R j)=w.cell? (VJ R j):=λj=>Z9 (ZV w _ R hlt);refine⟨xM,λj hj=>?_,λj hj hj'=>?_,λj=>?_,λj hj=>?_⟩
 . by_cases e:j=k
   . subst e;rw[Vr (by rw[hc];exact h.rest j UM hk)]
   . rw[VD (by intro e';injection e' with e1 e2;exact e e2.symm),hc];exact h.done j VH
 . rw[VD xY,hc];exact h.rest j VH hj'
 . rw[YK,Zr (ZV w _ R hlt)];exact h.free j
 . rw[ZW _ _ _ _ (by show R+1+j≠R;omega)];by_cases e:j=k
   . subst e;rw[<- hs];exact(Z4 w _).1
   . rw[ZV w _ _ VH];exact h.blk j VH
theorem zT {w:World}{R n:Nat}(h:Rows w R n (n+1)):Grid w R n (λ_ _=>false):=by
 refine⟨by have:=h.size;omega,λi hi=>h.done i VH,λi k hi hk=>?_,λi k hi=>?_⟩
 . simp only[World.cell?,h.blk i VH];simp[show k<17 from VH]
 . simp only[World.frozen?,h.blk i VH];simp
theorem tY (w:World)(n:Nat):OA (w.alloc (.cells (Array.replicate (n+1) (.bool false)) 4)) w.heap.size n (λ_=>false):=by
 have hb:=(Z4 w (.cells (Array.replicate (n+1) (.bool false)) 4)).1;refine⟨Vy,λi hi=>?_,λi=>?_⟩
 . refine Iq ?_;simp[show i<n+1 from VH]
 . simp only[World.frozen?,hb];simp
structure St (w0 w:World)(ws:List (W×Nat))(u:Nat)(b:Bool)(M:Nat->Nat->Bool)(Bd:Nat->Bool)(D:Nat->Nat->Prop):Prop where
 grid:Grid w w0.heap.size ws.length M
 bad:OA w (w0.heap.size+ws.length+2) ws.length Bd
 marked:Marked ws M Bd
 gone:b=true\/∀i h,D i h->Gone ws M Bd i h
 le:Gv ws.length M<=u
 lt:b=true->Gv ws.length M<u
 below:Below w0.heap.size w0 w
variable {w0 : World} {ws : List (W × Nat)} {u : Nat} {b : Bool} {M : Nat -> Nat -> Bool} {Bd : Nat -> Bool} {D D' : Nat -> Nat -> Prop}
theorem St.mono (h:St w0 w ws u b M Bd D)(hb:Below w.heap.size w w'):St w0 w' ws u b M Bd D:=
 ⟨h.grid.below hb,h.bad.below hb,h.marked,h.gone,h.le,h.lt,h.below.trans (hb.mono h.below.size)⟩
theorem St.weak (h:St w0 w ws u b M Bd D)(hD:∀i k,D' i k->b=true\/D i k\/Gone ws M Bd i k):St w0 w ws u b M Bd D':=
 ⟨h.grid,h.bad,h.marked,by
  rcases h.gone with e|e
  . exact .inl e
  . cases hb:b
    . right;intro i k hd;rcases hD i k hd with h'|h'|h'
      . rw[hb]at h';cases h'
      . exact e i k h'
      . exact h'
    . exact .inl rfl,h.le,h.lt,h.below⟩
theorem St.restart (h:St w0 w ws u b M Bd D):St w0 w ws (Gv ws.length M) false M Bd (λ_ _=>False):=
 ⟨h.grid,h.bad,h.marked,.inr λ_ _ hf=>hf.elim,ZN _,λe=>EO,h.below⟩
theorem St.afV (h:St w0 w ws u b M Bd D){a k:Nat}(ha:a<=ws.length)(hk:k<=16)(hm:M a k=false)(hr:Kn.Reach ws a k):St w0 (w.setCell (VJ (w0.heap.size+1+a) k) (.bool true)) ws u true (Kn.mark M a k) Bd D':=by
 refine⟨h.grid.mark ha hk,h.bad.far (by show w0.heap.size+1+a≠_;omega),⟨Ie _ _ h.marked.1,λi j hj=>?_,h.marked.2.2⟩,.inl rfl,?_,λ_=>?_,h.below.setCell (by show w0.heap.size<=w0.heap.size+1+a;omega) _⟩
 . rcases Iw.1 hj with⟨rfl,rfl⟩|hj
   . exact hr
   . exact h.marked.2.1 i j hj
 . have:=Bl ha hk hm;have:=h.le;omega
 . have:=Bl ha hk hm;have:=h.le;omega
theorem qV {i j a:Nat}(h:Gone ws M Bd i j):Gone ws M (OT Bd a) i j:=λhm=>⟨(h hm).1,λho=>by simp[OT,(h hm).2 ho]⟩
theorem St.akg (h:St w0 w ws u b M Bd D){a k:Nat}(ha:a<ws.length)(hm:M a k=true)(ho:¬Ph ws a k):St w0 (w.setCell (VJ (w0.heap.size+ws.length+2) a) (.bool true)) ws u b M (OT Bd a) (λi j=>D i j\/(i=a/\j=k)):=by
 refine⟨h.grid.far rfl,h.bad.mark VH,⟨h.marked.1,h.marked.2.1,λi hi=>?_⟩,?_,h.le,h.lt,h.below.setCell (by show w0.heap.size<=w0.heap.size+ws.length+2;omega) _⟩
 . by_cases e:i=a
   . subst e;exact⟨k,h.marked.2.1 i k hm,ho⟩
   . simp[OT,e]at hi;exact h.marked.2.2 i hi
 . rcases h.gone with e|e
   . exact .inl e
   . right;rintro i j (hd|⟨rfl,rfl⟩)
     . exact qV (e i j hd)
     . exact λ_=>⟨λh'=>absurd h' ho,λ_=>by simp[OT]⟩
structure pG (w:World)(p:Option Addr)(g:Nat)(ws:List (W×Nat)):Prop where
 head:1<=ws.length->p=some (VJ g 0)
 lt:1<=ws.length->g<w.heap.size
 c0:∀i x,ws[i]?=some x->w.cell? (VJ g (i*6))=some (.int .u8 x.1.k)
 c1:∀i x,ws[i]?=some x->w.cell? (VJ g (i*6+1))=some (VI x.1.n)
 c2:∀i x,ws[i]?=some x->w.cell? (VJ g (i*6+2))=some (.string (VF x.1.sel))
 c3:∀i x,ws[i]?=some x->w.cell? (VJ g (i*6+3))=some (.string (VF x.1.a))
 c4:∀i x,ws[i]?=some x->w.cell? (VJ g (i*6+4))=some (.string (VF x.1.b))
 c5:∀i x,ws[i]?=some x->w.cell? (VJ g (i*6+5))=some (VI (x.2:Nat))
theorem pG.below {p:Option Addr}{g:Nat}(h:pG w p g ws){B:Nat}(hB:w.heap.size<=B)(hb:Below B w w'):pG w' p g ws:=by
 exact amL
theorem FW:∀(l:List (W×Nat)) (i:Nat) (x:W×Nat) (c:Nat),l[i]?=some x->c<6->(PU l)[i*6+c]?=(QN x)[c]?
 | [],i,x,c,h,_=>vF
 | y::r,0,x,c,h,hc=>by
  simp at h;subst h;rw[Yu,YU];show (QN y++PU r)[c]?=_;exact ZH (by simpa[QN]using hc)
 | y::r,i+1,x,c,h,hc=>by
  have ih:=FW r i x c Nv hc;show (QN y++PU r)[(i+1)*6+c]?=_;rw[ZP (by simp[QN];omega)];rw[show (i+1)*6+c-(QN y).length=i*6+c from by simp[QN];omega];exact ih
theorem acL {B:Nat}{e:TypeId}{v:Value}(h:w.ownsRow B e 6 v ws.length (PU ws)):∃p g cap,v=.slice p ws.length cap/\pG w p g ws:=by
 have hc:=λg hg=>h.cells (g:=g) hg;rcases h.2 with⟨rfl,h0⟩|⟨g,cap,cur,rfl,hb,hg,hn,_⟩
 . exact aoI
 . have key:∀i x c u,ws[i]?=some x->c<6->(QN x)[c]?=some u->w.cell? (VJ g (i*6+c))=some u:=by
    intro i x c u hx hcc hu;have:=hc g rfl (i*6+c) u (by rw[FW ws i x c hx hcc];exact hu);exact ajm
   exact anR
structure Fine (x:W)(n:Nat):Prop where
 kind:x.k∈kinds
 lo:-10000<x.n
 hi:x.n<10000
 send:x.k=115\/x.k=94->0<=x.n/\x.n<=3
 goto:x.k=62\/x.k=63->0<=x.n/\x.n<=n
theorem I7 {x:W}{n:Nat}(h:Fine x n):0<=(U9 x.k x.n).1/\(U9 x.k x.n).1<=4/\0<=(U9 x.k x.n).2/\(U9 x.k x.n).2<=2:=by
 have hs:=h.send;unfold U9;split
 . simp
 . split
   . simp
   . split
     . simp
     . split
       . simp
       . split
         . rename_i e;have:=hs (.inl e);simp;omega
         . split
           . rename_i e;have:=hs (.inr e);simp;omega
           . split<;>simp
theorem bg {x:W}{n i:Nat}(h:Fine x n)(hi:i<n):∀t∈TS x.k x.n i,0<=t/\t<=n:=by
 have hg:=h.goto;unfold TS;intro t ht;split at ht
 . cases ht
 . split at ht
   . simp at ht;subst ht;exact hg VH
   . split at ht
     . simp at ht;rcases ht with rfl|rfl
       . omega
       . exact hg VH
     . simp at ht;subst ht;omega
theorem nI {R n k:Nat}(h:Rows w R n k)(hk:k<=n):Rows ((w.setCell (VJ R k) (.slice (some (VJ w.heap.size 0)) 17 17)).alloc (.cells (Array.replicate 17 (.bool false)) 4)) R n (k+1):=by
 have h1:=aao h hk;have hs:=h.size;rw[<- hs,World.setCell_alloc_past _ _ _ _ VH]at h1;exact h1
theorem st_start {ws:List (W×Nat)}(h:Rows w w0.heap.size ws.length (ws.length+1))(hb:Below w0.heap.size w0 w):
 St w0 ((w.setCell (VJ (w0.heap.size+1) 0) (.bool true)).alloc (.cells (Array.replicate (ws.length+1) (.bool false)) 4)) ws (Gv ws.length (Kn.mark (λ_ _=>false) 0 0)+1) true (Kn.mark (λ_ _=>false) 0 0) (λ_=>false) (λ_ _=>False):=by
 have hs:=h.size;have hsz:(w.setCell (VJ (w0.heap.size+1) 0) (.bool true)).heap.size=w0.heap.size+ws.length+2:=xM;have hg:Grid (w.setCell (VJ (w0.heap.size+1) 0) (.bool true)) w0.heap.size ws.length (Kn.mark (λ_ _=>false) 0 0):=(zT h).mark (a:=0) (b:=0) VH VH;have hd:=tY (w.setCell (VJ (w0.heap.size+1) 0) (.bool true)) ws.length;rw[hsz]at hd;have hbb:Below w0.heap.size w0 (w.setCell (VJ (w0.heap.size+1) 0) (.bool true)):=hb.setCell (by show w0.heap.size<=w0.heap.size+1;omega) _;refine⟨hg.below zt7,hd,⟨J3 _ _ _,λi k hk=>?_,λi hi=>by cases hi⟩,.inl rfl,VH,λ_=>VH,hbb.alloc (by rw[hsz];omega) _⟩;rcases Iw.1 hk with⟨rfl,rfl⟩|hk
 . exact KY ws
 . cases hk
theorem ints_set {B:Nat}{v v':Value}{ts:List Int}{a:Addr}(h:MJ B w v ts)(ha:a.block<B):MJ B (w.setCell a v') v ts:=by
 rcases h with h|⟨p,hp,hlt,hv,hc⟩
 . exact .inl h
 . exact .inr ⟨p,hp,by simpa[World.setCell]using hlt,hv,λj x hj=>by rw[Yo _ _ _ _ (by show a.block≠p;omega)];exact hc j x hj⟩
theorem aeI (k:Nat)(n:Int)(i:Nat):(TS k n i).length<=2:=by
 unfold TS;split
 . simp
 . split
   . simp
   . split<;>simp
def cnt (M:Nat->Nat->Bool)(k hh:Nat):Nat:=((List.range hh).filter (M k)).length
theorem cnt_le (M:Nat->Nat->Bool)(k hh:Nat):cnt M k hh<=hh:=by
 have:=XI (M k) (List.range hh);rw[List.length_range]at this;exact this
theorem ad6 (M:Nat->Nat->Bool)(k hh:Nat):cnt M k (hh+1)=cnt M k hh+(if M k hh=true then 1 else 0):=by
 unfold cnt;rw[List.range_succ,Yi,Zw];by_cases h:M k hh=true<;>simp[Xz,h]
theorem iR (M:Nat->Nat->Bool)(k:Nat):1<cnt M k 17↔∃h1 h2,h1<h2/\h2<=16/\M k h1=true/\M k h2=true:=by
 have hp:((List.range 17).filter (M k)).Pairwise (· < ·):=List.pairwise_lt_range.filter _
 have hm:∀h,h∈(List.range 17).filter (M k)↔h<=16/\M k h=true:=λh=>by rw[XM,YD];constructor<;>(rintro⟨a,b⟩;exact⟨VH,b⟩)
 unfold cnt;generalize (List.range 17).filter (M k)=l at *;constructor
 . intro h
   match l,h,hp,hm with
   | a::c::r,_,hp,hm=>
    have h1:=(hm a).1 Vy;have h2:=(hm c).1 Vy;exact⟨a,c,(List.pairwise_cons.1 hp).1 c Vy,h2.1,h1.2,h2.2⟩
 . rintro⟨h1,h2,hlt,hle,m1,m2⟩;have e1:=(hm h1).2 ⟨VH,m1⟩;have e2:=(hm h2).2 ⟨hle,m2⟩
   match l,e1,e2 with
   | [],e1,_=>cases e1
   | [a],e1,e2=>simp at e1 e2;omega
   | a::c::r,_,_=>simp
theorem yY {ws:List (W×Nat)}{M:Nat->Nat->Bool}{Bd:Nat->Bool}(hm:Marked ws M Bd)(hg:∀i h,i<ws.length->h<=16->Gone ws M Bd i h){k:Nat}(hk:k<ws.length):Wrong ws k↔(Bd k=true\/1<cnt M k 17):=by
 unfold Wrong;rw[mG hm hg hk,iR];constructor
 . rintro(h|⟨h1,h2,hlt,r1,r2⟩)
   . exact .inl h
   . exact .inr ⟨h1,h2,hlt,Nq r2,(OV hm hg).1 r1,(OV hm hg).1 r2⟩
 . rintro(h|⟨h1,h2,hlt,_,m1,m2⟩)
   . exact .inl h
   . exact .inr ⟨h1,h2,hlt,(OV hm hg).2 m1,(OV hm hg).2 m2⟩
theorem dI {B:Nat}{v:Value}{ts:List Int}(h:MJ B w v ts):∃q,v=.slice q ts.length ts.length:=by
 rcases h with⟨rfl,rfl⟩|⟨p,_,_,rfl,_⟩
 . exact⟨none,rfl⟩
 . exact Vx
theorem ad7 {B:Nat}{q:Option Addr}{n m:Nat}{ts:List Int}(h:MJ B w (.slice q n m) ts){j:Nat}{x:Int}(hj:ts[j]?=some x):∃p,q=some (VJ p 0)/\w.cell? (VJ p j)=some (VI x):=by
 rcases h with⟨rfl,_⟩|⟨p,_,_,hv,hc⟩
 . simp at hj
 . injection hv with h1;exact⟨p,h1,hc j x hj⟩
theorem qj (ws:List (W×Nat))(p:Option Addr)(g cap:Nat)(w:World)(hn:ws.length<=40)(hw:pG w p g ws)(hf:∀(i:Nat) (x:W×Nat),ws[i]?=some x->Fine x.1 ws.length):
 Calls prog 142 #[.slice p ws.length cap] w λe w'=>∃r:Int,e=.returned (VI r)/\Kt (Wrong ws) ws.length r/\Below w.heap.size w w':=by
 have hm1:=agd ws.length hn;have hm1:=acs ws.length hn;have hm1:=aa5;have HW:Hid _:=hw;have HF:Hid _:=hf;clear hw hf;go_enter func142,ntmps142;go_wp2
 go_loopw [4] (λi wr=>∃k:Nat,i=VI k/\k<=ws.length+1/\Rows wr w.heap.size ws.length k/\Below w.heap.size w wr) (λi _=>ws.length+1-(intOf i).toNat)
 case atStart=>exact⟨0,rfl,VH,mZ w ws.length,(ZR _ _).alloc UM _⟩
 case round=>
  obtain⟨k,rfl,hk,hrows,hb⟩:=hrel;have HR:Hid _:=hrows;have hlt:w.heap.size<wr.heap.size:=by have:=hrows.size;omega
  clear hrows;by_cases hkn:k<=ws.length
  . have c1:=HR.o.rest k UM hkn;have c2:=HR.o.free k;go_wp2
    go_roundw
    case rel=>
     refine⟨k+1,Uu,VH,?_,?_⟩
     . exact nI HR.o hkn
     . exact(hb.setCell UM _).alloc xM _
    case measure=>simp[intOf]<;>omega
  . obtain rfl:k=ws.length+1:=by omega
    have Mb:=zT HR.o;have r0:wr.cell? (VJ w.heap.size 0)=some (.slice (some (VJ (w.heap.size+1) 0)) 17 17):=Mb.row 0 VH;have r0:wr.cell? (VJ (w.heap.size+1) 0)=some (.bool false):=Mb.cell 0 0 VH VH;have r2:wr.frozen? (VJ (w.heap.size+1) 0)=false:=Mb.free 0 0 VH;have hsz:wr.heap.size=w.heap.size+ws.length+2:=by have:=HR.o.size;omega
    have HS:=st_start HR.o hb;have HS:Hid _:=HS;clear Mb hlt hb;go_wp2
    go_loopg [6] (2*Gv ws.length (Kn.mark (λ_ _=>false) 0 0)+1) (λgk t wr=>∃(b:Bool) (M:Nat->Nat->Bool) (Bd:Nat->Bool) (u:Nat),t=.bool b/\St w wr ws u b M Bd (λi h=>i<ws.length/\h<=16)/\gk=2*Gv ws.length M+(if b=true then 1 else 0))
    case atStart=>exact⟨true,_,_,_,rfl,(HS.o.weak (λi h hd=>.inl rfl)),rfl⟩
    case round=>
     obtain⟨b,M,Bd,u,rfl,hst,rfl⟩:=hrel;have HT:Hid _:=hst;clear hst;cases b
     . have nF:Hid (∀k,k<ws.length->(Wrong ws k↔(Bd k=true\/1<cnt M k 17))):=by
        have hx1:∀k,k<ws.length->(Wrong ws k↔(Bd k=true\/1<cnt M k 17)):=λk hk=>yY HT.o.marked (λi h hi hh=>by
         rcases HT.o.gone with e|e
         . cases e
         . exact e i h ⟨hi,hh⟩) hk
        exact hx1
       have hbl:=HT.o.below;go_wp2
       go_loop [13] (λi=>∃k:Nat,i=VI k/\k<=ws.length/\∀j,j<k->¬Wrong ws j) (λi=>ws.length-(intOf i).toNat)
       case atStart=>exact zt9
       case round=>
        obtain⟨k,rfl,hk,hno⟩:=hrel;have G':Hid _:=hno;clear hno;by_cases hkn:k<ws.length
        . have r0:=HT.o.grid.row k VH;go_wp2
          go_loop [14,15] (λc h=>∃hh:Nat,h=VI hh/\c=VI (cnt M k hh:Nat)/\hh<=17) (λ_ h=>17-(intOf h).toNat)
          case atStart=>exact⟨0,rfl,rfl,VH⟩
          case round=>
           obtain⟨hh,rfl,rfl,bR⟩:=hrel;have hcl:=cnt_le M k hh;by_cases zp:hh<=16
           . have r2:=HT.o.grid.cell k hh VH zp;have HC:=UQ (ad6 M k hh);cases hM:M k hh
             . rw[hM]at r2;go_wp2
               go_round
               case rel=>exact⟨hh+1,Uu,by rw[HC.o,hM];rfl,VH⟩
               case measure=>simp[intOf]<;>omega
             . rw[hM]at r2;go_wp2
               go_round
               case rel=>exact⟨hh+1,Uu,by rw[HC.o,hM];go_num,VH⟩
               case measure=>simp[intOf]<;>omega
           . obtain rfl:hh=17:=by omega
             have q1:=HT.o.bad.cell k VH;have HK:=nF.o k hkn;have HK:Hid _:=HK;cases hB:Bd k
             . rw[hB]at q1;by_cases hc:1<cnt M k 17
               . go_wp2
                 go_ret
                 exact⟨k,rfl,.inr ⟨k,hkn,rfl,HK.o.2 (.inr hc),G'.o⟩,hbl⟩
               . go_wp2
                 go_round
                 case rel=>
                  refine⟨k+1,Uu,VH,λj hj=>?_⟩;by_cases e:j=k
                  . subst e;intro hwr;rcases HK.o.1 hwr with h|h
                    . rw[hB]at h;cases h
                    . exact hc h
                  . exact G'.o j VH
                 case measure=>simp[intOf]<;>omega
             . rw[hB]at q1;go_wp2
               go_ret
               exact⟨k,rfl,.inr ⟨k,hkn,rfl,HK.o.2 (.inl hB),G'.o⟩,hbl⟩
        . obtain rfl:k=ws.length:=by omega
          go_wp2
          go_ret
          exact⟨-1,rfl,.inl ⟨rfl,G'.o⟩,hbl⟩
     . go_wp2
       go_loopg [6,7] ws.length (λgk t i wr=>∃(b:Bool) (M':Nat->Nat->Bool) (qD:Nat->Bool) (k:Nat),t=.bool b/\i=VI k/\k<=ws.length/\gk=ws.length-k/\St w wr ws (Gv ws.length M) b M' qD (λi h=>i<k/\h<=16))
       case atStart=>exact⟨false,M,Bd,0,rfl,rfl,VH,VH,HT.o.restart.weak (λi h hd=>VH)⟩
       case round=>
        obtain⟨b,M',qD,k,rfl,rfl,hk,rfl,hst⟩:=hrel;have HU:Hid _:=hst;have kz:=hst.below.size;clear hst;by_cases hkn:k<ws.length
        . refine BH ?_;intro x hx;have Rg:=HF.o k x hx;obtain rfl:p=some (VJ g 0):=HW.o.head VH;have NF:=HW.o.below UM HU.o.below;have hgl:=NF.lt VH;have c0:=NF.c0 k x hx;have c1:=NF.c1 k x hx;have c2:=NF.c2 k x hx;have c3:=NF.c3 k x hx;have c4:=NF.c4 k x hx;have c5:=NF.c5 k x hx;have HX:Hid _:=hx;have NE:Hid _:=Rg;clear hx Rg NF;go_wp2_with fail;refine(aA x.1.k x.1.n _ _ _ _ _ NE.o.kind NE.o.lo NE.o.hi).mono ?_;rintro e w1 ⟨rfl,hb1⟩;obtain⟨ta,Mr⟩:∃ta,(U9 x.1.k x.1.n).1=ta:=Vx;obtain⟨la,FJ⟩:∃la,(U9 x.1.k x.1.n).2=la:=Vx;rw[Mr,FJ];have hft:=I7 NE.o;rw[Mr,FJ]at hft;obtain⟨sw,aql,s7,aE⟩:=hft
          have dT:Hid ((U9 x.1.k x.1.n).1=ta/\(U9 x.1.k x.1.n).2=la):=⟨Mr,FJ⟩
          clear Mr FJ;have d0:=(hb1.cell (p:=(VJ g (k*6))) hgl).trans c0;have d1:=(hb1.cell (p:=(VJ g (k*6+1))) hgl).trans c1;have d2:=(hb1.cell (p:=(VJ g (k*6+2))) hgl).trans c2;have d3:=(hb1.cell (p:=(VJ g (k*6+3))) hgl).trans c3;have d4:=(hb1.cell (p:=(VJ g (k*6+4))) hgl).trans c4;have d5:=(hb1.cell (p:=(VJ g (k*6+5))) hgl).trans c5;have HV:=UQ (HU.o.mono hb1);have hD:=HV.o.bad.size;clear c0 c1 c2 c3 c4 c5 hb1 HU hgl kz;go_wp2_with fail;refine(aej x.1.k x.1.n _ _ _ _ k _ VH).mono ?_;rintro e w2 ⟨vt,rfl,hints,hb1⟩;have HI:=UQ hints;have HU:=UQ (HV.o.mono hb1);clear d0 d1 d2 d3 d4 d5 hb1 HV hints;obtain⟨tan,rfl⟩:=YP sw;obtain⟨K8,rfl⟩:=YP s7;have eI:EG ws k=x.1:=by unfold EG;rw[HX.o];rfl
          have Fi:Hid (tk ws k=tan/\ly ws k=K8/\tg ws k=(TS x.1.k x.1.n k).map Int.toNat):=by
           have hx1:tk ws k=tan/\ly ws k=K8/\tg ws k=(TS x.1.k x.1.n k).map Int.toNat:=by
            unfold tk ly tg;rw[eI,dT.o.1,dT.o.2];exact⟨Zp _,Zp _,rfl⟩
           exact hx1
          obtain⟨ts,hts⟩:∃ts,TS x.1.k x.1.n k=ts:=Vx
          have mx:Hid (tg ws k=ts.map Int.toNat/\∀t∈ts,0<=t/\t<=ws.length):=by
           have hx1:tg ws k=ts.map Int.toNat/\∀t∈ts,0<=t/\t<=ws.length:=⟨by rw[Fi.o.2.2,hts],by rw[<- hts];exact bg NE.o hkn⟩
           exact hx1
          rw[hts]at HI;have htl:ts.length<=2:=by rw[<- hts];exact aeI _ _ _
          clear eI hts sw s7;go_wp2
          go_loopg [6,11] 17 (λgk t h wr=>∃(b:Bool) (M1:Nat->Nat->Bool) (v9:Nat->Bool) (hh:Nat),t=.bool b/\h=VI hh/\hh<=17/\gk=17-hh/\St w wr ws (Gv ws.length M) b M1 v9 (λi h=>(i<k/\h<=16)\/(i=k/\h<hh))/\MJ w1.heap.size wr vt ts)
          case atStart=>exact⟨b,M',qD,0,rfl,rfl,VH,VH,HU.o.weak (λi h hd=>by rcases hd with hd|hd;exact .inr (.inl hd);omega),HI.o⟩
          case round=>
           clear HU HI;obtain⟨b,M1,v9,hh,rfl,rfl,bR,rfl,hst,hints⟩:=hrel;have HU:Hid _:=hst;have HI:=UQ hints;clear hst hints;by_cases zp:hh<=16
           . have r0:=HU.o.grid.row k VH;have r2:=HU.o.grid.cell k hh VH zp;cases hM:M1 k hh
             . rw[hM]at r2;go_wp2
               go_roundg (17-(hh+1))
               case measure=>omega
               case rel=>
                refine⟨b,M1,v9,hh+1,rfl,Uu,VH,rfl,HU.o.weak (λi h hd=>?_),HI.o⟩;rcases hd with hd|⟨rfl,hd⟩
                . exact .inr (.inl (.inl hd))
                . by_cases e:h=hh
                  . subst e;right;right;intro e;rw[hM]at e;cases e
                  . exact .inr agB
             . rw[hM]at r2;by_cases hok:tan<=hh/\hh-tan+K8<=16
               . obtain⟨Ab,Ab⟩:=hok
                 obtain⟨d,rfl⟩:∃d,hh=tan+d:=⟨hh-tan,VH⟩
                 have tE:d+K8<=16:=VH
                 have HO:Hid (Ph ws k (tan+d)/\nx ws k (tan+d)=d+K8):=by
                  have hx1:Ph ws k (tan+d)/\nx ws k (tan+d)=d+K8:=by
                   exact ag7
                  exact hx1
                 obtain⟨q0,rfl⟩:=dI HI.o;go_wp2
                 go_loopg [6,12] ts.length (λgk t kk wr=>∃(b:Bool) (M2:Nat->Nat->Bool) (sB:Nat->Bool) (q:Nat),t=.bool b/\kk=VI q/\q<=ts.length/\gk=ts.length-q/\St w wr ws (Gv ws.length M) b M2 sB (λi h=>(i<k/\h<=16)\/(i=k/\h<tan+d))/\M2 k (tan+d)=true/\(b=true\/∀j t,j<q->ts[j]?=some t->M2 t.toNat (d+K8)=true)/\MJ w1.heap.size wr (.slice q0 ts.length ts.length) ts)
                 case atStart=>exact⟨b,M1,v9,0,rfl,rfl,VH,VH,HU.o,hM,.inr (λj t h=>VH),HI.o⟩
                 case round=>
                  clear HU HI r0 r2;obtain⟨b,M2,sB,q,rfl,rfl,hq,rfl,hst,cQ,hall,hints⟩:=hrel;have HU:Hid _:=hst;have HI:=UQ hints;have HA:Hid _:=hall;have HK:Hid _:=cQ;clear hst hints hall cQ;by_cases FL:q<ts.length
                  . obtain⟨t,ht⟩:∃t,ts[q]?=some t:=⟨_,Z8 FL⟩
                    have htb:=mx.o.2 t (ZK ht);obtain⟨ht0,htn⟩:=htb;obtain⟨tn,rfl⟩:=YP ht0;have CD:tn<=ws.length:=VH;have hmem:tn∈tg ws k:=by rw[mx.o.1];exact Zy.2 ⟨_,ZK ht,Zp _⟩
                    have LT:Hid (Kn.Reach ws tn (d+K8)):=by
                     have hx1:=I5 hkn (HU.o.marked.2.1 _ _ HK.o) HO.o.1 hmem;rw[HO.o.2]at hx1;exact hx1
                    obtain⟨pp,rfl,hcell⟩:=ad7 HI.o ht;have r0:=HU.o.grid.row tn CD;have r0:=HU.o.grid.cell tn (d+K8) CD tE;have r2:=HU.o.grid.free tn (d+K8) CD;have HTq:Hid _:=ht;clear ht ht0 htn hmem;cases po:M2 tn (d+K8)
                    . rw[po]at r0;go_wp2
                      go_roundg (ts.length-(q+1))
                      case measure=>omega
                      case rel=>
                       refine⟨true,Kn.mark M2 tn (d+K8),sB,q+1,rfl,Uu,VH,rfl,HU.o.afV CD tE po LT.o,Ie _ _ HK.o,.inl rfl,ints_set HI.o (by show w.heap.size+1+tn<w1.heap.size;omega)⟩
                    . rw[po]at r0;go_wp2
                      go_roundg (ts.length-(q+1))
                      case measure=>omega
                      case rel=>
                       refine⟨b,M2,sB,q+1,rfl,Uu,VH,rfl,HU.o,HK.o,?_,HI.o⟩;rcases HA.o with h|h
                       . exact .inl h
                       . right;intro j t hj uv;by_cases e:j=q
                         . subst e;rw[HTq.o]at uv;injection uv with uv;rw[<- uv,Zp];exact po
                         . exact h j t VH uv
                  . go_wp2
                    go_roundg (17-(tan+d+1))
                    case measure=>omega
                    case rel=>
                     refine⟨b,M2,sB,tan+d+1,rfl,Uu,VH,rfl,HU.o.weak (λi h hd=>?_),HI.o⟩;rcases hd with hd|⟨rfl,hd⟩
                     . exact .inr (.inl (.inl hd))
                     . by_cases e:h=tan+d
                       . subst e;rcases HA.o with hb|hb
                         . exact .inl hb
                         . right;right;intro _;refine⟨λ_ t ht=>?_,λho=>absurd HO.o.1 ho⟩;rw[mx.o.1]at ht;obtain⟨t',ht',rfl⟩:=Zy.1 ht;obtain⟨j,hj⟩:=YG.1 ht';rw[HO.o.2];exact hb j t' (by have:=(Z7.1 hj).1;omega) hj
                       . exact .inr agB
               . have q1:=HU.o.bad.cell k VH;have q1:=HU.o.bad.free k
                 have HO:Hid (¬Ph ws k hh):=by
                  have hx1:¬Ph ws k hh:=an1;exact hx1
                 have ZD:hh<tan\/(tan<=hh/\16<hh-tan+K8):=VH;clear hok;rcases ZD with hc1|⟨hc1,hc1⟩
                 all_goals
                  go_wp2
                  go_roundg (17-(hh+1))
                  case measure=>omega
                  case rel=>
                   refine⟨b,M1,OT v9 k,hh+1,rfl,Uu,VH,rfl,(HU.o.akg hkn hM HO.o).weak (λi h hd=>?_),ints_set HI.o hD⟩;rcases hd with hd|⟨rfl,hd⟩
                   . exact .inr (.inl (.inl (.inl hd)))
                   . by_cases e:h=hh
                     . subst e;exact .inr (.inl (.inr KP))
                     . exact .inr (.inl agB)
           . obtain rfl:hh=17:=by omega
             go_wp2
             go_roundg (ws.length-(k+1))
             case measure=>omega
             case rel=>
              refine⟨b,M1,v9,k+1,rfl,Uu,VH,rfl,HU.o.weak (λi h hd=>?_)⟩;by_cases e:i=k
              . subst e;exact .inr agB
              . exact .inr (.inl (.inl ⟨VH,hd.2⟩))
        . obtain rfl:k=ws.length:=by omega
          go_wp2
          go_roundg (2*Gv ws.length M'+(if b=true then 1 else 0))
          case measure=>
           have h1:=HU.o.le;have h1:=HU.o.lt;cases b
           . simp;omega
           . have:=h1 rfl;simp;omega
          case rel=>exact⟨b,M',qD,_,rfl,HU.o,rfl⟩
end Go.Proofs.Rz
namespace Kn
open Go
theorem Aq {sel src:List UInt8}{n:Nat}{a:Int}(h:Ti sel src n 0 a):a=0:=by
 rcases h with⟨_,h,_⟩|⟨_,_,h,_⟩|⟨_,_,_,h,_⟩|⟨_,_,hw,e',i,hf,hr⟩
 . omega
 . omega
 . omega
 . rcases hr with⟨j,x,rfl,hx,he,_⟩|⟨_,_,h⟩
   . exact apd
   . exact h
theorem wR {sel src:List UInt8}{n:Nat}{a:Int}(h:Ti sel src n 0 a):selector sel=true:=by
 rcases h with⟨_,h,_⟩|⟨_,_,h,_⟩|⟨_,_,_,h,_⟩|⟨hs,_⟩
 . omega
 . omega
 . omega
 . exact hs
def Ua (m:Im)(cls sel src:ByteArray)(e a:Int)(m':Im):Prop:=
 match m.cls cls with
 | none=>e=2/\a=0/\m'=m
 | some c=>Ti (bl sel) (bl src) (m.tot c) e a/\m'=if e=0 then m.UY c (·.put ⟨sel,(Vh (bl src)).1⟩) else m
theorem sO {m m1 m2:Im}{cls sel src:ByteArray}{e a e' a':Int}(h:Ua m cls sel src e a m1)(h':Ua m cls sel src e' a' m2):e=e'/\a=a'/\m1=m2:=by
 unfold Ua at h h'
 cases hc:m.cls cls with
 | none=>rw[hc]at h h';simp only at h h';exact⟨h.1.trans h'.1.symm,h.2.1.trans h'.2.1.symm,h.2.2.trans h'.2.2.symm⟩
 | some c=>
  rw[hc]at h h';simp only at h h';obtain⟨h1,h2⟩:=wQ h.1 h'.1;subst h1 h2;exact⟨rfl,rfl,h.2.trans h'.2.symm⟩
variable {m m' : Im}
theorem jc (h:U3 m){cls sel src:ByteArray}{e a:Int}(hr:Ua m cls sel src e a m'):U3 m'/\Ext m m':=by
 unfold Ua at hr
 cases hc:m.cls cls with
 | none=>rw[hc]at hr;obtain⟨_,_,rfl⟩:=hr;exact⟨h,Ext.refl m'⟩
 | some c=>
  rw[hc]at hr;simp only at hr;obtain⟨hm,rfl⟩:=hr;by_cases he:e=0
  . subst he;rw[ZU rfl];have ha:=Aq hm;subst ha;exact adF h c ⟨sel,(Vh (bl src)).1⟩ (wR hm) (af4 hm).2
  . rw[ZX he];exact NU
def SN.Sz (fuel n:Nat):SN->Prop
 | .on _ fuel' Sf=>fuel'=fuel/\Sf.length<=n
 | _=>True
theorem vN (m:Im)(fuel:Nat)(C_:Option Nat)(to:Vl)(sel:ByteArray)(args:List Vl)(fs:List Fr):(m.send fuel C_ to sel args fs).Sz fuel (fs.length+1):=by
 unfold Im.send
 repeat' split
 all_goals first|trivial|exact⟨rfl,Vy⟩
theorem SN.Sz.le {fuel n n':Nat}{g:SN}(h:g.Sz fuel n)(hl:n<=n'):g.Sz fuel n':=by
 cases g with
 | on m f fs=>exact⟨h.1,ZC h.2 hl⟩
 | told m v=>trivial
 | stop m e=>trivial
theorem jm (m:Im)(fuel:Nat)(v:Vl)(fs:List Fr):(QJ m fuel v fs).Sz fuel fs.length:=by
 cases fs with
 | nil=>trivial
 | cons f r=>exact⟨rfl,Vy⟩
theorem lC {c:Prop}[Decidable c]{fuel n:Nat}{a b:SN}(h1:a.Sz fuel n)(h2:b.Sz fuel n):(if c then a else b).Sz fuel n:=by
 by_cases h:c
 . rw[ZU h];exact h1
 . rw[ZX h];exact h2
theorem fO (m:Im)(fuel:Nat)(x:W)(f:Fr)(fs:List Fr):(VA m fuel x f fs).Sz fuel (fs.length+2):=by
 unfold VA;dsimp only
 repeat' refine lC ?_ ?_
 all_goals try split
 all_goals try (repeat' refine lC ?_ ?_)
 all_goals first
  | trivial
  | exact⟨rfl,Vy⟩
  | (split;repeat' refine lC ?_ ?_;all_goals first|trivial|exact⟨rfl,Vy⟩)
  | (refine SN.Sz.le (vN _ _ _ _ _ _ _) ?_;simp;done)
  | (refine SN.Sz.le (jm _ _ _ _) ?_;omega)
theorem afD (m:Im)(fuel:Nat)(fs:List Fr):match stepM m fuel fs with
 | .on _ fuel' Sf=>2*fuel'+Sf.length<2*fuel+fs.length
 | _=>True:=by
 cases fs with
 | nil=>trivial
 | cons f r=>
  cases hx:f.ws[f.pc]? with
  | none=>
   simp only[stepM,hx];have:=jm m fuel f.self r
   cases hg:QJ m fuel f.self r with
   | on m' f' Sf=>rw[hg]at this;have h1:=this.1;have h2:=this.2;simp only[ZI];omega
   | told m' v=>trivial
   | stop m' e=>trivial
  | some x=>
   cases fuel with
   | zero=>simp only[stepM,hx]
   | succ fuel=>
    simp only[stepM,hx];have:=fO m fuel x.1 {f with pc:=f.pc+1} r
    cases hg:VA m fuel x.1 {f with pc:=f.pc+1} r with
    | on m' f' Sf=>rw[hg]at this;have h1:=this.1;have h2:=this.2;simp only[ZI];omega
    | told m' v=>trivial
    | stop m' e=>trivial
theorem Dl:∀(k:Nat) (m:Im) (fuel:Nat) (fs:List Fr),2*fuel+fs.length<k->∀m' fuel' Sf,runM k (.on m fuel fs)≠.on m' fuel' Sf
 | 0,_,_,_,h=>VH
 | k+1,m,fuel,fs,h=>by
  intro m' fuel' Sf e;unfold runM at e;have hs:=afD m fuel fs
  cases hg:stepM m fuel fs with
  | on m1 f1 fs1=>
   rw[hg]at hs e;simp only at hs;exact Dl k m1 f1 fs1 VH m' fuel' Sf e
  | told m1 v=>rw[hg]at e;cases k<;>(unfold runM at e;cases e)
  | stop m1 x=>rw[hg]at e;cases k<;>(unfold runM at e;cases e)
def Im.Uf (m:Im)(to:Vl)(sel:ByteArray)(args:List Vl)(fuel:Int):Vl×Int×Int×Im:=
 if selector (bl sel)=false\/U6 (bl sel)≠args.length\/fuel<0\/3000<fuel then (Vl.zero,0,1,m)
 else if (to::args).any (λv=>v.obj&&!m.there v.n)=true then (Vl.zero,0,4,m)
 else match runM (2*fuel.toNat+64) (m.send fuel.toNat (m.of to) to sel args []) with
  | .told m' v=>(v,0,0,m')
  | .stop m' e=>(Vl.zero,e,0,m')
  | .on m' _ _=>(Vl.zero,0,0,m')
def Im.slot (m:Im)(o j:Int):Vl×Int:=match (if m.there o=true then m.obs[o.toNat]? else none) with
 | none=>(Vl.zero,4)
 | some x=>if 0<=j then (match x.slots[j.toNat]? with
  | some v=>(v,0)
  | none=>(Vl.zero,4)) else (Vl.zero,4)
def Im.nP (m:Im)(o:Int):ByteArray×Int:=match (if m.there o=true then m.obs[o.toNat]? else none) with
 | none=>(⟨#[]⟩,4)
 | some x=>((m.kl[x.cls]?.map (·.name)).getD ⟨#[]⟩,0)
def Vl.val (v:Vl):Value:=.agg #[.bool v.obj,VI v.n]
end Kn
namespace Go.Proofs.Rz
open ChangeShapes WideShapes ChangeAt RowKit Kn Tryz
def vcs:List Vl->List Value
 | []=>[]
 | v::r=>.bool v.obj::VI v.n::vcs r
theorem Kr (l:List Vl):(vcs l).length=l.length*2:=by
 induction l with
 | nil=>rfl
 | cons v r ih=>simp[vcs,ih];omega
theorem PV:∀(l:List Vl) (i:Nat) (v:Vl),l[i]?=some v->(vcs l)[i*2]?=some (.bool v.obj)/\(vcs l)[i*2+1]?=some (VI v.n)
 | [],i,v,h=>MO
 | x::r,0,v,h=>by
  simp at h;subst h;exact KP
 | x::r,i+1,v,h=>by
  have:=PV r i v Nv;rw[show (i+1)*2=i*2+1+1 from VH];simpa[vcs]using this
theorem Ej:∀(l:List Vl) (i:Nat) (v:Vl),i<l.length->vcs (l.set i v)=((vcs l).set (i*2) (.bool v.obj)).set (i*2+1) (VI v.n)
 | [],i,v,h=>vF
 | x::r,0,v,h=>rfl
 | x::r,i+1,v,h=>by
  have:=Ej r i v Nv;rw[show (i+1)*2=i*2+1+1 from VH];simp[vcs,this]
theorem afZ (l:List Vl):∀u∈vcs l,u.oneCell'=true:=by
 induction l with
 | nil=>intro u hu;cases hu
 | cons v r ih=>
  intro u hu;simp only[vcs,ZM]at hu;rcases hu with rfl|rfl|hu
  . rfl
  . rfl
  . exact ih u hu
variable {m : Im}
theorem Rj {o:Int}(h:m.there o=true):∃i x,o=((i:Nat):Int)/\m.obs[i]?=some x/\o.toNat=i/\i<m.obs.length:=by
 obtain⟨h0,h0⟩:=Im.NJ.1 h;have hi:o.toNat<m.obs.length:=VH;exact⟨o.toNat,_,VH,Z8 hi,rfl,hi⟩
theorem XJ (fb o j:Nat):(VJ fb o).add j=(VJ fb (o+j)):=qP
theorem Ug (w:World)(cs:Array Value)(t:TypeId)(z k:Nat)(hz:z=w.heap.size):(w.alloc (.cells cs t)).cell? (VJ z k)=cs[k]?:=by
 subst hz;simp only[World.cell?,(Z4 w (.cells cs t)).1];simp
theorem Addr.add_block (a:Addr)(j:Nat):(a.add j).block=a.block:=by unfold Addr.add;split<;>rfl
def UH (w:World)(av:Value)(args:List Vl)(ab:Nat):Prop:=∃ap cap,av=.slice ap args.length cap/\(args≠[]->∃ad:Addr,ap=some ad/\ad.block=ab/\∀j u,(vcs args)[j]?=some u->w.cell? (ad.add j)=some u)
variable {w w' : World}
theorem UH.same {av:Value}{args:List Vl}{ab:Nat}(h:UH w av args ab)(e:args≠[]->w'.heap[ab]?=w.heap[ab]?):UH w' av args ab:=by
 obtain⟨ap,cap,e1,h1⟩:=h;refine⟨ap,cap,e1,λhn=>?_⟩;obtain⟨ad,e1,e3,h1⟩:=h1 hn;refine⟨ad,e1,e3,λj u hu=>(Z9 (a:=ad.add j) ?_).trans (h1 j u hu)⟩;rw[Addr.add_block,e3];exact e hn
theorem Bg {a:Addr}{v:Value}(h:w.cell? a=some v):a=(VJ a.block a.off):=by
 obtain⟨b,o,sp⟩:=a
 cases sp with
 | none=>rfl
 | some x=>
  simp only[World.cell?]at h;split at h
  . simp at h
  . cases h
theorem KL {ap:Option Addr}{cap:Nat}{args:List Vl}{ab:Nat}(h:UH w (.slice ap args.length cap) args ab)(hne:args≠[]):∃o,ap=some (VJ ab o)/\∀k v,args[k]?=some v->w.cell? (VJ ab (o+k*2))=some (.bool v.obj)/\w.cell? (VJ ab (o+k*2+1))=some (VI v.n):=by
 obtain⟨ap',cap',e,h1⟩:=h;injection e with e1 e2 e3;subst e1;obtain⟨ad,e2,e3,h2⟩:=h1 hne
 obtain⟨v0,hv0⟩:∃v,args[0]?=some v:=by
  cases args with
  | nil=>exact absurd rfl hne
  | cons v r=>exact⟨v,rfl⟩
 have hp:=Bg (h2 _ _ (PV _ _ v0 hv0).1);simp only[Yu,Addr.add,Y6]at hp;subst e3;refine⟨ad.off,by rw[e2,<- hp],λk v hk=>?_⟩;obtain⟨g1,g2⟩:=PV _ _ v hk;have c0:=h2 _ _ g1;have c1:=h2 _ _ g2;rw[hp,XJ]at c0 c1;exact⟨c0,c1⟩
variable {f : Fr}
theorem rC {x:Kn.W×Nat}(h:Rk m 0 f)(hx:f.ws[f.pc]?=some x):f.st.length-(U9 x.1.k x.1.n).1.toNat+(U9 x.1.k x.1.n).2.toNat<=16:=by
 refine qL ?_;intro hlt hw;have hok:=(vV h.good hlt h.at_).2;unfold tk ly at hok;rw[hw]at hok;exact hok
theorem BU {x:Kn.W×Nat}(hm:U3 m)(h:Rk m 0 f)(hx:f.ws[f.pc]?=some x)(hk:x.1.k=103\/x.1.k=112):∃(i j:Nat) (o:Ob),f.self.n=i/\x.1.n=j/\m.obs[i]?=some o/\j<o.slots.length:=by
 refine qL ?_;intro hlt hw;have hn:=h.good.num f.pc hlt;unfold SC TG at hn;rw[hw]at hn;have h1:=VY.1 λe=>hn (.inr ⟨hk,e⟩);have h1:=(h.good.shp f.pc x hx).low (by rcases hk with e|e<;>simp[e]);have hwd:=h.wide;unfold Im.width at hwd
 cases ho:f.self.obj with
 | false=>rw[ho]at hwd;simp at hwd;omega
 | true=>
  rw[ho]at hwd;simp only[Y6]at hwd;obtain⟨i,o,e1,e2,e3,_⟩:=Rj (h.self.2 ho);rw[e3,e2]at hwd;simp at hwd;exact⟨i,x.1.n.toNat,o,e1,VH,e2,VH⟩
theorem SV {l:List Vl}(h:1<=l.length):∃v r,l=v::r:=by
 cases l with
 | nil=>simp at h
 | cons v r=>exact⟨v,r,rfl⟩
theorem PW {l:List Vl}(h:2<=l.length):∃b a r,l=b::a::r:=by
 obtain⟨b,l1,rfl⟩:=SV (l:=l) VH;obtain⟨a,r,rfl⟩:=SV (l:=l1) (by simp at h;omega);exact⟨b,a,r,rfl⟩
def Q7 (s:ByteArray):Int:=if s≠⟨#[]⟩/\selector (bl s)=false then 1 else 0
end Go.Proofs.Rz
namespace Kn
open Go
inductive To:SN->SN->Prop
 | refl (g:SN):To g g
 | step {m:Im}{fuel:Nat}{fs:List Fr}{g:SN} (h:To (stepM m fuel fs) g):To (.on m fuel fs) g
theorem To.trans {a b c:SN}(h1:To a b)(h2:To b c):To a c:=by
 induction h1 with
 | refl g=>exact h2
 | step _ ih=>exact .step (ih h2)
variable {m : Im}
variable {fs : List Fr}
theorem To.one {fuel:Nat}:To (.on m fuel fs) (stepM m fuel fs):=.step (.refl _)
theorem To.ok {a b:SN}(h:To a b)(ha:a.Ok):b.Ok:=by
 induction h with
 | refl g=>exact ha
 | step _ ih=>exact ih (step_ok ha)
def SN.adu:SN->Bool
 | .on _ _ _=>true
 | _=>false
theorem run_end {g:SN}(h:g.adu=false)(k:Nat):runM k g=g:=by
 cases g with
 | on m f fs=>cases h
 | told m v=>cases k<;>rfl
 | stop m e=>cases k<;>rfl
theorem To.run {g e:SN}(h:To g e)(he:e.adu=false):∀k,(runM k g).adu=false->runM k g=e:=by
 induction h with
 | refl g=>intro k _;exact run_end he k
 | step _ ih=>
  intro k hk
  cases k with
  | zero=>cases hk
  | succ k=>exact ih he k hk
theorem To.ends {fuel:Nat}{e:SN}(h:To (.on m fuel fs) e)(he:e.adu=false){k:Nat}(hk:2*fuel+fs.length<k):runM k (.on m fuel fs)=e:=by
 refine h.run he k ?_
 cases hr:runM k (.on m fuel fs) with
 | on m' f' Sf=>exact absurd hr (Dl k m fuel fs hk m' f' Sf)
 | told m' v=>rfl
 | stop m' x=>rfl
theorem To.sent {fuel:Nat}{C_:Option Nat}{to:Vl}{sel:ByteArray}{args:List Vl}{e:SN}(h:To (m.send fuel C_ to sel args []) e)(he:e.adu=false):runM (2*fuel+64) (m.send fuel C_ to sel args [])=e:=by
 have hs:=vN m fuel C_ to sel args []
 cases hg:m.send fuel C_ to sel args []with
 | on m' f' Sf=>
  rw[hg]at h hs;have h1:=hs.1;have h1:=hs.2;simp only[YJ]at h1;exact h.ends he VH
 | told m' v=>
  rw[hg]at h;cases h;exact run_end rfl _
 | stop m' x=>
  rw[hg]at h;cases h;exact run_end rfl _
def SN.Lk (n:Nat):SN->Prop
 | .on m fuel _=>m.looks+2*fuel<=n
 | .told m _=>m.looks<=n
 | .stop m _=>m.looks<=n
theorem gJ (m:Im)(fuel:Nat)(C_:Option Nat)(to:Vl)(sel:ByteArray)(args:List Vl)(fs:List Fr):(m.send fuel C_ to sel args fs).Lk (m.looks+2*fuel+2):=by
 unfold Im.send
 repeat' split
 all_goals (simp only[SN.Lk];omega)
theorem SN.Lk.le {n n':Nat}{g:SN}(h:g.Lk n)(hl:n<=n'):g.Lk n':=by
 cases g with
 | on m f fs=>exact ZC h hl
 | told m v=>exact ZC h hl
 | stop m e=>exact ZC h hl
theorem iI (m:Im)(fuel:Nat)(v:Vl)(fs:List Fr):(QJ m fuel v fs).Lk (m.looks+2*fuel):=by
 cases fs with
 | nil=>show m.looks<=_;omega
 | cons f r=>exact ZN _
theorem nJ {c:Prop}[Decidable c]{n:Nat}{a b:SN}(h1:a.Lk n)(h2:b.Lk n):(if c then a else b).Lk n:=by
 by_cases h:c
 . rw[ZU h];exact h1
 . rw[ZX h];exact h2
theorem BO (m:Im)(s:ByteArray):(m.make s).2.2.looks=m.looks:=by unfold Im.make;(repeat' split)<;>rfl
theorem tu (m:Im)(o:Int)(s:ByteArray):(m.be o s).2.looks=m.looks:=by unfold Im.be;(repeat' split)<;>rfl
theorem D7 (m:Im)(s t:ByteArray):(m.drop s t).2.looks=m.looks:=by unfold Im.drop;(repeat' split)<;>rfl
theorem D6 (m:Im)(s t:ByteArray):(m.move s t).2.looks=m.looks:=by unfold Im.move;(repeat' split)<;>rfl
theorem BR (m:Im)(s t u:ByteArray):(m.copy s t u).2.looks=m.looks:=by unfold Im.copy;(repeat' split)<;>rfl
theorem afm (m:Im)(fuel:Nat)(x:W)(f:Fr)(fs:List Fr):(VA m fuel x f fs).Lk (m.looks+2*fuel+2):=by
 have hm:=BO m (VF x.a);have hb:=λo=>tu m o (VF x.a);have hd:=D7 m (VF x.a) (VF x.sel);have hv:=D6 m (VF x.a) (VF x.b);have hc:=BR m (VF x.a) (VF x.sel) (VF x.b);unfold VA;dsimp only
 repeat' refine nJ ?_ ?_
 all_goals try split
 all_goals try (repeat' refine nJ ?_ ?_)
 all_goals first
  | (simp only[SN.Lk];omega)
  | (simp only[SN.Lk,hm];omega)
  | (simp only[SN.Lk,hb];omega)
  | (rename_i he;rw[he]at hm;simp only at hm;simp only[SN.Lk];omega)
  | (rename_i he;rw[he]at hd;simp only at hd;simp only[SN.Lk];omega)
  | (rename_i he;rw[he]at hv;simp only at hv;simp only[SN.Lk];omega)
  | (rename_i he;rw[he]at hc;simp only at hc;simp only[SN.Lk];omega)
  | (split;rename_i he;have hb1:=hb _;rw[he]at hb1;simp only at hb1;repeat' refine nJ ?_ ?_;all_goals (simp only[SN.Lk];omega))
  | exact gJ _ _ _ _ _ _ _
  | (refine SN.Lk.le (iI _ _ _ _) ?_;omega)
theorem aeX (m:Im)(fuel:Nat)(fs:List Fr):(stepM m fuel fs).Lk (m.looks+2*fuel):=by
 cases fs with
 | nil=>show m.looks<=_;omega
 | cons f r=>
  cases hx:f.ws[f.pc]? with
  | none=>simp only[stepM,hx];exact iI _ _ _ _
  | some x=>
   cases fuel with
   | zero=>simp only[stepM,hx];exact ZN _
   | succ fuel=>
    simp only[stepM,hx];exact(afm m fuel x.1 {f with pc:=f.pc+1} r).le VH
theorem adt:∀(k:Nat) (g:SN) (n:Nat),g.Lk n->(runM k g).Lk n
 | 0,g,n,h=>by cases g<;>exact h
 | k+1,.on m fuel fs,n,h=>by unfold runM;exact adt k _ n ((aeX m fuel fs).le h)
 | k+1,.told m v,n,h=>h
 | k+1,.stop m e,n,h=>h
theorem Af (m:Im)(to:Vl)(sel:ByteArray)(args:List Vl)(fuel:Int):(m.Uf to sel args fuel).2.2.2.looks<=m.looks+6002:=by
 unfold Im.Uf;split
 . show m.looks<=_;omega
 . rename_i h;split
   . show m.looks<=_;omega
   . have hl:=adt (2*fuel.toNat+64) _ _ (gJ m fuel.toNat (m.of to) to sel args [])
     have hf:fuel.toNat<=3000:=by
      omega
     cases hg:runM (2*fuel.toNat+64) (m.send fuel.toNat (m.of to) to sel args []) with
     | on m' f' Sf=>rw[hg]at hl;have hl:m'.looks+2*f'<=_:=hl;show m'.looks<=_;omega
     | told m' v=>rw[hg]at hl;have hl:m'.looks<=_:=hl;show m'.looks<=_;omega
     | stop m' e=>rw[hg]at hl;have hl:m'.looks<=_:=hl;show m'.looks<=_;omega
end Kn
namespace Go.Proofs.Rz
open ChangeShapes WideShapes ChangeAt RowKit Kn Tryz
theorem sD (l:List UInt8):kindOf (PD l)=UD l:=by
 unfold PD Va UD
 by_cases h1:l=[115,101,108,102]
 . simp[h1,kindOf]
 . by_cases h2:l=[112,111,112]
   . simp[h2,kindOf]
   . by_cases h3:l=[100,117,112]
     . simp[h3,kindOf]
     . by_cases h4:l=[114,101,116]
       . simp[h4,kindOf]
       . by_cases h5:l=[43]
         . simp[h5,kindOf]
         . by_cases h6:l=[45]
           . simp[h6,kindOf]
           . by_cases h7:l=[42]
             . simp[h7,kindOf]
             . by_cases h8:l=[60]
               . simp[h8,kindOf]
               . by_cases h9:l=[61]
                 . simp[h9,kindOf]
                 . simp[h1,h2,h3,h4,h5,h6,h7,h8,h9,kindOf]
theorem acu (s:ByteArray)(i:Nat)(hlt:i<s.size):first ((bl s).drop i)=s[i].toNat:=by
 have e:(bl s).drop i=s[i]::(bl s).drop (i+1):=by
  rw[Yx Hz];rfl
 rw[e];rfl
theorem amI (s:ByteArray)(i:Nat)(hlt:i<s.size):kw ((bl s).drop i) =
 if s[i].toNat=45 then (if Q9 (bl s) (i+1)=true then some (⟨45,0,[],[],[]⟩,1) else (TA 110 U8 4 1 ((bl s).drop (i+1))).map dZ)
 else if s[i].toNat=61 then (if (bl s)[i+1]?=some 115 then TA 112 U8 1 2 ((bl s).drop (i+1+1)) else some (⟨61,0,[],[],[]⟩,1))
 else if s[i].toNat=94 then QT 94 1 ((bl s).drop (i+1))
 else if s[i].toNat=62 then TA 62 U8 2 1 ((bl s).drop (i+1))
 else if s[i].toNat=63 then TA 63 U8 2 1 ((bl s).drop (i+1))
 else if s[i].toNat=43\/s[i].toNat=42\/s[i].toNat=60 then some (⟨s[i].toNat,0,[],[],[]⟩,1)
 else if Vj isSmall 6 ((bl s).drop i)=[] then TA 110 U8 4 0 ((bl s).drop i)
 else if (bl s)[i+(Vj isSmall 6 ((bl s).drop i)).length]?=some 58 then TP (QG (Vj isSmall 6 ((bl s).drop i))) ((Vj isSmall 6 ((bl s).drop i)).length+1) ((bl s).drop (i+(Vj isSmall 6 ((bl s).drop i)).length+1))
 else if (bl s)[i+(Vj isSmall 6 ((bl s).drop i)).length]?=some 47 then QT 115 0 ((bl s).drop i)
 else if Vj isSmall 6 ((bl s).drop i)=[97] then TA 97 Gx 1 1 ((bl s).drop (i+1))
 else if Vj isSmall 6 ((bl s).drop i)=[115] then TA 103 U8 1 1 ((bl s).drop (i+1))
 else if PD (Vj isSmall 6 ((bl s).drop i))=0 then none else some (⟨PD (Vj isSmall 6 ((bl s).drop i)),0,[],[],[]⟩,(Vj isSmall 6 ((bl s).drop i)).length):=by
 refine ah1 ?_;intro g1 g2
 have g3:(((bl s).drop i).length=1\/((bl s).drop i)[1]?=some 32)↔Q9 (bl s) (i+1)=true:=by
  rw[g1,Zh,VB];unfold Q9;rw[VB];exact anh
 unfold kw;rw[acu s i hlt];simp only[g3];rw[g2 1,g2 2,g1 1,g2 _,g1 _];rfl
theorem ac3 (b:Nat)(s:ByteArray)(i:Nat)(w:World)(hs:s.size<=140737488355328)(hlt:i<s.size)(hg1:2<b)(hg2:1<b)(g_:U7 w)(U':UR w)(h:Uz w b s i):
 Calls prog 76 #[VG b] w λe w'=>e=.returned (RV (kw ((bl s).drop i)))/\Got w w' b s i (kw ((bl s).drop i)):=by
 rw[amI s i hlt];by_cases h45:s[i].toNat=45
 . rw[ZU h45];by_cases he:Q9 (bl s) (i+1)=true
   . rw[ZU he];exact Ry rfl rfl VH rfl (jR b s i w hs hlt hg1 hg2 g_ U' h45 he h)
   . rw[ZX he];exact Ag b s i _ w hs hlt hg1 hg2 g_ U' h45 (by simpa using he) rfl h
 rw[ZX h45];by_cases BB:s[i].toNat=61
 . rw[ZU BB];rcases MW s (i+1) 115 with⟨y_,VC,hd⟩|⟨VC,hd⟩
   . rw[ZU hd];exact nU b s i _ w hs hlt hg1 hg2 g_ U' BB y_ VC rfl h
   . rw[ZX hd];exact Ry rfl rfl VH rfl (uP b s i w hs hlt hg1 hg2 g_ U' BB VC h)
 rw[ZX BB];by_cases Kb:s[i].toNat=94
 . rw[ZU Kb];exact oZ b s i _ w hs hlt hg1 hg2 g_ U' Kb rfl h
 rw[ZX Kb];by_cases Ow:s[i].toNat=62
 . rw[ZU Ow];exact ae4 b s i _ w hs hlt hg1 hg2 g_ U' Ow rfl h
 rw[ZX Ow];by_cases h63:s[i].toNat=63
 . rw[ZU h63];exact adA b s i _ w hs hlt hg1 hg2 g_ U' h63 rfl h
 rw[ZX h63];by_cases hp:s[i].toNat=43\/s[i].toNat=42\/s[i].toNat=60
 . rw[ZU hp];rcases hp with hp|hp|hp
   . exact Ry rfl (by rw[hp];rfl) VH rfl (dM b s i w hs hlt hg1 hg2 g_ U' hp h)
   . exact Ry rfl (by rw[hp];rfl) VH rfl (eH b s i w hs hlt hg1 hg2 g_ U' hp h)
   . exact Ry rfl (by rw[hp];rfl) VH rfl (dQ b s i w hs hlt hg1 hg2 g_ U' hp h)
 rw[ZX hp]
 have hno:s[i].toNat≠45/\s[i].toNat≠61/\s[i].toNat≠94/\s[i].toNat≠62/\s[i].toNat≠63/\s[i].toNat≠43/\s[i].toNat≠42/\s[i].toNat≠60:=
  ⟨h45,BB,Kb,Ow,h63,λe=>hp (.inl e),λe=>hp vJ,λe=>hp apu⟩
 obtain⟨lt,hl⟩:∃lt,Vj isSmall 6 ((bl s).drop i)=lt:=Vx;rw[hl]
 by_cases hle:lt=[]
 . subst hle;rw[ZU rfl];exact qR b s i _ w hs hlt hg1 hg2 g_ U' hno hl rfl h
 rw[ZX hle];have hok:=G9 hl hle;rcases MW s (i+lt.length) 58 with⟨y_,N0,hd⟩|⟨N0,hd⟩
 . rw[ZU hd];exact lW b s i lt _ w hs hlt hg1 hg2 g_ U' hno hl hle y_ N0 rfl h
 rw[ZX hd];rcases MW s (i+lt.length) 47 with⟨y_,h47,hd⟩|⟨h47,hd⟩
 . rw[ZU hd];exact aaL b s i lt _ w hs hlt hg1 hg2 g_ U' hno hl hle N0 y_ h47 rfl h
 rw[ZX hd]
 by_cases ha:lt=[97]
 . rw[ZU ha];subst ha;exact acA b s i _ w hs hlt hg1 hg2 g_ U' hno hl N0 h47 rfl h
 rw[ZX ha]
 by_cases hs2:lt=[115]
 . rw[ZU hs2];subst hs2;exact dF b s i _ w hs hlt hg1 hg2 g_ U' hno hl N0 h47 rfl h
 rw[ZX hs2];have hk:=sD lt;by_cases hz:PD lt=0
 . rw[ZU hz];rw[hz]at hk;refine RS rfl ?_;refine(Dj b s i lt 0 w hs hlt hg1 hg2 g_ U' hno hl hle N0 h47 ha hs2 hk.symm h).mono ?_;rintro e w' ⟨rfl,ht⟩;exact⟨rfl,_,hok,ht⟩
 . rw[ZX hz];exact Ry rfl (by show _=Value.agg #[VI (kindOf (PD lt):Nat),_,_,_,_,.pointer none];rw[hk]) hok rfl (Dj b s i lt (UD lt) w hs hlt hg1 hg2 g_ U' hno hl hle N0 h47 ha hs2 rfl h)
def Rx (l:List (Kn.W×Nat)):List Value:=l.flatMap λp=>QM p.1
def Qo (l:List (Kn.W×Nat)):List Value:=l.map λp=>VI (p.2:Nat)
theorem Au (l:List (Kn.W×Nat))(p:W×Nat):Rx (l++[p])=Rx l++QM p.1:=by simp[Rx]
theorem Ai (l:List (Kn.W×Nat))(p:W×Nat):Qo (l++[p])=Qo l++[VI (p.2:Nat)]:=by simp[Qo]
theorem nH (x:W):∀u∈QM x,u.oneCell'=true:=by
 intro u hu;simp only[QM,ZM,Zx,YE]at hu;rcases hu with rfl|rfl|rfl|rfl|rfl|rfl<;>rfl
theorem nR:(prog.info? 146).map (λi=>(i.zero,i.size,i.bytes))=some (some (.agg #[VI 0,VI 0,.string ⟨#[]⟩,.string ⟨#[]⟩,.string ⟨#[]⟩,.pointer none]),6,72):=VE
theorem aea:(prog.info? 3).map (λi=>(i.zero,i.size,i.bytes))=some (some (VI 0),1,8):=VE
structure Rw (w W:World)(s:ByteArray)(j:Nat)(aw M4:List (Kn.W×Nat))(vw vs:Value):Prop where
 rd:Uz W w.heap.size s j
 hu:∃y0 y1 y2 y3 y4,RP W (w.heap.size+1) y0 y1 y2 y3 y4
 ow:W.ownsRow (w.heap.size+2) 146 6 vw aw.length (Rx aw)
 os:W.ownsRow (w.heap.size+2) 3 1 vs M4.length (Qo M4)
 ne:vw.ownBlock=none\/vs.ownBlock=none\/vw.ownBlock≠vs.ownBlock
 below:Below w.heap.size w W
theorem own_ne {W:World}{B k:Nat}{e:TypeId}{size n:Nat}{v:Value}{xs:List Value}(h:W.ownsRow B e size v n xs)(hk:k<B):v.ownBlock=none\/v.ownBlock≠some k:=by
 cases hv:v.ownBlock with
 | none=>exact .inl rfl
 | some g=>exact .inr (λe=>by injection e with e;have:=(h.lt g hv).1;omega)
theorem Lm {W:World}{B B':Nat}{e:TypeId}{size n:Nat}{v:Value}{xs:List Value}(h:W.ownsRow B e size v n xs)(hB:B'<=B):W.ownsRow B' e size v n xs:=by
 refine⟨h.1,?_⟩;rcases h.2 with h2|⟨g,cap,cur,h1,h2,h3⟩
 . exact .inl h2
 . exact .inr ⟨g,cap,cur,h1,ZC hB h2,h3⟩
theorem Rw.to {w W W':World}{s:ByteArray}{j j':Nat}{aw M4:List (Kn.W×Nat)}{vw vs:Value}(h:Rw w W s j aw M4 vw vs)(t:SA W W' w.heap.size s j'):Rw w W' s j' aw M4 vw vs:=by
 obtain⟨y0,y0,y0,y0,y0,hy⟩:=h.hu;exact⟨t.rd,⟨_,_,_,_,_,hy.to t VH⟩,h.ow.kept t.grown (own_ne h.ow VH),h.os.kept t.grown (own_ne h.os VH),h.ne,h.below.grown t.grown h.below.size akJ⟩
theorem ou (W:World)(u:Nat)(y0 y1 y2 y3 y4:Value):W.grownBy ((((((W.setCell (VJ u 0) y0).setCell (VJ u 1) y1).setCell (VJ u 2) y2).setCell (VJ u 3) y3).setCell (VJ u 4) y4).setCell (VJ u 5) (.pointer none)) (some u):=
 (((((Qb W (VJ u 0) y0).trans (Qb _ (VJ u 1) y1)).trans (Qb _ (VJ u 2) y2)).trans (Qb _ (VJ u 3) y3)).trans (Qb _ (VJ u 4) y4)).trans (Qb _ (VJ u 5) _)
theorem Rw.aft {w W:World}{s:ByteArray}{j:Nat}{aw M4:List (Kn.W×Nat)}{vw vs:Value}(h:Rw w W s j aw M4 vw vs)(y0 y1 y2 y3 y4:Value):
 Rw w ((((((W.setCell (VJ (w.heap.size+1) 0) y0).setCell (VJ (w.heap.size+1) 1) y1).setCell (VJ (w.heap.size+1) 2) y2).setCell (VJ (w.heap.size+1) 3) y3).setCell (VJ (w.heap.size+1) 4) y4).setCell (VJ (w.heap.size+1) 5) (.pointer none)) s j aw M4 vw vs/\
 RP ((((((W.setCell (VJ (w.heap.size+1) 0) y0).setCell (VJ (w.heap.size+1) 1) y1).setCell (VJ (w.heap.size+1) 2) y2).setCell (VJ (w.heap.size+1) 3) y3).setCell (VJ (w.heap.size+1) 4) y4).setCell (VJ (w.heap.size+1) 5) (.pointer none)) (w.heap.size+1) y0 y1 y2 y3 y4:=by
 obtain⟨z0,z0,z0,z0,z0,hz⟩:=h.hu;have hg:=ou W (w.heap.size+1) y0 y1 y2 y3 y4;have Ni:=hz.N8 y0 y1 y2 y3 y4;exact⟨⟨(hg.block _ h.rd.lt akS).trans h.rd,⟨_,_,_,_,_,Ni⟩,h.ow.kept hg (own_ne h.ow VH),h.os.kept hg (own_ne h.os VH),h.ne,h.below.grown hg h.below.size akJ⟩,Ni⟩
theorem Rw.anJ {w W W':World}{s:ByteArray}{j:Nat}{aw M4:List (Kn.W×Nat)}{vw vs v':Value}{o:Obj}{x:Kn.W×Nat}(h:Rw w W s j aw M4 vw vs)(hown:W'.ownsRow (w.heap.size+2) 146 6 v' (aw.length+1) (Rx aw++QM x.1))
 (hg:(W.alloc o).grownBy W' vw.ownBlock) (hb:v'.ownBlock=vw.ownBlock\/v'.ownBlock=some (W.heap.size+1)):Rw w W' s j (aw++[x]) M4 v' vs:=by
 obtain⟨z0,z0,z0,z0,z0,hz⟩:=h.hu
 have Gk:∀k,k<w.heap.size+2->k<W.heap.size->W'.heap[k]?=W.heap[k]?:=λk hk hlt=>
  (hg.block k Vo (λe=>by have:=(h.ow.lt k e.symm).1;omega)).trans (ZV W o k hlt)
 have hos:=(h.os.alloc o).kept hg (by
  rcases h.ne with e|e|e
  . cases hv:vs.ownBlock with
    | none=>exact .inl rfl
    | some g=>rw[e];exact .inr Vy
  . exact .inl e
  . exact .inr (λe'=>e e'.symm))
 refine⟨(Gk _ VH h.rd.lt).trans h.rd,⟨_,_,_,_,_,(Gk _ VH hz.lt).trans hz⟩,by rw[Au,Zw];exact hown,hos,?_,?_⟩
 . rcases hb with e|e
   . rw[e];exact h.ne
   . cases hv:vs.ownBlock with
     | none=>exact .inr NP
     | some g=>
      have:=(h.os.lt g hv).2;exact ah5
 . exact Tc h.below UM (Lm h.ow VH) hg
theorem Rw.aoj {w W W':World}{s:ByteArray}{j:Nat}{aw M4:List (Kn.W×Nat)}{vw vs v':Value}{o:Obj}{x:Kn.W×Nat}(h:Rw w W s j aw M4 vw vs)(hown:W'.ownsRow (w.heap.size+2) 3 1 v' (M4.length+1) (Qo M4++[VI (x.2:Nat)]))
 (hg:(W.alloc o).grownBy W' vs.ownBlock) (hb:v'.ownBlock=vs.ownBlock\/v'.ownBlock=some (W.heap.size+1)):Rw w W' s j aw (M4++[x]) vw v':=by
 obtain⟨z0,z0,z0,z0,z0,hz⟩:=h.hu
 have Gk:∀k,k<w.heap.size+2->k<W.heap.size->W'.heap[k]?=W.heap[k]?:=λk hk hlt=>
  (hg.block k Vo (λe=>by have:=(h.os.lt k e.symm).1;omega)).trans (ZV W o k hlt)
 have how:=(h.ow.alloc o).kept hg (by
  rcases h.ne with e|e|e
  . exact .inl e
  . cases hv:vw.ownBlock with
    | none=>exact .inl rfl
    | some g=>rw[e];exact .inr Vy
  . exact .inr e)
 refine⟨(Gk _ VH h.rd.lt).trans h.rd,⟨_,_,_,_,_,(Gk _ VH hz.lt).trans hz⟩,how,by rw[Ai,Zw];exact hown,?_,?_⟩
 . rcases hb with e|e
   . rw[e];exact h.ne
   . cases hv:vw.ownBlock with
     | none=>exact .inl rfl
     | some g=>
      have:=(h.ow.lt g hv).2;exact ah5
 . exact Tc h.below UM (Lm h.os VH) hg
def RWJ (s:ByteArray)(w:World)(n l:Nat)(a:Act)(W:World):Prop:=
 (l=0/\∃(j:Nat) (acc:List (Kn.W×Nat)) (vw vs x7 x10 x11 x12 Ff x14 x15 x16 x17 x18 x19 CT El C5 EA Cq Cv CN Cx CM Cp Ex E7 D3 CK Er EE Co C4 Eq Ct:Value),a={tmps:=#[.string s,undef,vw,vs,VI 0,VG w.heap.size,VG (w.heap.size+1),x7,.string s,.agg #[.string s,VI 0],x10,x11,x12,Ff,x14,x15,x16,x17,x18,x19,CT,El,C5,EA,Cq,Cv,CN,Cx,CM,Cp,Ex,E7,D3,CK,Er,EE,Co,C4,Eq,Ct],defers:=[]}/\j<=s.size/\n=s.size-j+1/\Ro (bl s) j acc/\Rw w W s j acc acc vw vs)\/
 (l=1/\∃(j:Nat) (vw vs x10 x11 x12 Ff x14 x15 x16 x17 x18 x19 CT El C5 EA Cq Cv CN Cx CM Cp Ex E7 D3 CK Er EE Co C4 Eq Ct:Value),a={tmps:=#[.string s,undef,vw,vs,VI 0,VG w.heap.size,VG (w.heap.size+1),VI (j:Nat),.string s,.agg #[.string s,VI 0],x10,x11,x12,Ff,x14,x15,x16,x17,x18,x19,CT,El,C5,EA,Cq,Cv,CN,Cx,CM,Cp,Ex,E7,D3,CK,Er,EE,Co,C4,Eq,Ct],defers:=[]}/\n=0/\Vh (bl s)=([],(j:Int))/\Below w.heap.size w W)
theorem Bv {s:ByteArray}{w W:World}{j:Nat}{acc:List (Kn.W×Nat)}{vw vs x7 x10 x11 x12 Ff x14 x15 x16 x17 x18 x19 CT El C5 EA Cq Cv CN Cx CM Cp Ex E7 D3 CK Er EE Co C4 Eq Ct:Value}(hj:j<=s.size)(hw:Ro (bl s) j acc)(h:Rw w W s j acc acc vw vs):RWJ s w (s.size-j+1) 0 {tmps:=#[.string s,undef,vw,vs,VI 0,VG w.heap.size,VG (w.heap.size+1),x7,.string s,.agg #[.string s,VI 0],x10,x11,x12,Ff,x14,x15,x16,x17,x18,x19,CT,El,C5,EA,Cq,Cv,CN,Cx,CM,Cp,Ex,E7,D3,CK,Er,EE,Co,C4,Eq,Ct],defers:=[]} W:=
 .inl ⟨rfl,j,acc,vw,vs,x7,x10,x11,x12,Ff,x14,x15,x16,x17,x18,x19,CT,El,C5,EA,Cq,Cv,CN,Cx,CM,Cp,Ex,E7,D3,CK,Er,EE,Co,C4,Eq,Ct,rfl,hj,rfl,hw,h⟩
theorem xG {s:ByteArray}{w W:World}{j:Nat}{vw vs x10 x11 x12 Ff x14 x15 x16 x17 x18 x19 CT El C5 EA Cq Cv CN Cx CM Cp Ex E7 D3 CK Er EE Co C4 Eq Ct:Value}(hz:Vh (bl s)=([],(j:Int)))(h:Below w.heap.size w W):RWJ s w 0 1 {tmps:=#[.string s,undef,vw,vs,VI 0,VG w.heap.size,VG (w.heap.size+1),VI (j:Nat),.string s,.agg #[.string s,VI 0],x10,x11,x12,Ff,x14,x15,x16,x17,x18,x19,CT,El,C5,EA,Cq,Cv,CN,Cx,CM,Cp,Ex,E7,D3,CK,Er,EE,Co,C4,Eq,Ct],defers:=[]} W:=
 .inr ⟨rfl,j,vw,vs,x10,x11,x12,Ff,x14,x15,x16,x17,x18,x19,CT,El,C5,EA,Cq,Cv,CN,Cx,CM,Cp,Ex,E7,D3,CK,Er,EE,Co,C4,Eq,Ct,rfl,rfl,hz,h⟩
variable {w : World}
theorem adn {s:ByteArray}{y0 y1 y2 y3 y4:Value}:Rw w ((w.alloc (.cells #[.string s,VI 0] 135)).alloc (.cells #[y0,y1,y2,y3,y4,.pointer none] 146)) s 0 [] [] (.slice none 0 0) (.slice none 0 0):=
 have e:(w.alloc (.cells #[.string s,VI 0] 135)).heap.size=w.heap.size+1:=ZJ w _
 ⟨(GK w s).alloc _,⟨_,_,_,_,_,e ▸ RY _ y0 y1 y2 y3 y4⟩,YW _ _ _ _,YW _ _ _ _,.inl rfl,((ZR _ _).alloc UM _).alloc Vy _⟩
theorem abj {x:W}(h:Pv x):kindOf x.k≠0:=by
 have hk:=h.kind;unfold kinds at hk;simp only[ZM,Zx,YE]at hk;rcases hk with e|e|e|e|e|e|e|e|e|e|e|e|e|e|e|e|e|e|e|e|e|e<;>rw[e]<;>decide
theorem aB {l:List UInt8}{j n:Nat}(hn:n<=(l.drop j).length)(hj:j<=l.length):(n=(l.drop j).length\/(l.drop j)[n]?=some 32)↔Q9 l (j+n)=true:=by
 rw[Zh]at hn ⊢;rw[Zn];unfold Q9;exact anh
theorem AP (s:ByteArray)(w:World)(hs:s.size<=120)(hg1:2<w.heap.size)(hg2:1<w.heap.size)(g_:U7 w)(U':UR w):
 Calls prog 40 #[.string s] w λe w'=>∃vw vs:Value,e=.returned (.tuple #[vw,vs,VI (Vh (bl s)).2])/\
  ((Vh (bl s)).2=-1->w'.ownsRow w.heap.size 146 6 vw (Vh (bl s)).1.length (Rx (Vh (bl s)).1)/\w'.ownsRow w.heap.size 3 1 vs (Vh (bl s)).1.length (Qo (Vh (bl s)).1))/\Below w.heap.size w w':=by
 obtain⟨i0,hi,hz0,hz1,hz2⟩:=YQ nR;obtain⟨i1,hj,hy0,hy1,hy2⟩:=YQ aea;have P1:=UQ g_;have P2:=UQ U';have hs2:s.size<=140737488355328:=VH;clear g_ U';go_enter func40,ntmps40;go_wp2;refine Aa (RWJ s w) ?_ ?_
 . intro n0 l a W hJ G HR HG;rcases hJ with⟨rfl,j,acc,vw,vs,x7,x7,x7,x7,x7,x7,x7,x7,x7,x7,x7,x7,x7,x7,x7,x7,x7,x7,x7,x7,x7,x7,x7,x7,x7,x7,x7,x7,x7,x7,x7,rfl,hjs,rfl,hwt,Pe⟩|⟨rfl,j,vw,vs,x7,x7,x7,x7,x7,x7,x7,x7,x7,x7,x7,x7,x7,x7,x7,x7,x7,x7,x7,x7,x7,x7,x7,x7,x7,x7,x7,x7,x7,x7,rfl,rfl,hz,hb⟩
   . refine⟨_,rfl,?_⟩;have w8:Hid _:=Pe;have HW:=UQ hwt;clear Pe hwt;go_wp2_with fail;by_cases hlt:j<s.size
     . have hg:=Qw s j hlt;have ZS:(bl s).drop j≠[]:=by intro e;have:=YV List.length e;rw[Zh,VB]at this;simp at this;omega
       by_cases C':s[j].toNat=32
       . have HB:Hid ((bl s)[j]?.getD 0=32):=by
          have hx:(bl s)[j]?.getD 0=32:=an6;exact hx
         refine(TY w.heap.size s j 32 _ hs2 hlt C' w8.o.rd).mono ?_;rintro e W1 ⟨rfl,X_⟩;have H1:=UQ (w8.o.to X_);have HN:=UQ (Jy HW.o Hz HB.o);clear X_ hg C' ZS;go_wp2
         go_step3
         simp only[Exit.then];exact HG.o (s.size-(j+1)+1) 0 _ _ VH (Bv VH HN.o H1.o)
       . have HB:Hid (¬(bl s)[j]?.getD 0=32):=by
          exact ajg
         have HD:=UQ ZS;refine(TU w.heap.size s j 32 _ hs2 VH (λ_=>C') w8.o.rd).mono ?_;rintro e W1 ⟨rfl,X_⟩;have H1:=UQ (w8.o.to X_);have d1:=H1.o.rd.c1;obtain⟨p,cap,rfl⟩:=Rn H1.o.ow;have pP:((j:Int)==s.size)=false:=Vo;clear X_ hg C' ZS;by_cases Uq:acc.length=40
         . have HZ:=UQ (IG HW.o Hz HB.o Uq);have t40:((acc.length:Int)==40)=true:=Vo;clear Uq;go_wp2
           go_step3
           simp only[Exit.then];exact HG.o 0 1 _ _ VH (xG HZ.o H1.o.below)
         . have t40:((acc.length:Int)==40)=false:=by simp;omega
           have xc:Hid _:=Uq;clear Uq;go_wp2_with fail;refine(ac3 w.heap.size s j _ hs2 hlt hg1 hg2 (P1.o.below hg1 H1.o.below) (P2.o.below hg2 H1.o.below) H1.o.rd).mono ?_;rintro e W2 ⟨rfl,j2,eK,X_,hjn⟩;have H2:=UQ (H1.o.to X_);clear X_ d1
           cases hk:kw ((bl s).drop j) with
           | none=>
            have HZ:=UQ (KO HW.o Hz HB.o (aaS HD.o hk));simp only[RV];obtain⟨q0,q1,q2,q3,q4,hz⟩:=H2.o.hu;have u0:=hz.c0;have u1:=hz.c1;have u2:=hz.c2;have u3:=hz.c3;have u4:=hz.c4;have u5:=hz.c5;have uf:=hz.f;have HF:Hid _:=H2.o.aft (VI 0) (VI 0) (.string (VF [])) (.string (VF [])) (.string (VF []));clear hk hjn hz;go_wp2
            go_step3
            simp only[Exit.then];exact HG.o 0 1 _ _ VH (xG HZ.o HF.o.1.below)
           | some q=>
            obtain⟨x,n⟩:=q;obtain rfl:j2=j+n:=hjn x n hk;have hnl:=anC HD.o hk;have hpos:=abj (afo HD.o hk);have tk:(((kindOf x.k:Nat):Int)==0)=false:=Vo;have HA:=UQ (aB hnl G8);have HK:Hid _:=hk;rw[Zh,VB]at hnl;simp only[RV];obtain⟨q0,q1,q2,q3,q4,hz⟩:=H2.o.hu;have u0:=hz.c0;have u1:=hz.c1;have u2:=hz.c2;have u3:=hz.c3;have u4:=hz.c4;have u5:=hz.c5;have uf:=hz.f;have hu9:=H2.o.aft (VI (kindOf x.k:Nat)) (VI x.n) (.string (VF x.a)) (.string (VF x.sel)) (.string (VF x.b));clear hk hjn hz hpos
            go_upto_region 10 with fail
            revert hu9;generalize ((((((W2.setCell (VJ (w.heap.size+1) 0) (VI (kindOf x.k:Nat))).setCell (VJ (w.heap.size+1) 1) (VI x.n)).setCell (VJ (w.heap.size+1) 2) (.string (VF x.a))).setCell (VJ (w.heap.size+1) 3) (.string (VF x.sel))).setCell (VJ (w.heap.size+1) 4) (.string (VF x.b))).setCell (VJ (w.heap.size+1) 5) (.pointer none))=W3;rintro⟨rB,hz3⟩;have H2:Hid _:=rB;have co:=UQ hz3;clear u0 u1 u2 u3 u4 u5 uf rB;have u0:=hz3.c0;clear hz3;go_wp2_with fail;refine(Gi w.heap.size s (j+n) _ hs2 VH H2.o.rd).mono ?_;rintro e W4 ⟨rfl,X_⟩;have H2:=UQ (H2.o.to X_);have hz3:=co.o.to X_ VH;clear X_ u0
            cases he:Q9 (bl s) (j+n) with
            | false=>
             have HZ:=UQ (KO HW.o Hz HB.o (aff HD.o HK.o (λh=>by have:=HA.o.1 h;rw[he]at this;cases this)));clear he hz3;go_wp2
             go_step3
             simp only[Exit.then];exact HG.o 0 1 _ _ VH (xG HZ.o H2.o.below)
            | true=>
             have H_:=aez HD.o HK.o (HA.o.2 he)
             have HN:Hid (Ro (bl s) (j+n) (acc++[(x,j)])):=by
              have hx:=H8 HW.o Hz HB.o H_.1 xc.o;rw[H_.2]at hx;exact hx
             have Z1:1<=n:=by have:=Ec (bl s) j Hz HB.o;omega
             have u0:=hz3.c0;have u1:=hz3.c1;have u2:=hz3.c2;have u3:=hz3.c3;have u4:=hz3.c4;have u5:=hz3.c5;have hnews:=Us W4 (QM x) 146;have hal:=HW.o.2.2;have j8:w.heap.size+2<=W4.heap.size:=by have:=hz3.lt;omega
             clear he H_ hz3
             go_wp2_with (first
              | (at_builtin;refine wpList_append_own_at _ rfl _ _ 106 rfl (w.heap.size+2) 146 i0 (.agg #[VI 0,VI 0,.string ⟨#[]⟩,.string ⟨#[]⟩,.string ⟨#[]⟩,.pointer none]) 6 72 underlying106 hi hz0 hz1 hz2 rfl Vz _ _ _ rfl (H2.o.ow.alloc _) (VJ W4.heap.size 0) 1 1 (QM x) rfl rfl hnews (nH _) SE VH Ey ?_)
              | go_in)
             intro vw2 W5 hown2 Mq _ hblk;have xc:=UQ (H2.o.anJ (x:=(x,j)) hown2 Mq hblk);have j8:w.heap.size+2<=W5.heap.size:=by have:=Mq.size;simp at this;omega
             have GT:=Us W5 [VI (j:Nat)] 3;clear hown2 Mq hblk hnews u0 u1 u2 u3 u4 u5
             go_wp2_with (first
              | (at_builtin;refine wpList_append_own_at _ rfl _ _ 107 rfl (w.heap.size+2) 3 i1 (VI 0) 1 8 underlying107 hj hy0 hy1 hy2 rfl Vz _ _ _ rfl (xc.o.os.alloc _) (VJ W5.heap.size 0) 1 1 [VI (j:Nat)] rfl rfl GT vH SE VH Ey ?_)
              | go_in)
             intro vs2 W6 hown2 Mq _ hblk;have xc:=UQ (xc.o.aoj (x:=(x,j)) hown2 Mq hblk);clear hown2 Mq hblk GT;go_wp2
             go_step3
             simp only[Exit.then];exact HG.o (s.size-(j+n)+1) 0 _ _ VH (Bv VH HN.o xc.o)
     . obtain rfl:j=s.size:=by omega
       refine(TU w.heap.size s s.size 32 _ hs2 VH (λh=>absurd h VH) w8.o.rd).mono ?_;rintro e W1 ⟨rfl,X_⟩;have H1:=UQ (w8.o.to X_);have d1:=H1.o.rd.c1;have HE:=UQ (KW HW.o G8);clear X_;go_wp2;refine HR.o _ _ ?_
       go_ret3
       refine⟨_,_,by rw[HE.o];rfl,λ_=>?_,H1.o.below⟩;rw[HE.o];exact⟨Lm H1.o.ow VH,Lm H1.o.os VH⟩
   . refine⟨_,rfl,?_⟩;have HZ:Hid _:=hz;clear hz;go_wp2;refine HR.o _ _ ?_
     go_ret3
     refine⟨_,_,by rw[HZ.o];rfl,λe=>?_,hb⟩;rw[HZ.o]at e;simp at e
 . intro G HG;go_wp2
   go_step3
   simp only[Exit.then];refine ‹∀(a:Act) (w:World),Code.wp _ _ _ a w->_› _ _ ?_;exact HG.o _ 0 _ _ _ (Bv nO (Jr _) adn) rfl
theorem _root_.Go.RowKit.Below.drewN' {B:Nat}{a w:World}(h:Below B a w)(n:Nat):Below B a (w.drewN n):=⟨h.os,h.tape,h.output,h.size,h.block⟩
def Jl:List (Nat×Nat×Bool×Bool×Bool):=
 [(0,0,false,false,false),(0,1,false,false,false),(0,1,false,false,false),(0,1,false,false,false),(0,1,false,false,false),(1,0,false,false,false),
  (2,1,false,false,false),(2,1,false,false,false),(2,1,false,false,false),(2,1,false,false,false),(2,1,false,false,false),(1,0,false,false,false),(1,2,false,false,false),
  (0,0,false,true,true),(1,0,false,true,false),(1,1,true,false,false),(0,1,true,false,false),(0,1,false,false,false),(1,1,false,false,false),(0,0,false,false,false),
  (0,0,false,false,false),(0,0,false,false,false),(1,0,false,false,true)]
structure su (w:World)(k t l:Nat)(sd jp st:Bool):Prop where
 c0:w.cell? (VJ 0 (k*5))=some (VI t)
 c1:w.cell? (VJ 0 (k*5+1))=some (VI l)
 c2:w.cell? (VJ 0 (k*5+2))=some (.bool sd)
 c3:w.cell? (VJ 0 (k*5+3))=some (.bool jp)
 c4:w.cell? (VJ 0 (k*5+4))=some (.bool st)
def Qc (w:World):Prop:=∀k t l sd jp st,Jl[k]?=some (t,l,sd,jp,st)->su w k t l sd jp st
variable {w' : World}
theorem Qc.below (h:Qc w){B:Nat}(hB:0<B)(hb:Below B w w'):Qc w':=λk t l sd jp st hk=>
 have hx:=h k t l sd jp st hk
 ⟨(hb.cell (p := ⟨0, _, none⟩) hB).trans hx.c0, (hb.cell (p := ⟨0, _, none⟩) hB).trans hx.c1, (hb.cell (p := ⟨0, _, none⟩) hB).trans hx.c2,
  (hb.cell (p:=(VJ 0 _)) hB).trans hx.c3,(hb.cell (p:=(VJ 0 _)) hB).trans hx.c4⟩
def Jt (k:Nat):Bool:=decide (k=4)||decide (k=5)
theorem NQ (k:Nat)(n:Int)(t2 t3 t4:ByteArray)(w:World){q:Option Addr} :
 Calls prog 78 #[.agg #[VI k,VI n,.string t2,.string t3,.string t4,.pointer q]] w λe w'=>e=.returned (.bool (Jt k))/\Below w.heap.size w w':=by
 by_cases h4:k=4
 . subst h4;go_enter func78,ntmps78;go_wp2
   go_ret
   exact zt6
 . have bt:((k:Int)==4)=false:=by simp;omega
   by_cases h5:k=5
   . subst h5;clear h4 bt;go_enter func78,ntmps78;go_wp2
     go_ret
     exact zt6
   . have t5':((k:Int)==5)=false:=by simp;omega
     have HS:Hid (Jt k=false):=by
      have hx:Jt k=false:=by simp[Jt,h4,h5]
      exact hx
     clear h4 h5;go_enter func78,ntmps78;go_wp2
     go_ret
     exact⟨by rw[HS.o];rfl,(ZR _ _).alloc UM _⟩
def Ia (t:Nat)(sd:Bool)(n:Int):Int:=if sd then t+n else t
theorem Dz (k t l:Nat)(sd jp st:Bool)(n:Int)(t2 t3 t4:ByteArray)(w:World)(hk:k<23)(ht:t<=2)(Z1:-10000<n)(W7:n<10000)(hg:0<w.heap.size)(h:su w k t l sd jp st):
 Calls prog 112 #[.agg #[VI k,VI n,.string t2,.string t3,.string t4,.pointer none]] w λe w'=>e=.returned (VI (Ia t sd n))/\Below w.heap.size w w':=by
 have c0:=h.c0;have c0:=h.c2;clear h;cases sd
 . go_enter func112,ntmps112;go_wp2
   go_ret
   exact zt6
 . go_enter func112,ntmps112;go_wp2
   go_quiet (fail)
   go_wp2
   go_ret
   exact⟨rfl,((ZR _ _).alloc UM _).drewN' _⟩
structure KAt (w:World)(p:Option Addr)(g:Nat)(ws:List (W×Nat)):Prop where
 head:1<=ws.length->p=some (VJ g 0)
 lt:1<=ws.length->g<w.heap.size
 c0:∀i x,ws[i]?=some x->w.cell? (VJ g (i*6))=some (VI (kindOf x.1.k:Nat))
 c1:∀i x,ws[i]?=some x->w.cell? (VJ g (i*6+1))=some (VI x.1.n)
 c2:∀i x,ws[i]?=some x->w.cell? (VJ g (i*6+2))=some (.string (VF x.1.a))
 c3:∀i x,ws[i]?=some x->w.cell? (VJ g (i*6+3))=some (.string (VF x.1.sel))
 c4:∀i x,ws[i]?=some x->w.cell? (VJ g (i*6+4))=some (.string (VF x.1.b))
 c5:∀i x,ws[i]?=some x->w.cell? (VJ g (i*6+5))=some (.pointer none)
theorem KAt.below {ws:List (W×Nat)}{p:Option Addr}{g:Nat}(h:KAt w p g ws){B:Nat}(hB:w.heap.size<=B)(hb:Below B w w'):KAt w' p g ws:=by
 exact amL
theorem G6:∀(l:List (W×Nat)) (i:Nat) (x:W×Nat) (c:Nat),l[i]?=some x->c<6->(Rx l)[i*6+c]?=(QM x.1)[c]?
 | [],i,x,c,h,_=>vF
 | y::r,0,x,c,h,hc=>by
  simp at h;subst h;rw[Yu,YU];show (QM y.1++Rx r)[c]?=_;exact ZH (by simpa[QM]using hc)
 | y::r,i+1,x,c,h,hc=>by
  have ih:=G6 r i x c Nv hc;show (QM y.1++Rx r)[(i+1)*6+c]?=_;rw[ZP (by simp[QM];omega)];rw[show (i+1)*6+c-(QM y.1).length=i*6+c from by simp[QM];omega];exact ih
theorem ach {ws:List (W×Nat)}{B:Nat}{e:TypeId}{v:Value}(h:w.ownsRow B e 6 v ws.length (Rx ws)):∃p g cap,v=.slice p ws.length cap/\KAt w p g ws:=by
 have hc:=λg hg=>h.cells (g:=g) hg;rcases h.2 with⟨rfl,h0⟩|⟨g,cap,cur,rfl,hb,hg,hn,_⟩
 . exact aoI
 . have key:∀i x c u,ws[i]?=some x->c<6->(QM x.1)[c]?=some u->w.cell? (VJ g (i*6+c))=some u:=by
    intro i x c u hx hcc hu;have:=hc g rfl (i*6+c) u (by rw[G6 ws i x c hx hcc];exact hu);exact ajm
   exact anR
structure anq (k:Nat)(n:Int)(t l:Nat)(sd jp st:Bool):Prop where
 row:Jl[kindOf k]?=some (t,l,sd,jp,st)
 lt:kindOf k<23
 ht:t<=2
 hl:l<=2
 takes:(U9 k n).1=Ia t sd n
 lays:(U9 k n).2=(l:Int)
 goes:∀i:Nat,TS k n i=(if st then [] else [(i:Int)+1])++(if jp then [n] else [])
 jumps:jp=true↔(k=62\/k=63)
 slot:Jt (kindOf k)=true↔(k=103\/k=112)
 arg:kindOf k=3↔k=97
 sends:sd=true↔(k=115\/k=94)
theorem vM (k:Nat)(n:Int)(hk:k∈kinds):∃t l sd jp st,anq k n t l sd jp st:=by
 simp only[kinds,ZM,Zx,YE]at hk;rcases hk with rfl|rfl|rfl|rfl|rfl|rfl|rfl|rfl|rfl|rfl|rfl|rfl|rfl|rfl|rfl|rfl|rfl|rfl|rfl|rfl|rfl|rfl
 all_goals
  refine⟨_,_,_,_,_,⟨rfl,Vz,Vz,Vz,?_,zb7,λi=>uI,Vz,Vz,Vz,Vz⟩⟩;simp[U9,Ia]<;>omega
def ai2 (ws:List (W×Nat))(args slots:Nat)(e i:Int):Prop:=
 (∃j,j<ws.length/\i=(j:Int)/\SC ws args slots j/\(∀k,k<j->¬SC ws args slots k)/\(TJ ws args j->e=1)/\(¬TJ ws args j->e=7))\/
 ((∀j,j<ws.length->¬SC ws args slots j)/\e=0/\i=0)
theorem GU (ws:List (W×Nat))(p:Option Addr)(g cap args slots:Nat)(w:World)(hn:ws.length<=40)(ha:args<=3)(hs:slots<=10)(hw:KAt w p g ws)(h0:∀(i:Nat) (x:W×Nat),ws[i]?=some x->Pv x.1)(hge:0<w.heap.size)(hE:Qc w):
 Calls prog 41 #[.slice p ws.length cap,VI args,VI slots] w λe w'=>∃r i:Int,e=.returned (.tuple #[VI r,VI i])/\ai2 ws args slots r i/\Below w.heap.size w w':=by
 have HW:Hid _:=hw;have HF:Hid _:=h0;clear hw h0;go_enter func41,ntmps41;go_wp2
 go_loopw [12] (λi wr=>∃k:Nat,i=VI k/\k<=ws.length/\(∀j,j<k->¬SC ws args slots j)/\Below w.heap.size w wr) (λi _=>ws.length-(intOf i).toNat)
 case atStart=>exact⟨0,rfl,VH,λj h=>VH,ZR _ _⟩
 case round=>
  obtain⟨k,rfl,hk,hno,hb⟩:=hrel;have G':Hid _:=hno;clear hno;by_cases hkn:k<ws.length
  . refine BH ?_;intro x hx;have hwx:EG ws k=x.1:=ql;have Rg:=HF.o k x hx;obtain rfl:p=some (VJ g 0):=HW.o.head VH;have hat:=HW.o.below UM hb;have c0:=hat.c0 k x hx;have c1:=hat.c1 k x hx;have c2:=hat.c2 k x hx;have c3:=hat.c3 k x hx;have c4:=hat.c4 k x hx;have c5:=hat.c5 k x hx;have hlo:=Rg.lo;have hhi:=Rg.hi;obtain⟨t,l,sd,jp,st,he⟩:=vM x.1.k x.1.n Rg.kind;have e3:=(hE.below hge hb (kindOf x.1.k) t l sd jp st he.row).c3;have ft:=ZY hge hb.size;have hK:=he.lt
    have HA:Hid (TJ ws args k↔(kindOf x.1.k=3/\(args:Int)<=x.1.n)\/(jp=true/\(ws.length:Int)<x.1.n)):=by
     have hx1:TJ ws args k↔(kindOf x.1.k=3/\(args:Int)<=x.1.n)\/(jp=true/\(ws.length:Int)<x.1.n):=by unfold TJ;rw[hwx,he.arg,he.jumps]
     exact hx1
    have HS:Hid (TG ws slots k↔(Jt (kindOf x.1.k)=true/\(slots:Int)<=x.1.n)):=by
     have hx1:TG ws slots k↔(Jt (kindOf x.1.k)=true/\(slots:Int)<=x.1.n):=by unfold TG;rw[hwx,he.slot]
     exact hx1
    have HJ:Hid (kindOf x.1.k=3->jp=false):=by
     have hx1:kindOf x.1.k=3->jp=false:=λe=>by
      have hr:=he.row;rw[e]at hr
      have h2:=(Y7 hr)
      injection h2 with _ h2;injection h2 with _ h2;injection h2 with _ h2;injection h2 with h2 _;exact h2.symm
     exact hx1
    clear hx hwx Rg he hat;obtain⟨⟨xk,xn,xs,xa,xb⟩,xi⟩:=x;simp only at c0 c1 c2 c3 c4 e3 hlo hhi hK HA HS HJ;obtain⟨K,D2⟩:∃K,kindOf xk=K:=Vx;rw[D2]at c0 e3 hK HA HS HJ;clear D2
    have next:∀w',Below w.heap.size w w'->¬TJ ws args k->¬TG ws slots k->∃k':Nat,Value.int IntKind.i64 ((k:Int)+1)=VI (k':Nat)/\k'<=ws.length/\(∀j,j<k'->¬SC ws args slots j)/\Below w.heap.size w w':=by
     intro w' hb' ha hs;refine⟨k+1,Uu,VH,λj hj=>?_,hb'⟩;by_cases e:j=k
     . subst e;rintro(h|h)
       . exact ha h
       . exact hs h
     . exact G'.o j VH
    have HN:Hid _:=next;clear next;by_cases oR:K=3/\(args:Int)<=xn
    . obtain⟨h2,Ka⟩:=oR;go_wp2
      go_ret2
      exact⟨1,k,rfl,.inl ⟨k,hkn,rfl,.inl (HA.o.2 (.inl ⟨h2,Ka⟩)),G'.o,λ_=>rfl,λh=>absurd (HA.o.2 (.inl ⟨h2,Ka⟩)) h⟩,hb.alloc hb.size _⟩
    by_cases h2:K=3
    . subst h2;obtain rfl:jp=false:=HJ.o rfl;have e3':wr.cell? (VJ 0 18)=some (.bool false):=e3;have Ka:xn<(args:Int):=VH
      have HX:Hid (¬TJ ws args k):=by
       have hx1:¬TJ ws args k:=λh=>by rcases HA.o.1 h with h|h;exact oR h;cases h.1
       exact hx1
      have HY:Hid (¬TG ws slots k):=by
       have hx1:¬TG ws slots k:=λh=>by have:=(HS.o.1 h).1;cases this
       exact hx1
      clear oR e3;go_wp2_with fail;refine(NQ _ _ _ _ _ _).mono ?_;rintro e w1 ⟨rfl,hb1⟩;have hb2:=(hb.alloc hb.size _).trans (hb1.mono (by rw[ZJ];have:=hb.size;omega));clear hb1;simp only[show Jt 3=false from rfl];go_wp2
      go_roundw
      case rel=>exact HN.o _ hb2 HX.o HY.o
      case measure=>simp[intOf]<;>omega
    have t3:((K:Int)==3)=false:=Vo;clear oR HJ;by_cases hj:jp=true/\(ws.length:Int)<xn
    . obtain⟨rfl,Ka⟩:=hj;go_wp2
      go_ret2
      exact⟨1,k,rfl,.inl ⟨k,hkn,rfl,.inl (HA.o.2 (.inr ⟨by trivial,Ka⟩)),G'.o,λ_=>rfl,λh=>absurd (HA.o.2 (.inr ⟨by trivial,Ka⟩)) h⟩,hb.alloc hb.size _⟩
    have HX:Hid (¬TJ ws args k):=by
     have hx1:¬TJ ws args k:=λh=>by rcases HA.o.1 h with h|h;exact h2 h.1;exact hj h
     exact hx1
    cases jp
    all_goals
     try have hlj:xn<=(ws.length:Int):=by simp at hj;omega
     clear hj;go_wp2_with fail;refine(NQ _ _ _ _ _ _).mono ?_;rintro e w1 ⟨rfl,hb1⟩
     have hz:w1.cell? (VJ wr.heap.size 1)=some (VI xn):=by
      rw[hb1.cell (p:=(VJ wr.heap.size 1)) (by rw[ZJ];show wr.heap.size<_;omega)];simp only[World.cell?,(Z4 wr _).1];rfl
     have hb2:=(hb.alloc hb.size _).trans (hb1.mono (by rw[ZJ];have:=hb.size;omega));clear hb1;cases DM:Jt K
     . have HY:Hid (¬TG ws slots k):=by
        have hx1:¬TG ws slots k:=λh=>by have:=(HS.o.1 h).1;rw[DM]at this;cases this
        exact hx1
       go_wp2
       go_roundw
       case rel=>exact HN.o _ hb2 HX.o HY.o
       case measure=>simp[intOf]<;>omega
     . by_cases hsl:(slots:Int)<=xn
       . go_wp2
         go_ret2
         exact⟨7,k,rfl,.inl ⟨k,hkn,rfl,.inr (HS.o.2 ⟨DM,hsl⟩),G'.o,λh=>absurd h HX.o,λ_=>rfl⟩,hb2⟩
       . have HY:Hid (¬TG ws slots k):=by
          have hx1:¬TG ws slots k:=λh=>hsl (HS.o.1 h).2;exact hx1
         go_wp2
         go_roundw
         case rel=>exact HN.o _ hb2 HX.o HY.o
         case measure=>simp[intOf]<;>omega
  . obtain rfl:k=ws.length:=by omega
    go_wp2
    go_ret2
    exact⟨0,0,rfl,.inr ⟨G'.o,rfl,rfl⟩,hb⟩
structure Wk (w:World)(b:Nat)(vw:Value)(H:Nat->Nat)(Fd:Nat->Bool)(va:Value):Prop where
 lt:b<w.heap.size
 c0:w.cell? (VJ b 0)=some vw
 ch:∀i,i<40->w.cell? (VJ b (1+i))=some (.int .u32 (H i:Nat))
 cf:∀i,i<40->w.cell? (VJ b (41+i))=some (.bool (Fd i))
 ca:w.cell? (VJ b 81)=some va
 free:∀i,w.frozen? (VJ b i)=false
theorem Wk.same {b:Nat}{vw va:Value}{H:Nat->Nat}{Fd:Nat->Bool}(h:Wk w b vw H Fd va)(hs:w'.heap[b]?=w.heap[b]?):Wk w' b vw H Fd va:=by
 have hc:∀o,w'.cell? (VJ b o)=w.cell? (VJ b o):=λo=>Z9 hs;have hf:∀o,w'.frozen? (VJ b o)=w.frozen? (VJ b o):=λo=>Zr hs;refine⟨?_,(hc _).trans h.c0,λi hi=>(hc _).trans (h.ch i hi),λi hi=>(hc _).trans (h.cf i hi),(hc _).trans h.ca,λi=>(hf _).trans (h.free i)⟩;have:=h.lt;have hx:=Xx this;rw[hx]at hs;exact(Z5.1 hs).1
theorem Wk.setH {b:Nat}{vw va:Value}{H:Nat->Nat}{Fd:Nat->Bool}(h:Wk w b vw H Fd va){i:Nat}(hi:i<40)(n:Nat):Wk (w.setCell (VJ b (1+i)) (.int .u32 (n:Nat))) b vw (λk=>if k=i then n else H k) Fd va:=by
 refine⟨ako,?_,λk hk=>?_,λk hk=>?_,?_,λk=>(YK _ _ _ _).trans (h.free k)⟩
 . rw[VD PO];exact h.c0
 . by_cases e:k=i
   . subst e;rw[Vr (h.ch k hk)];simp
   . rw[VD xY,h.ch k hk];simp[e]
 . rw[VD xY];exact h.cf k hk
 . rw[VD xY];exact h.ca
theorem Wk.apk {b:Nat}{vw va:Value}{H:Nat->Nat}{Fd:Nat->Bool}(h:Wk w b vw H Fd va){i:Nat}(hi:i<40):Wk (w.setCell (VJ b (41+i)) (.bool true)) b vw H (OT Fd i) va:=by
 refine⟨ako,?_,λk hk=>?_,λk hk=>?_,?_,λk=>(YK _ _ _ _).trans (h.free k)⟩
 . rw[VD PO];exact h.c0
 . rw[VD xY];exact h.ch k hk
 . by_cases e:k=i
   . subst e;rw[Vr (h.cf k hk)];simp[OT]
   . rw[VD xY,h.cf k hk];simp[OT,e]
 . rw[VD xY];exact h.ca
theorem Wk.aon {b:Nat}{vw va:Value}{H:Nat->Nat}{Fd:Nat->Bool}(h:Wk w b vw H Fd va)(v:Value):Wk (w.setCell (VJ b 81) v) b vw H Fd v:=by
 refine⟨ako,?_,λk hk=>?_,λk hk=>?_,Vr h.ca,λk=>(YK _ _ _ _).trans (h.free k)⟩
 . rw[VD PO];exact h.c0
 . rw[VD xY];exact h.ch k hk
 . rw[VD xY];exact h.cf k hk
noncomputable def NT (ws:List (W×Nat)) (H:Nat->Nat):Nat->Nat->Bool:=λi h=>if i<ws.length then (H i).testBit h else @decide (Kn.Reach ws i h) (Classical.propDecidable _)
def P9:List (Nat×Nat)->List Value
 | []=>[]
 | x::r=>VI (x.1:Nat)::VI (x.2:Nat)::P9 r
theorem MP:∀l:List (Nat×Nat),(P9 l).length=l.length*2
 | []=>rfl
 | x::r=>by simp only[P9,ZI,MP r];omega
theorem PY:∀(l r:List (Nat×Nat)),P9 (l++r)=P9 l++P9 r
 | [],r=>rfl
 | x::l,r=>by simp only[YR,P9,PY l r]
structure Wi (w0 w:World)(ws:List (W×Nat))(vw:Value)(b:Nat)(H:Nat->Nat)(Fd:Nat->Bool)(va:Value)(A:List (Nat×Nat))(X:Nat->Nat->Prop):Prop where
 wk:Wk w b vw H Fd va
 lo:w0.heap.size<=b
 below:Below w0.heap.size w0 w
 own:w.ownsRow (b+1) 160 2 va A.length (P9 A)
 hH:∀i,i<ws.length->H i<2 ^ 17
 reach:∀i h,NT ws H i h=true->Kn.Reach ws i h
 bad:∀i,Fd i=true->∃h,Kn.Reach ws i h/\¬Ph ws i h
 inA:∀x∈A,x.1<ws.length/\x.2<=16/\(H x.1).testBit x.2=true
 gone:∀i h,i<ws.length->h<=16->X i h\/(i,h)∈A\/Gone ws (NT ws H) Fd i h
theorem O4 {ws:List (W×Nat)}{H:Nat->Nat}{i:Nat}(hi:i<ws.length)(h:Nat):NT ws H i h=(H i).testBit h:=by unfold NT;rw[ZU hi]
theorem afn {ws:List (W×Nat)}{H:Nat->Nat}{h:Nat}(hr:Kn.Reach ws ws.length h):NT ws H ws.length h=true:=by unfold NT;rw[ZX VH];simp[hr]
theorem KI {ws:List (W×Nat)}{H:Nat->Nat}{a k:Nat}(ha:a<ws.length):NT ws (λi=>if i=a then H a ||| 2 ^ k else H i)=Kn.mark (NT ws H) a k:=by
 funext i h;unfold Kn.mark;by_cases hi:i<ws.length
 . rw[O4 hi,O4 hi];by_cases e:i=a
   . subst e;simp only[Y6,or_bit];simp
   . rw[ZX e];simp[e]
 . have:i≠a:=by omega
   unfold NT;rw[ZX hi,ZX hi];simp[this]
variable {w0 : World}
theorem Wi.mono {ws:List (W×Nat)}{vw va:Value}{b:Nat}{H:Nat->Nat}{Fd:Nat->Bool}{A:List (Nat×Nat)}{X:Nat->Nat->Prop}(h:Wi w0 w ws vw b H Fd va A X)(hb:Below w.heap.size w w'):Wi w0 w' ws vw b H Fd va A X:=
 ⟨h.wk.same (hb.block b h.wk.lt),h.lo,h.below.trans (hb.mono h.below.size),own_below h.own hb,h.hH,h.reach,h.bad,h.inA,h.gone⟩
theorem afi {B:Nat}{e:TypeId}{size n cap:Nat}{p:Option Addr}{xs ys:List Value}(h:w.ownsRow B e size (.slice p (n+1) cap) (n+1) (xs++ys))(hx:xs.length=n*size):w.ownsRow B e size (.slice p n cap) n xs:=by
 refine⟨hx,?_⟩;rcases h.2 with⟨_,h0⟩|⟨g,cap',cur,hv,hb,hg,hn,hm,hs,ht⟩
 . omega
 . injection hv with h0 h2 h2;subst h0 h2;refine .inr ⟨g,cap,cur,rfl,hb,hg,VH,hm,hs,?_⟩;have:cur.toList.take (n*size)=(cur.toList.take ((n+1)*size)).take (n*size):=by rw[List.take_take,XT (Nat.mul_le_mul_right _ VH)]
   rw[this,ht,<- hx,List.take_left]
theorem akW {ws:List (W×Nat)}{vw:Value}{b:Nat}{H:Nat->Nat}{Fd:Nat->Bool}{p:Option Addr}{n cap:Nat}{A:List (Nat×Nat)}{x:Nat×Nat}(h:Wi w0 w ws vw b H Fd (.slice p (n+1) cap) (A++[x]) (λ_ _=>False))(hn:A.length=n):
 Wi w0 (w.setCell (VJ b 81) (.slice p n cap)) ws vw b H Fd (.slice p n cap) A (λi k=>i=x.1/\k=x.2):=by
 refine⟨h.wk.aon _,h.lo,h.below.setCell (by show w0.heap.size<=b;exact h.lo) _,?_,h.hH,h.reach,h.bad,λy hy=>h.inA y (Ya _ hy),λi k hi hk=>?_⟩
 . have ho:=h.own;rw[Zw,PY]at ho;simp only[List.length_singleton,hn]at ho;have hp:=afi ho (by rw[MP,hn]);rw[hn];exact hp.kept (row:=some b) afa (.inr (λe=>by have:=(hp.lt b e).1;omega))
 . rcases h.gone i k hi hk with hf|hm|hg
   . exact hf.elim
   . rcases YT.1 hm with hm|hm
     . exact .inr (.inl hm)
     . simp at hm;exact .inl ⟨by rw[<- hm],by rw[<- hm]⟩
   . exact .inr (.inr hg)
theorem aT {ws:List (W×Nat)}{M:Nat->Nat->Bool}{Bd:Nat->Bool}{i h a k:Nat}(hg:Gone ws M Bd i h)(hne:¬(i=a/\h=k)):Gone ws (Kn.mark M a k) Bd i h:=λhm=>by
 rcases Iw.1 hm with e|e
 . exact absurd e hne
 . exact⟨λho t ht=>Ie _ _ ((hg e).1 ho t ht),(hg e).2⟩
theorem aak (h:Nat)(hh:h<=16):IntKind.u32.wrap ((2:Int) ^ h)=2 ^ h:=by
 have hp:(2:Nat) ^ h<2 ^ 17:=XC VH VH;have e:((2:Int) ^ h)=((2 ^ h:Nat):Int):=by push_cast;rfl
 rw[e,XB];generalize 2 ^ h=q at *;omega
theorem afk {ws:List (W×Nat)}{vw va E4:Value}{b:Nat}{H:Nat->Nat}{Fd:Nat->Bool}{A:List (Nat×Nat)}{X:Nat->Nat->Prop}{a k:Nat}(h:Wi w0 w ws vw b H Fd va A X)(ha:a<ws.length)(hk:k<=16)(hr:Kn.Reach ws a k)
 (hwk:Wk w' b vw (λi=>if i=a then H a ||| 2 ^ k else H i) Fd E4) (hb:Below w0.heap.size w0 w') (hown:w'.ownsRow (b+1) 160 2 E4 (A.length+1) (P9 A++[VI (a:Nat),VI (k:Nat)])):
 Wi w0 w' ws vw b (λi=>if i=a then H a ||| 2 ^ k else H i) Fd E4 (A++[(a,k)]) X:=by
 refine⟨hwk,h.lo,hb,?_,λi hi=>?_,λi j hm=>?_,h.bad,λx hx=>?_,λi j hi hj=>?_⟩
 . rw[Zw,PY];exact hown
 . by_cases e:i=a
   . subst e;simp only[Y6];exact anx _ _ (h.hH i hi) hk
   . rw[ZX e];exact h.hH i hi
 . rw[KI ha]at hm;rcases Iw.1 hm with⟨rfl,rfl⟩|hm
   . exact hr
   . exact h.reach i j hm
 . rcases YT.1 hx with hx|hx
   . obtain⟨h1,h2,h3⟩:=h.inA x hx;refine⟨h1,h2,?_⟩;by_cases e:x.1=a
     . rw[ZU e,or_bit,<- e,h3,Bool.or_true]
     . rw[ZX e];exact h3
   . simp at hx;subst hx;refine⟨ha,hk,?_⟩;simp only[Y6,or_bit];simp
 . rw[KI ha];by_cases e:i=a/\j=k
   . exact .inr (.inl (List.mem_append_right _ (by simp[e.1,e.2])))
   . rcases h.gone i j hi hj with hx|hm|hg
     . exact .inl hx
     . exact .inr (.inl (Ya _ hm))
     . exact .inr (.inr (aT hg e))
theorem vT:(prog.info? 160).map (λi=>(i.zero,i.size,i.bytes))=some (some (.agg #[VI 0,VI 0]),2,16):=VE
theorem DI (ws:List (W×Nat))(p:Option Addr)(cap b a h:Nat)(H:Nat->Nat)(Fd:Nat->Bool)(va:Value)(A:List (Nat×Nat))(X:Nat->Nat->Prop)(w0 w:World)(hn:ws.length<=40)(ha:a<=ws.length)(hh:h<=16)(hr:Kn.Reach ws a h)(hA:A.length<=5000)
 (hi:Wi w0 w ws (.slice p ws.length cap) b H Fd va A X):
 Calls prog 80 #[VG b,VI a,VI h] w λe w'=>e=.returned (.tuple #[])/\∃(H':Nat->Nat) (E4:Value) (A':List (Nat×Nat)),Wi w0 w' ws (.slice p ws.length cap) b H' Fd E4 A' X/\
  NT ws H' a h=true/\(∀i k,NT ws H i k=true->NT ws H' i k=true)/\A'.length+2*Gv ws.length (NT ws H')<=A.length+2*Gv ws.length (NT ws H)/\
  w.heap.size<=w'.heap.size/\∀k,k<w.heap.size->k≠b->va.ownBlock≠some k->w'.heap[k]?=w.heap[k]?:=by
 have c0:=hi.wk.c0;have HI:Hid _:=hi;have HR:=UQ hr;clear hi hr;by_cases hae:a=ws.length
 . subst hae;go_enter func80,ntmps80;go_wp2
   go_quiet (fail)
   go_wp2;refine yM ?_;exact⟨rfl,H,va,A,HI.o.mono uq,afn HR.o,λ_ _ h=>h,ZN _,ZN _,λ_ _ _ _=>rfl⟩
 . have hal:a<ws.length:=by omega
   have c1:=HI.o.wk.ch a VH;have cf:=HI.o.wk.free (1+a);have te:((a:Int)==(ws.length:Int))=false:=Vo;have dE:=HI.o.hH a hal;have h2:(2:Int) ^ h % 4294967296=2 ^ h:=by have:=aak h hh;rw[XB]at this;exact this
   have Ft:bits .and .u32 (H a:Nat) ((2:Int) ^ h % 4294967296)=if (H a).testBit h=true then 2 ^ h else 0:=by rw[h2];exact Kn.u32_and (H a) h dE hh
   have tor:bits .or .u32 (H a:Nat) ((2:Int) ^ h % 4294967296)=((H a ||| 2 ^ h:Nat):Int):=by rw[h2];exact Kn.u32_or (H a) h dE hh
   have Uq:(a:Int)<40:=VH;have hpos:((2:Int) ^ h)≠0:=Int.pow_ne_zero VH;cases Kk:(H a).testBit h
   . have tb:(bits .and .u32 (H a:Nat) ((2:Int) ^ h % 4294967296) != 0)=false:=by rw[Ft,Kk];simp
     clear Ft hpos h2;go_enter func80,ntmps80;go_wp2
     go_quiet (fail)
     go_wp2
     go_region
     have R8:Wk ((w.drewN (nq+1)).setCell (VJ b (1+a)) (.int .u32 ((H a ||| 2 ^ h:Nat):Int))) b (.slice p ws.length cap) (λi=>if i=a then H a ||| 2 ^ h else H i) Fd va:=(HI.o.wk.same (w':=w.drewN (nq+1)) rfl).setH VH _;have Hm:Below w0.heap.size w0 ((w.drewN (nq+1)).setCell (VJ b (1+a)) (.int .u32 ((H a ||| 2 ^ h:Nat):Int))):=(HI.o.below.drewN' _).setCell (by show w0.heap.size<=b;exact HI.o.lo) _
     have hown1:((w.drewN (nq+1)).setCell (VJ b (1+a)) (.int .u32 ((H a ||| 2 ^ h:Nat):Int))).ownsRow (b+1) 160 2 va A.length (P9 A):=
      HI.o.own.kept (row:=some b) afa (.inr (λe=>by have:=(HI.o.own.lt b e).1;omega))
     have CL:∀k,k≠b->((w.drewN (nq+1)).setCell (VJ b (1+a)) (.int .u32 ((H a ||| 2 ^ h:Nat):Int))).heap[k]?=w.heap[k]?:=λk hk=>ZW _ _ _ _ hk;have hsz1:w.heap.size<=((w.drewN (nq+1)).setCell (VJ b (1+a)) (.int .u32 ((H a ||| 2 ^ h:Nat):Int))).heap.size:=zb4;revert R8 Hm hown1 CL hsz1;generalize (w.drewN (nq+1)).setCell (VJ b (1+a)) (.int .u32 ((H a ||| 2 ^ h:Nat):Int))=W1;intro R8 Hm hown1 CL hsz1;have ca:=R8.ca;have hbW:=R8.lt;have hnews:=Us W1 [VI (a:Nat),VI (h:Nat)] 160;have HFR:Hid _:=CL;clear CL;have vu:Hid _:=R8;clear R8 c0 c1 cf tor tb;obtain⟨i0,hi0,hz0,hz1,hz2⟩:=YQ vT
     go_wp2_with first
      | (at_builtin;refine wpList_append_own_at _ rfl _ _ 155 rfl (b+1) 160 i0 (.agg #[VI 0,VI 0]) 2 16 underlying155 hi0 hz0 hz1 hz2 rfl Vz _ _ _ rfl (hown1.alloc _) (VJ W1.heap.size 0) 1 1 [VI (a:Nat),VI (h:Nat)] rfl rfl hnews vH SE VH Ey ?_)
      | fail
     intro v2 W2 hown2 hg2 _ _;have hne:some b≠va.ownBlock:=λe=>by have:=(hown1.lt b e.symm).1;omega
     have R8:=vu.o.same (by
      rw[hg2.block b Ey hne]
      exact ZV W1 _ b hbW)
     have Hm:=Tc Hm UM (Lm hown1 (by have:=HI.o.lo;omega)) hg2;obtain⟨q,c0,rfl⟩:=Rn hown2;have ca:=R8.ca;have fa:=R8.free 81;have gP:Hid _:=R8
     have QP:Hid (∀k,k<w.heap.size->k≠b->va.ownBlock≠some k->W2.heap[k]?=w.heap[k]?):=by
      have hx1:∀k,k<w.heap.size->k≠b->va.ownBlock≠some k->W2.heap[k]?=w.heap[k]?:=λk hk hkb wn=>by
       rw[hg2.block k Ey (λe=>wn e.symm),ZV W1 _ k VH];exact HFR.o k hkb
      exact hx1
     have hsz1:w.heap.size<=W2.heap.size:=anV;clear R8 hg2 hnews;go_wp2
     go_end0
     refine⟨rfl,_,_,_,afk HI.o hal hh HR.o (gP.o.aon _) (Hm.setCell (by show w0.heap.size<=b;exact HI.o.lo) _) ?_,?_,?_,?_,by simpa[World.setCell]using hsz1,λk hk hkb wn=>(ZW _ _ _ _ hkb).trans (QP.o k hk hkb wn)⟩
     . exact hown2.kept (row:=some b) afa (.inr (λe=>by have:=(hown2.lt b e).1;omega))
     . rw[KI hal];exact Kn.J3 _ _ _
     . intro i k hm;rw[KI hal];exact Ie _ _ hm
     . rw[KI hal,Zw];have hm:NT ws H a h=false:=by rw[O4 hal];exact Kk
       have:=Bl (n:=ws.length) (by omega:a<=ws.length) hh hm;simp only[List.length_singleton];omega
   . have tb:(bits .and .u32 (H a:Nat) ((2:Int) ^ h % 4294967296) != 0)=true:=by rw[Ft,Kk];simpa using hpos
     clear Ft hpos h2;go_enter func80,ntmps80;go_wp2
     go_quiet (fail)
     go_wp2;refine yM ?_;exact⟨rfl,H,va,A,HI.o.mono uq,by rw[O4 hal];exact Kk,λ_ _ h=>h,ZN _,ZN _,λ_ _ _ _=>rfl⟩
structure qI (w:World)(F Z:Nat)(a h K:Nat)(n:Int)(s2 s3 s4:ByteArray):Prop where
 flt:F<w.heap.size
 oq:Z<w.heap.size
 f0:w.cell? (VJ F 0)=some (VI (a:Nat))
 f1:w.cell? (VJ F 1)=some (VI (h:Nat))
 z0:w.cell? (VJ Z 0)=some (VI (K:Nat))
 z1:w.cell? (VJ Z 1)=some (VI n)
 z2:w.cell? (VJ Z 2)=some (.string s2)
 z3:w.cell? (VJ Z 3)=some (.string s3)
 z4:w.cell? (VJ Z 4)=some (.string s4)
 z5:w.cell? (VJ Z 5)=some (.pointer none)
theorem qI.same {F Z a h K:Nat}{n:Int}{s2 s3 s4:ByteArray}(hs:qI w F Z a h K n s2 s3 s4)(hF:w'.heap[F]?=w.heap[F]?)(hZ:w'.heap[Z]?=w.heap[Z]?)(hsz:w.heap.size<=w'.heap.size):qI w' F Z a h K n s2 s3 s4:=
 ⟨ZY hs.flt hsz, ZY hs.oq hsz, (Z9 hF).trans hs.f0, (Z9 hF).trans hs.f1, (Z9 hZ).trans hs.z0, (Z9 hZ).trans hs.z1,
  (Z9 hZ).trans hs.z2,(Z9 hZ).trans hs.z3,(Z9 hZ).trans hs.z4,(Z9 hZ).trans hs.z5⟩
theorem qI.below {F Z a h K:Nat}{n:Int}{s2 s3 s4:ByteArray}(hs:qI w F Z a h K n s2 s3 s4)(hb:Below w.heap.size w w'):qI w' F Z a h K n s2 s3 s4:=hs.same (hb.block F hs.flt) (hb.block Z hs.oq) hb.size
theorem ab8 (w:World)(a h K:Nat)(n:Int)(s2 s3 s4:ByteArray)(t1 t2:TypeId):qI ((w.alloc (.cells #[VI (a:Nat),VI (h:Nat)] t1)).alloc (.cells #[VI (K:Nat),VI n,.string s2,.string s3,.string s4,.pointer none] t2)) w.heap.size (w.heap.size+1) a h K n s2 s3 s4:=by
 have h1:=(Z4 w (.cells #[VI (a:Nat),VI (h:Nat)] t1)).1;have h2:=(Z4 (w.alloc (.cells #[VI (a:Nat),VI (h:Nat)] t1)) (.cells #[VI (K:Nat),VI n,.string s2,.string s3,.string s4,.pointer none] t2)).1;rw[ZJ]at h2;have h1:=(ZV (w.alloc (.cells #[VI (a:Nat),VI (h:Nat)] t1)) (.cells #[VI (K:Nat),VI n,.string s2,.string s3,.string s4,.pointer none] t2) w.heap.size Vy).trans h1;refine⟨Vo,Vy,?_,?_,?_,?_,?_,?_,?_,?_⟩
 all_goals (simp only[World.cell?,h2,h1];rfl)
theorem Eo {ws:List (W×Nat)}{vw va:Value}{b a k:Nat}{H:Nat->Nat}{Fd:Nat->Bool}{A:List (Nat×Nat)}(h:Wi w0 w ws vw b H Fd va A (λi j=>i=a/\j=k))(hok:Ph ws a k)(ht:∀t∈tg ws a,NT ws H t (nx ws a k)=true):Wi w0 w ws vw b H Fd va A (λ_ _=>False):=
 ⟨h.wk,h.lo,h.below,h.own,h.hH,h.reach,h.bad,h.inA,λi j hi hj=>by
  rcases h.gone i j hi hj with⟨rfl,rfl⟩|hm|hg
  . exact .inr (.inr λ_=>⟨λ_ t htg=>ht t htg,λho=>absurd hok ho⟩)
  . exact .inr (.inl hm)
  . exact .inr (.inr hg)⟩
theorem ak4 {ws:List (W×Nat)}{vw va:Value}{b a k:Nat}{H:Nat->Nat}{Fd:Nat->Bool}{A:List (Nat×Nat)}(h:Wi w0 w ws vw b H Fd va A (λi j=>i=a/\j=k))(ha:a<40)(hr:Kn.Reach ws a k)(ho:¬Ph ws a k):Wi w0 (w.setCell (VJ b (41+a)) (.bool true)) ws vw b H (OT Fd a) va A (λ_ _=>False):=
 ⟨h.wk.apk ha, h.lo, h.below.setCell (by show w0.heap.size <= b; exact h.lo) _,
  h.own.kept (row:=some b) afa (.inr (λe=>by have:=(h.own.lt b e).1;omega)),
  h.hH,h.reach,λi hi=>by
   by_cases e:i=a
   . subst e;exact⟨k,hr,ho⟩
   . simp[OT,e]at hi
     exact h.bad i hi,h.inA,λi j hi hj=>by
   rcases h.gone i j hi hj with⟨rfl,rfl⟩|hm|hg
   . exact .inr (.inr λ_=>⟨λh'=>absurd h' ho,λ_=>by simp[OT]⟩)
   . exact .inr (.inl hm)
   . exact .inr (.inr (qV hg))⟩
theorem GN (ws:List (W×Nat))(p:Option Addr)(cap b a h:Nat)(x:Int)(H:Nat->Nat)(Fd:Nat->Bool)(va:Value)(A:List (Nat×Nat))(X:Nat->Nat->Prop)(w0 w:World)(hx:x=(a:Int))(hn:ws.length<=40)(ha:a<=ws.length)(hh:h<=16)(hr:Kn.Reach ws a h)(hA:A.length<=5000)
 (hi:Wi w0 w ws (.slice p ws.length cap) b H Fd va A X):
 Calls prog 80 #[VG b,VI x,VI h] w λe w'=>e=.returned (.tuple #[])/\∃(H':Nat->Nat) (E4:Value) (A':List (Nat×Nat)),Wi w0 w' ws (.slice p ws.length cap) b H' Fd E4 A' X/\
  NT ws H' a h=true/\(∀i k,NT ws H i k=true->NT ws H' i k=true)/\A'.length+2*Gv ws.length (NT ws H')<=A.length+2*Gv ws.length (NT ws H)/\
  w.heap.size<=w'.heap.size/\∀k,k<w.heap.size->k≠b->va.ownBlock≠some k->w'.heap[k]?=w.heap[k]?:=by
 subst hx;exact DI ws p cap b a h H Fd va A X w0 w hn ha hh hr hA hi
theorem su.drew {k t l:Nat}{sd jp st:Bool}(h:su w k t l sd jp st):su w.drew k t l sd jp st:=⟨h.c0,h.c1,h.c2,h.c3,h.c4⟩
theorem RH (h:Below w.drew.heap.size w.drew w'):Below w.heap.size w w':=⟨h.os,h.tape,h.output,h.size,h.block⟩
theorem ad2 (ws:List (W×Nat))(p:Option Addr)(g cap b a h:Nat)(H:Nat->Nat)(Fd:Nat->Bool)(va:Value)(A:List (Nat×Nat))(w0 w:World)(hn:ws.length<=40)(ha:a<ws.length)(hh:h<=16)(Kk:(H a).testBit h=true)(hA:A.length+2*Gv ws.length (NT ws H)<=5000)
 (hw:KAt w0 p g ws) (hf:∀(i:Nat) (x:W×Nat),ws[i]?=some x->Fine x.1 ws.length) (hge:0<w0.heap.size) (hE:Qc w0)
 (hi:Wi w0 w ws (.slice p ws.length cap) b H Fd va A (λi k=>i=a/\k=h)):
 Calls prog 81 #[VG b,.agg #[VI a,VI h]] w λe w'=>e=.returned (.tuple #[])/\∃(H':Nat->Nat) (Fd':Nat->Bool) (E4:Value) (A':List (Nat×Nat)),Wi w0 w' ws (.slice p ws.length cap) b H' Fd' E4 A' (λ_ _=>False)/\
  (∀i k,NT ws H i k=true->NT ws H' i k=true)/\A'.length+2*Gv ws.length (NT ws H')<=A.length+2*Gv ws.length (NT ws H):=by
 obtain⟨x,hx⟩:∃x,ws[a]?=some x:=⟨_,Z8 ha⟩
 have hwx:EG ws a=x.1:=ql;have Rg:=hf a x hx;obtain rfl:p=some (VJ g 0):=hw.head VH;have hat:=hw.below UM hi.below;have hgl:=ZY (hw.lt VH) hi.below.size;have d0:=hat.c0 a x hx;have d1:=hat.c1 a x hx;have d2:=hat.c2 a x hx;have d3:=hat.c3 a x hx;have d4:=hat.c4 a x hx;have d5:=hat.c5 a x hx;have c0:=hi.wk.c0;have hbl:=hi.wk.lt;have hlo:=Rg.lo;have hhi:=Rg.hi;obtain⟨t,l,sd,jp,st,he⟩:=vM x.1.k x.1.n Rg.kind;have Ck:Hid _:=he;have NE:Hid _:=Rg;have HX:Hid _:=hwx;have HI:Hid _:=hi;have oE:=UQ hE;have hkk:=he.lt;have ht2:=he.ht;have hl2:=he.hl;clear hx hwx Rg he hat hw hf hi hE;obtain⟨⟨xk,xn,xs,xa,xb⟩,xi⟩:=x;simp only at d0 d1 d2 d3 d4 hlo hhi hkk Ck NE HX;obtain⟨kk,D2⟩:∃kk,kindOf xk=kk:=Vx
 have pZ:Hid (Jl[kk]?=some (t,l,sd,jp,st)):=by
  have hx1:Jl[kk]?=some (t,l,sd,jp,st):=by rw[<- D2];exact Ck.o.row
  exact hx1
 rw[D2]at d0 hkk;clear D2;have hKi:(kk:Int)<23:=VH;go_enter func81,ntmps81;go_wp2
 go_region
 have hsp:qI ((w.alloc (.cells #[VI (a:Nat),VI (h:Nat)] 160)).alloc (.cells #[VI (kk:Nat),VI xn,.string (VF xa),.string (VF xs),.string (VF xb),.pointer none] 146)).drew w.heap.size (w.heap.size+1) a h kk xn (VF xa) (VF xs) (VF xb):=(ab8 w a h kk xn (VF xa) (VF xs) (VF xb) _ _).same rfl rfl UM;have hw1:Below w.heap.size w ((w.alloc (.cells #[VI (a:Nat),VI (h:Nat)] 160)).alloc (.cells #[VI (kk:Nat),VI xn,.string (VF xa),.string (VF xs),.string (VF xb),.pointer none] 146)).drew:=(((ZR _ _).alloc UM _).alloc Vy _).drew;revert hsp hw1;generalize ((w.alloc (.cells #[VI (a:Nat),VI (h:Nat)] 160)).alloc (.cells #[VI (kk:Nat),VI xn,.string (VF xa),.string (VF xs),.string (VF xb),.pointer none] 146)).drew=W1;intro hsp hw1;have hi1:=UQ (HI.o.mono hw1)
 have pL:Hid (va.ownBlock≠some w.heap.size/\va.ownBlock≠some (w.heap.size+1)):=by
  have hx1:va.ownBlock≠some w.heap.size/\va.ownBlock≠some (w.heap.size+1):=⟨λe=>by have:=(HI.o.own.lt _ e).2;omega,λe=>by have:=(HI.o.own.lt _ e).2;omega⟩
  exact hx1
 have me:b≠w.heap.size:=VH;have nA:b≠w.heap.size+1:=VH;clear d0 d1 d2 d3 d4 d5 c0 hbl hgl hw1;clear HI;revert hsp pL me nA;generalize w.heap.size+1=Z;generalize w.heap.size=F;intro hsp pL me nA;have Cw:Hid _:=hsp;clear hsp;have dg:=(oE.o.below hge hi1.o.below) kk t l sd jp st pZ.o;have JS:Hid _:=dg;have z6:=ZY hge hi1.o.below.size;clear dg
 obtain⟨tn,htn⟩:∃tn:Nat,Ia t sd xn=(tn:Int):=by
  have:=(I7 NE.o).1;simp only at this;rw[Ck.o.takes]at this;exact⟨_,(Int.toNat_of_nonneg this).symm⟩
 have br:tn<=4:=by
  have:=(I7 NE.o).2.1;simp only at this;rw[Ck.o.takes,htn]at this;omega
 have gT:Hid _:=htn;clear htn;have f1:=Cw.o.f1;have z0:=Cw.o.z0;have z1:=Cw.o.z1;have z2:=Cw.o.z2;have z3:=Cw.o.z3;have z4:=Cw.o.z4;have z5:=Cw.o.z5;have e1:=JS.o.c1;go_wp2_with fail;refine afJ ?_;intro hHeld;refine Ep ?_;refine Uh 2 ?_;refine agh ?_;refine Uh 8 ?_;refine Ur 9 ?_;refine Ul 3 λY_ Z_=>?_;go_simp;refine(Dz kk t l sd jp st xn _ _ _ _ hkk ht2 hlo hhi (show 0<W1.drew.heap.size from z6) JS.o.drew).mono ?_;rintro e W2 ⟨rfl,hb⟩;rw[gT.o];have hb2:=RH hb;have PT:=UQ (Cw.o.below hb2);have hi2:=UQ (hi1.o.mono hb2);have m9:=UQ ((oE.o.below hge hi2.o.below) kk t l sd jp st pZ.o);have tv:=ZY z6 hb2.size;clear f1 z0 z1 z2 z3 z4 z5 e1 hb hb2;have f1:=PT.o.f1;have z0:=PT.o.z0;have z1:=PT.o.z1;have z2:=PT.o.z2;have z3:=PT.o.z3;have z4:=PT.o.z4;have z5:=PT.o.z5;have e1:=m9.o.c1
 try go_wp2_with fail
 refine Z_.go λhHeld=>?_;clear Z_ Y_
 try refine UE ?_
 refine Uh 4 ?_;refine Uh 10 ?_;refine Ur 11 ?_;refine Nr ?_;have un:IntKind.i64.wrap ((h:Int)-(tn:Int))=(h:Int)-tn:=Ar;have Dr:IntKind.i64.wrap ((h:Int)-(tn:Int)+(l:Int))=(h:Int)-tn+l:=Ar;simp only[un,Dr];clear un Dr hi1 Cw JS z6 hHeld;clear hHeld
 have Fi:Hid (tk ws a=tn/\ly ws a=l/\tg ws a=((if st then [] else [(a:Int)+1])++(if jp then [xn] else [])).map Int.toNat):=by
  have hx1:tk ws a=tn/\ly ws a=l/\tg ws a=((if st then [] else [(a:Int)+1])++(if jp then [xn] else [])).map Int.toNat:=by
   unfold tk ly tg;rw[HX.o];simp only;rw[Ck.o.takes,Ck.o.lays,Ck.o.goes,gT.o];exact⟨Zp _,Zp _,rfl⟩
  exact hx1
 have hm1:NT ws H a h=true:=by rw[O4 ha];exact Kk
 have HM:Hid _:=hm1;clear hm1;by_cases hok:tn<=h/\h-tn+l<=16
 . obtain⟨Ab,i_⟩:=hok
   obtain⟨m,hm⟩:∃m:Nat,(h:Int)-(tn:Int)+(l:Int)=(m:Int):=⟨h-tn+l,VH⟩
   have hm1:m<=16:=VH
   have HO:Hid (Ph ws a h/\nx ws a h=m):=by
    have hx1:Ph ws a h/\nx ws a h=m:=by
     exact ag7
    exact hx1
   rw[hm];have t1:decide (h<tn)=false:=Vo;have t2:decide (16<m)=false:=Vo;clear hm Ab i_;have HR:=UQ (hi2.o.reach _ _ HM.o);go_wp2_with fail;refine afJ ?_;intro hHeld;refine Ep ?_;refine akr ?_;intro Y_ Z_ W3 hb hb2 Vv hi1 JS;clear f1 z0 z1 z2 z3 z4 z5 e1 hb hb2;refine acg ?_;intro f1 z0 z1 z2 z3 z4 z5 e1
   try go_wp2_with fail
   refine Z_.go λhHeld=>?_;clear Z_ Y_
   try refine UE ?_
   refine Uh 4 ?_;refine Ur 5 ?_
   try simp only[t1]
   refine Uh 6 ?_;refine Ur 7 ?_
   try simp only[t2]
   refine Ur 8 ?_;refine Nr ?_;clear hHeld;clear hHeld;have e3:=JS.o.c3;have f0:=Vv.o.f0
   have hpos:∀q:Nat,q∈tg ws a->Kn.Reach ws q m:=λq hq=>by
    have:=I5 ha HR.o HO.o.1 hq;rw[HO.o.2]at this;exact this
   have HP:Hid _:=hpos;clear hpos m9 PT hi2 tv;have qv:A.length<=5000:=VH;cases jp
   . cases st
     . have e4:=JS.o.c4
       have x8:Hid (tg ws a=[a+1]):=by
        have hx1:tg ws a=[a+1]:=by rw[Fi.o.2.2];simp
        exact hx1
       go_wp2_with fail;refine(GN ws _ cap b (a+1) m _ H Fd va A _ w0 W3 VH hn VH hm1 akX qv hi1.o).mono ?_;rintro e W4 ⟨rfl,H4,oB,A4,Lv,hmk,hmono,R2,_,_⟩;go_wp2
       go_end0
       exact⟨rfl,H4,Fd,oB,A4,Eo Lv HO.o.1 (λt ht=>by rw[x8.o]at ht;simp at ht;subst ht;rw[HO.o.2];exact hmk),hmono,R2⟩
     . have e4:=JS.o.c4
       have x8:Hid (tg ws a=[]):=by
        have hx1:tg ws a=[]:=by rw[Fi.o.2.2];simp
        exact hx1
       go_wp2
       go_end0
       exact⟨rfl,H,Fd,va,A,Eo hi1.o HO.o.1 (λt ht=>by rw[x8.o]at ht;cases ht),λ_ _ h=>h,ZN _⟩
   . have hgo:=NE.o.goto (Ck.o.jumps.1 rfl);simp only at hgo;obtain⟨q,rfl⟩:=YP hgo.1;have FL:q<=ws.length:=VH;clear hgo
     have x8:Hid (tg ws a=(if st then [] else [a+1])++[q]):=by
      have hx1:tg ws a=(if st then [] else [a+1])++[q]:=by rw[Fi.o.2.2];cases st<;>simp<;>omega
      exact hx1
     go_wp2_with fail;refine(GN ws _ cap b q m _ H Fd va A _ w0 W3 rfl hn FL hm1 akX qv hi1.o).mono ?_;rintro e W4 ⟨rfl,H4,oB,A4,Lv,hmk,hmono,R2,hsz,hfr⟩;have t8:=UQ (Vv.o.same (hfr F Vv.o.flt (VL me) pL.o.1) (hfr Z Vv.o.oq (VL nA) pL.o.2) hsz);have ki:Hid _:=Lv;have cw:=UQ ((oE.o.below hge ki.o.below) kk t l sd true st pZ.o)
     have D0:Hid (NT ws H4 q m=true/\(∀i k,NT ws H i k=true->NT ws H4 i k=true)/\A4.length+2*Gv ws.length (NT ws H4)<=A.length+2*Gv ws.length (NT ws H)):=⟨hmk,hmono,R2⟩
     have qv:A4.length<=5000:=VH;clear f1 z0 z1 z2 z3 z4 z5 e1 e3 f0 hfr Lv hmk hmono R2;have z0:=t8.o.z0;have f0:=t8.o.f0;have e4:=cw.o.c4;cases st
     . go_wp2_with fail;refine(GN ws _ cap b (a+1) m _ H4 Fd oB A4 _ w0 W4 VH hn VH hm1 akX qv ki.o).mono ?_;rintro e W5 ⟨rfl,H5,va5,A5,Lv,hmk,hmono,R2,_,_⟩;go_wp2
       go_end0
       refine⟨rfl,H5,Fd,va5,A5,Eo Lv HO.o.1 (λt ht=>?_),λi k hik=>hmono i k (D0.o.2.1 i k hik),ZC R2 D0.o.2.2⟩;rw[x8.o]at ht;simp at ht;rw[HO.o.2];rcases ht with rfl|rfl
       . exact hmk
       . exact hmono _ _ D0.o.1
     . go_wp2
       go_end0
       refine⟨rfl,H4,Fd,oB,A4,Eo ki.o HO.o.1 (λt ht=>?_),D0.o.2.1,D0.o.2.2⟩;rw[x8.o]at ht;simp at ht;subst ht;rw[HO.o.2];exact D0.o.1
 . have HO:Hid (¬Ph ws a h):=by
    have hx1:¬Ph ws a h:=an1;exact hx1
   have HR:=UQ (hi2.o.reach _ _ HM.o);have Uq:(a:Int)<40:=VH;by_cases hlt:h<tn
   . have t1:decide (h<tn)=true:=by simp;omega
     clear hok;go_wp2_with fail;refine afJ ?_;intro hHeld;refine Ep ?_;refine akr ?_;intro Y_ Z_ W3 hb hb2 Vv hi1 JS;clear f1 z0 z1 z2 z3 z4 z5 e1 hb hb2;refine acg ?_;intro f1 z0 z1 z2 z3 z4 z5 e1
     try go_wp2_with fail
     refine Z_.go λhHeld=>?_;clear Z_ Y_
     try refine UE ?_
     refine Uh 4 ?_;refine Ur 5 ?_
     try simp only[t1]
     refine Ze (i:=6) (oi:=_) (v:=_) rfl VE VE VE Nh Gu Ox ?_;refine MC ?_;refine Ze (i:=7) (oi:=_) (v:=_) rfl VE VE VE Nh Gu Ox ?_;refine MC ?_;refine Ur 8 ?_;refine Nr ?_;clear hHeld;clear hHeld;have f0:=Vv.o.f0;have k1:=hi1.o.wk.cf a VH;have k2:=hi1.o.wk.free (41+a);go_wp2_with fail
     go_region
     exact anT
   . obtain⟨m,hm⟩:∃m:Nat,(h:Int)-(tn:Int)+(l:Int)=(m:Int):=⟨h-tn+l,VH⟩
     rw[hm];have t1:decide (h<tn)=false:=Vo;have t2:decide (16<m)=true:=Vo;have t3:16<m:=VH;clear hok hm hlt;go_wp2_with fail;refine afJ ?_;intro hHeld;refine Ep ?_;refine akr ?_;intro Y_ Z_ W3 hb hb2 Vv hi1 JS;clear f1 z0 z1 z2 z3 z4 z5 e1 hb hb2;refine acg ?_;intro f1 z0 z1 z2 z3 z4 z5 e1
     try go_wp2_with fail
     refine Z_.go λhHeld=>?_;clear Z_ Y_
     try refine UE ?_
     refine Uh 4 ?_;refine Ur 5 ?_
     try simp only[t1]
     refine Uh 6 ?_;refine Ur 7 ?_
     try simp only[t2]
     refine Ur 8 ?_;refine Nr ?_;clear hHeld;clear hHeld;have f0:=Vv.o.f0;have k1:=hi1.o.wk.cf a VH;have k2:=hi1.o.wk.free (41+a);go_wp2_with fail
     go_region
     exact anT
def SB (v:Value):Array Value:=#[v]++Array.replicate 40 (.int .u32 0)++Array.replicate 40 (.bool false)++#[.slice none 0 0]
theorem jI (v:Value):zeroCells157.setIfInBounds 0 v=SB v:=VE
theorem aV:(prog.info? 157).map (·.size)=some 82:=VE
theorem He (v:Value):(SB v).size=82:=by simp[SB]
theorem lG (w:World)(p:Option Addr)(n cap:Nat):(storeCells (VJ w.heap.size 0) (zeroCells157.toList.set 0 (.slice p n cap))).run prog (w.alloc (.cells zeroCells157 157))=.ok () (w.alloc (.cells (SB (.slice p n cap)) 157)):=by
 have h:=run_storeCells_new (P:=prog) w 157 zeroCells157 (SB (.slice p n cap)) (by rw[He];exact aV) (by rw[He];kernel_rfl) VE;rw[<- jI]at h ⊢;simpa using h
theorem akR (w:World)(v:Value):Wk (w.alloc (.cells (SB v) 157)) w.heap.size v (λ_=>0) (λ_=>false) (.slice none 0 0):=by
 have hb:=(Z4 w (.cells (SB v) 157)).1;refine⟨Vy,?_,λi hi=>?_,λi hi=>?_,?_,λi=>?_⟩
 . refine Iq ?_;simp[SB]
 . refine Iq ?_;show (SB v)[1+i]?=_;unfold SB;rw[Yh Vo,Yh Vo,XG Vy];simp[hi]
 . refine Iq ?_;show (SB v)[41+i]?=_;unfold SB;rw[Yh Vo,XG Vy];have e:41+i-(#[v]++Array.replicate 40 (Value.int IntKind.u32 0)).size=i:=Vy;rw[e,Array.getElem?_replicate,ZU hi]
 . refine Iq ?_;show (SB v)[81]?=_;unfold SB;rw[XG Vy];simp
 . simp only[World.frozen?,hb];simp
theorem alr (w:World)(ws:List (W×Nat))(v:Value):Wi w (w.alloc (.cells (SB v) 157)) ws v w.heap.size (λ_=>0) (λ_=>false) (.slice none 0 0) [] (λ_ _=>False):=by
 refine⟨akR w v,ZN _,(ZR _ _).alloc UM _,YW _ _ _ _,λi _=>Vy,λi h hm=>?_,λi hi=>(by cases hi),λx hx=>(by cases hx),λi h hi hh=>?_⟩
 . unfold NT at hm;split at hm
   . simp at hm
   . simpa using hm
 . right;right;intro hm;rw[O4 hi]at hm;simp at hm
theorem aaH (n:Nat):(pairs n).length=(n+1)*17:=by
 unfold pairs;rw[List.length_flatMap];simp[List.map_const']
theorem alC (n:Nat)(M:Nat->Nat->Bool)(h:n<=40):Gv n M<=697:=by
 have:=List.countP_le_length (p:=λp:Nat×Nat=>!M p.1 p.2) (l:=pairs n);rw[aaH]at this;unfold Gv;omega
theorem aco {B:Nat}{e:TypeId}{v:Value}{A:List (Nat×Nat)}{x:Nat×Nat}(h:w.ownsRow B e 2 v (A++[x]).length (P9 (A++[x]))):∃g c,v=.slice (some (VJ g 0)) (A.length+1) c/\A.length+1<=c/\c<=maxLen/\g<w.heap.size/\B<=g/\w.cell? (VJ g (A.length*2))=some (VI (x.1:Nat))/\w.cell? (VJ g (A.length*2+1))=some (VI (x.2:Nat)):=by
 have hl:(A++[x]).length=A.length+1:=Vy;have hc:=λg hg=>h.cells (g:=g) hg;rcases h.2 with⟨_,h0⟩|⟨g,c,cur,hv,hb,hg,hn,hm,_⟩
 . omega
 . subst hv
   have key:∀j u,(P9 (A++[x]))[j]?=some u->w.cell? (VJ g j)=some u:=by
    intro j u hj;have:=hc g rfl j u hj;exact ac5
   refine⟨g,c,by rw[hl],VH,hm,(Z5.1 hg).1,hb,key _ _ ?_,key _ _ ?_⟩
   . exact aiz
   . exact aiz
theorem vk {ws:List (W×Nat)}{H:Nat->Nat}{k:Nat}(hk:k<ws.length)(hH:H k<2 ^ 17):1<cnt (NT ws H) k 17↔H k &&& (H k-1)≠0:=by
 rw[iR]
 have hb:∀h,(H k).testBit h=true->h<=16:=λh hh=>by
  apply Zt;intro hn;have:H k<2 ^ h:=ZY hH (Yb VH VH);rw[Nat.testBit_lt_two_pow this]at hh;cases hh
 constructor
 . rintro⟨h1,h2,hlt,_,m1,m2⟩ hz;rw[O4 hk]at m1 m2;have:=(Dn 17 (H k) hH).1 hz h1 h2 m1 m2;omega
 . intro hz;have:¬∀h1 h2,(H k).testBit h1=true->(H k).testBit h2=true->h1=h2:=λh=>hz ((Dn 17 (H k) hH).2 h);obtain⟨h1,hx⟩:=Classical.not_forall.1 this;obtain⟨h2,hx⟩:=Classical.not_forall.1 hx;obtain⟨b1,hx⟩:=Classical.not_imp.1 hx;obtain⟨b2,hne⟩:=Classical.not_imp.1 hx;rcases Nat.lt_or_gt_of_ne hne with hlt|hlt
   . exact⟨h1,h2,hlt,hb h2 b2,by rw[O4 hk];exact b1,by rw[O4 hk];exact b2⟩
   . exact⟨h2,h1,hlt,hb h1 b1,by rw[O4 hk];exact b2,by rw[O4 hk];exact b1⟩
theorem abP {ws:List (W×Nat)}{vw va:Value}{b:Nat}{H:Nat->Nat}{Fd:Nat->Bool}(h:Wi w0 w ws vw b H Fd va [] (λ_ _=>False))(h0:NT ws H 0 0=true){k:Nat}(hk:k<ws.length):Wrong ws k↔(H k &&& (H k-1)≠0\/Fd k=true):=by
 have hm:Marked ws (NT ws H) Fd:=⟨h0,h.reach,h.bad⟩
 have hg:∀i j,i<ws.length->j<=16->Gone ws (NT ws H) Fd i j:=λi j hi hj=>by
  rcases h.gone i j hi hj with hf|hm|hg
  . exact hf.elim
  . cases hm
  . exact hg
 rw[yY hm hg hk,vk hk (h.hH k hk),Or.comm]
theorem Bj (ws:List (W×Nat))(p:Option Addr)(g cap:Nat)(w:World)(hn:ws.length<=40)(hw:KAt w p g ws)(hf:∀(i:Nat) (x:W×Nat),ws[i]?=some x->Fine x.1 ws.length)(hge:0<w.heap.size)(hE:Qc w):
 Calls prog 43 #[.slice p ws.length cap] w λe w'=>∃r:Int,e=.returned (VI r)/\Kt (Wrong ws) ws.length r/\Below w.heap.size w w':=by
 have HW:Hid _:=hw;have HF:Hid _:=hf;have HE:=UQ hE;clear hw hf hE;go_enter func43,ntmps43;have hst:=lG w p ws.length cap;go_wp2_with fail;clear hst;have hw0:=alr w ws (.slice p ws.length cap);refine(DI ws p cap w.heap.size 0 0 _ _ _ [] _ w _ hn VH VH (KY ws) Vy hw0).mono ?_;rintro e W1 ⟨rfl,H1,lj,A1,Lv,hmk,_,R2,_,_⟩
 have hU:A1.length+2*Gv ws.length (NT ws H1)<=1394:=by
  have:=alC ws.length (NT ws (λ_=>0)) hn;simp at R2;omega
 have HI:Hid _:=Lv;have HM:Hid _:=hmk;clear Lv hmk R2 hw0;go_wp2_with fail
 go_loopg [4] (A1.length+2*Gv ws.length (NT ws H1)) (λgk _ wr=>∃(H:Nat->Nat) (Fd:Nat->Bool) (va:Value) (A:List (Nat×Nat)),Wi w wr ws (.slice p ws.length cap) w.heap.size H Fd va A (λ_ _=>False)/\NT ws H 0 0=true/\gk=A.length+2*Gv ws.length (NT ws H)/\gk<=1394)
 case atStart=>exact⟨H1,_,lj,A1,HI.o,HM.o,rfl,hU⟩
 case round=>
  clear HI HM hU;obtain⟨H,Fd,va,A,Lv,hmk,rfl,hU⟩:=hrel;have HI:Hid _:=Lv;have HM:Hid _:=hmk;clear Lv hmk;have ca:=HI.o.wk.ca;have fa:=HI.o.wk.free 81;have hbl:=HI.o.wk.lt;rcases List.eq_nil_or_concat A with rfl|⟨A',x,rfl⟩
  . obtain⟨q,c,rfl⟩:=Rn HI.o.own
    have nF:Hid (∀k,k<ws.length->(Wrong ws k↔(H k &&& (H k-1)≠0\/Fd k=true))):=by
     have hx1:∀k,k<ws.length->(Wrong ws k↔(H k &&& (H k-1)≠0\/Fd k=true)):=λk hk=>abP HI.o HM.o hk;exact hx1
    have HH:=UQ HI.o.hH;go_wp2
    go_loopw [33] (λi w2=>∃k:Nat,i=VI k/\k<=ws.length/\(∀j,j<k->¬Wrong ws j)/\Wk w2 w.heap.size (.slice p ws.length cap) H Fd (.slice q 0 c)/\Below w.heap.size w w2) (λi _=>ws.length-(intOf i).toNat)
    case atStart=>exact⟨0,rfl,VH,λj h=>VH,HI.o.wk,HI.o.below⟩
    case round=>
     clear ca fa;obtain⟨k,rfl,hk,hno,hwk,Cr⟩:=hrel;have G':Hid _:=hno;have vu:Hid _:=hwk;clear hno hwk;by_cases hkn:k<ws.length
     . have c1:=vu.o.ch k VH;have c1:=vu.o.cf k VH;have cY:=HH.o k hkn;have Uq:(k:Int)<40:=VH;have tw:=afI (H k) cY;have tw2:bits .and .u32 (H k:Nat) (((H k:Int)-1) % 4294967296)=((H k &&& (H k-1):Nat):Int):=by rw[XB]at tw;exact tw
       have HK:=UQ (nF.o k hkn);obtain⟨z,hz⟩:∃z,H k &&& (H k-1)=z:=Vx;rw[hz]at tw tw2 HK;clear hz cY
       have next:∀w',Wk w' w.heap.size (.slice p ws.length cap) H Fd (.slice q 0 c)->Below w.heap.size w w'->¬Wrong ws k->∃k':Nat,Value.int IntKind.i64 ((k:Int)+1)=VI (k':Nat)/\k'<=ws.length/\(∀j,j<k'->¬Wrong ws j)/\Wk w' w.heap.size (.slice p ws.length cap) H Fd (.slice q 0 c)/\Below w.heap.size w w':=by
        intro w' Uq h2 h3;refine⟨k+1,Uu,VH,λj hj=>?_,Uq,h2⟩;by_cases e:j=k
        . subst e;exact h3
        . exact G'.o j VH
       have HN:Hid _:=next;clear next;by_cases hz:z=0
       . subst hz;cases hF:Fd k
         . rw[hF]at c1;go_wp2_with fail
           go_quiet (fail)
           go_wp2
           go_roundw
           case rel=>exact HN.o _ (vu.o.same rfl) (Cr.drewN' _) (λhwr=>by rcases HK.o.1 hwr with h|h;exact h rfl;rw[hF]at h;cases h)
           case measure=>simp[intOf]<;>omega
         . rw[hF]at c1;go_wp2_with fail
           go_quiet (fail)
           go_wp2
           go_ret
           exact⟨k,rfl,.inr ⟨k,hkn,rfl,HK.o.2 (.inr hF),G'.o⟩,Cr.drewN' _⟩
       . have tz:((z:Int) != 0)=true:=by simp;omega
         go_wp2_with fail
         go_quiet (fail)
         go_wp2
         go_ret
         exact⟨k,rfl,.inr ⟨k,hkn,rfl,HK.o.2 (.inl hz),G'.o⟩,Cr.drewN' _⟩
     . obtain rfl:k=ws.length:=by omega
       go_wp2
       go_ret
       exact⟨-1,rfl,.inl ⟨rfl,G'.o⟩,Cr⟩
  . rw[List.concat_eq_append]at HI hU;obtain⟨g2,c1,rfl,hc2,hcm,hg2,hbg,k0,k1⟩:=aco HI.o.own;have hin:=HI.o.inA x Vy;unfold maxLen at hcm;go_wp2_with fail;have hp:=(akW HI.o rfl).mono ((ZR _ _).alloc UM (.cells #[VI (x.1:Nat),VI (x.2:Nat)] 160));refine(ad2 ws p g cap w.heap.size x.1 x.2 H Fd _ A' w _ hn hin.1 hin.2.1 hin.2.2 (by simp at hU;omega) HW.o HF.o hge HE.o hp).mono ?_;rintro e W1 ⟨rfl,H1,ci,lj,A1,vx,hmono,R2⟩;have pT:Hid _:=vx;have PB:=UQ (hmono _ _ HM.o);clear hp vx hmono ca fa k0 k1;go_wp2
    go_roundg (A1.length+2*Gv ws.length (NT ws H1))
    case measure=>simp;omega
    case rel=>exact⟨H1,ci,lj,A1,pT.o,PB.o,rfl,by simp at hU;omega⟩
end Go.Proofs.Rz
namespace Go.Proofs.Iz
open Go.ChangeShapes Go.WideShapes Go.ChangeAt Go.RowKit Kn
variable {w : World}
theorem GZ {mb:Nat}{l:List (ByteArray×Value)}(h:D8 w mb l)(ty:TypeId):(Builtin.len_ #[55] ty #[.map (some mb)]).run Tryz.prog w=.ok (VI (l.length:Nat)) w:=by
 obtain⟨es,clock,hb,hl⟩:=h;have e:es.size=l.length:=ak2;rw[run_len_map w 55 ty mb es clock VE hb,e];rfl
theorem Fj {a w w':World}{row:Option Nat}(h:a.grownBy w row)(k:w.grownBy w' row):a.grownBy w' row:=
 ⟨k.os.trans h.os,k.tape.trans h.tape,k.output.trans h.output,ZC h.size k.size,λi hi hne=>(k.block i (ZY hi h.size) hne).trans (h.block i hi hne)⟩
theorem MI (b mb:Nat)(l:List (ByteArray×Value))(s:ByteArray)(p:Option Addr)(n:Int)(w:World)(hb:w.cell? (VJ b 0)=some (.map (some mb)))(hm:SMap w mb l):
 Calls Tryz.prog 20 #[VG b,.string s,.pointer p,VI n] w λe w'=>e=.returned (.tuple #[])/\
  SMap w' mb (put l s ((VG (w.heap.size+1))))/\w'.heap[w.heap.size]?=some (.map #[] 0)/\
  w'.heap[w.heap.size+1]?=some (.cells #[.string s,VI l.length,.pointer p,VI n,.map (some w.heap.size)] 101)/\w.grownBy w' (some mb):=by
 have hmm:=@run_makeMap Tryz.prog;have qi:SMap (w.alloc (.map #[] 0)) mb l:=hm.same (ZV _ _ _ hm.lt);have L2:=GZ (w:=w.drew) (hm.same (w':=w.drew) rfl).str;have L2:=GZ (w:=(w.alloc (.map #[] 0)).drew) (qi.same (w':=(w.alloc (.map #[] 0)).drew) rfl).str
 obtain⟨w1,hrun,hm1,hg1,hsz1⟩:=Kn.yj (P:=Tryz.prog) (w:=((w.alloc (.map #[] 0)).alloc (.cells #[.string s,VI l.length,.pointer p,VI n,.map (some w.heap.size)] 101)).drew)
  ((qi.same (ZV _ (.cells #[.string s,VI l.length,.pointer p,VI n,.map (some w.heap.size)] 101) _ qi.lt)).same rfl)
  Tryz.underlying55 Tryz.underlying9 s ((VG (w.heap.size+1)))
 have hml:=hm.lt
 have hw1:w1.heap[w.heap.size]?=some (.map #[] 0)/\w1.heap[w.heap.size+1]?=some (.cells #[.string s,VI l.length,.pointer p,VI n,.map (some w.heap.size)] 101):=by
  have h2:=(Z4 (w.alloc (.map #[] 0)) (.cells #[.string s,VI l.length,.pointer p,VI n,.map (some w.heap.size)] 101)).1;rw[ZJ]at h2;refine⟨(hg1.block _ Vo Vo).trans ((ZV _ _ _ Vy).trans (Z4 w _).1),(hg1.block _ Vy Vo).trans h2⟩
 have hg2:=Fj (Fj (Xv w _ _) (Xv _ _ _)) ⟨hg1.os,hg1.tape,hg1.output,hg1.size,hg1.block⟩
 have HW:Hid (SMap w1 mb (put l s ((VG (w.heap.size+1))))/\(w1.heap[w.heap.size]?=some (.map #[] 0)/\w1.heap[w.heap.size+1]?=some (.cells #[.string s,VI l.length,.pointer p,VI n,.map (some w.heap.size)] 101))/\w.grownBy w1 (some mb)):=⟨hm1,hw1,hg2⟩
 clear hm1 hw1 hg2 hg1 hm hsz1 qi;go_enter Tryz.func20,Tryz.ntmps20;go_wp2;have hb2:(w.alloc (.map #[] 0)).drew.cell? (VJ b 0)=some (.map (some mb)):=UG;have hbl:=ZE w (VJ b 0) hb
 go_region
 all_goals
  go_end0
  exact⟨rfl,HW.o.1,HW.o.2.1.1,HW.o.2.1.2,HW.o.2.2⟩
def KQ:Nat->List Value
 | 0=>[]
 | n+1=>.pointer none::.string ⟨#[]⟩::.pointer none::.pointer none::KQ n
def aaT (n:Int):Array Value:=(KQ 64++[Value.int .i64 n]).toArray
def Q8 (mb sb:Nat)(p n:Int):Array Value:=(.map (some mb)::.slice none 0 0::VI 0::VI 0::VI p::.map (some sb)::(KQ 64++[Value.int .i64 n])).toArray
theorem Pn {P:Program}{o:Oper}{a:Act}{K:Act->World->Prop}{Q:Exit->Act->World->Prop}{r r':Result Next}(h:r=r')(h2:Oper.upon P o a K Q r'):Oper.upon P o a K Q r:=h ▸ h2
def JI:ByteArray:=⟨#[65,110,121]⟩
def NH:ByteArray:=⟨#[73,110,116]⟩
theorem aeW (p q:Value):Kn.put (Kn.put [] ⟨#[65,110,121]⟩ p) ⟨#[73,110,116]⟩ q=[(JI,p),(NH,q)]:=by
 have e:((⟨#[73,110,116]⟩:ByteArray)==⟨#[65,110,121]⟩)=false:=(Vf _ _).2 Vy;simp[Kn.put,e,JI,NH]
structure NewAt (w':World)(s j:Nat)(a0 a1:Int):Prop where
 img:w'.heap[s+2]?=some (.cells (Q8 s (s+1) a0 a1) 70)
 cls:SMap w' s [(JI,(VG (s+4))),(NH,(VG (j+1)))]
 snd:w'.heap[s+1]?=some (.map #[] 0)
 anyM:w'.heap[s+3]?=some (.map #[] 0)
 apj:w'.heap[s+4]?=some (.cells #[.string JI,VI 0,.pointer none,VI 0,.map (some (s+3))] 101)
 apg:w'.heap[j]?=some (.map #[] 0)
 apP:w'.heap[j+1]?=some (.cells #[.string NH,VI 1,VG (s+4),VI 0,.map (some j)] 101)
 lo:s+5<=j
theorem lV (w:World)(p:Value)(t:TypeId)(mb:Nat)(h:SMap w mb (put [] ⟨#[65,110,121]⟩ p)):(Instr.lookup 55 (.map (some mb)) (.string ⟨#[65,110,121]⟩) false).run Tryz.prog w=.ok p w:=by
 have h1:=MF h.str Tryz.underlying55 Tryz.underlying9 (Tryz.zeroValue57 w) ⟨#[65,110,121]⟩;rw[h1];have e1:((⟨#[65,110,121]⟩:ByteArray)==⟨#[65,110,121]⟩)=true:=(SK _ _).2 rfl;simp[put,List.lookup,e1]
theorem akD (a0 a1:Int)(w:World)(h0:0<=a0)(h1:a0<=6)(h2:1<=a1)(h3:a1<=64)(h4:(bits BinOp.and IntKind.i64 a1 (a1-1)==0)=true):
 Calls Tryz.prog 7 #[VI a0,VI a1] w λe w'=>e=.returned (.tuple #[VG (w.heap.size+2),VI 0])/\(∃j,NewAt w' w.heap.size j a0 a1)/\Below w.heap.size w w':=by
 have hmm:=@run_makeMap Tryz.prog;go_enter Tryz.func7,Tryz.ntmps7;go_wp2_with fail
 first
  | (refine Pn (r' := .ok (.value (.agg (aaT a1))) ((w.alloc (.map #[] 0)).alloc (.map #[] 0))) VE ?_
     go_wp2_with fail;refine Pn (r':=.ok (.value (.agg (Q8 w.heap.size (w.heap.size+1) a0 a1))) ((w.alloc (.map #[] 0)).alloc (.map #[] 0))) VE ?_
     go_wp2_with fail)
  | rw[show Array.foldl (λcs x=>cs.setIfInBounds (6+x.snd) x.fst) (((Tryz.zeroCells70.setIfInBounds 0 (Value.map (some w.heap.size))).setIfInBounds 4 (Value.int IntKind.i64 a0)).setIfInBounds 5 (Value.map (some (w.heap.size+1)))) (Tryz.zeroCells67.setIfInBounds 256 (Value.int IntKind.i64 a1)).zipIdx 0 257=Q8 w.heap.size (w.heap.size+1) a0 a1 from VE]
 have hW0:(((w.alloc (.map #[] 0)).alloc (.map #[] 0)).alloc (.cells (Q8 w.heap.size (w.heap.size+1) a0 a1) 70)).heap.size=w.heap.size+3:=Vy;have k0:SMap (((w.alloc (.map #[] 0)).alloc (.map #[] 0)).alloc (.cells (Q8 w.heap.size (w.heap.size+1) a0 a1) 70)) w.heap.size []:=OL (((ZV _ _ _ Vo).trans aj8).trans (Z4 w _).1)
 have k1:(((w.alloc (.map #[] 0)).alloc (.map #[] 0)).alloc (.cells (Q8 w.heap.size (w.heap.size+1) a0 a1) 70)).heap[w.heap.size+1]?=some (.map #[] 0):=by
  have:=(Z4 (w.alloc (.map #[] 0)) (.map #[] 0)).1;exact aem
 have k2:(((w.alloc (.map #[] 0)).alloc (.map #[] 0)).alloc (.cells (Q8 w.heap.size (w.heap.size+1) a0 a1) 70)).heap[w.heap.size+2]?=some (.cells (Q8 w.heap.size (w.heap.size+1) a0 a1) 70):=by
  have:=(Z4 ((w.alloc (.map #[] 0)).alloc (.map #[] 0)) (.cells (Q8 w.heap.size (w.heap.size+1) a0 a1) 70)).1;exact gu
 have hb0:Below w.heap.size w (((w.alloc (.map #[] 0)).alloc (.map #[] 0)).alloc (.cells (Q8 w.heap.size (w.heap.size+1) a0 a1) 70)):=(((ZR _ _).alloc UM _).alloc Vy _).alloc Vo _;revert hW0 k0 k1 k2 hb0;generalize ((w.alloc (.map #[] 0)).alloc (.map #[] 0)).alloc (.cells (Q8 w.heap.size (w.heap.size+1) a0 a1) 70)=W0;intro hW0 k0 k1 k2 hb0;have c0:W0.cell? (VJ (w.heap.size+2) 0)=some (.map (some w.heap.size)):=by simp only[World.cell?,k2];rfl
 refine(MI (w.heap.size+2) w.heap.size [] ⟨#[65,110,121]⟩ none 0 W0 c0 k0).mono ?_;rintro e w1 ⟨rfl,m1,sT,xe,g1⟩;rw[hW0]at m1 sT xe;have hs1:w.heap.size+5<=w1.heap.size:=by have:=(Z5.1 xe).1;omega
 have vD:=(g1.block (w.heap.size+1) VH Vy).trans k1;have xp:=(g1.block (w.heap.size+2) VH Vy).trans k2;have hb1:=hb0.grown g1 VH Vy;have c1:w1.cell? (VJ (w.heap.size+2) 0)=some (.map (some w.heap.size)):=by simp only[World.cell?,xp];rfl
 have lk:=lV w1 _ 0 w.heap.size m1
 have HA:Hid (w1.heap[w.heap.size+3]?=some (.map #[] 0)/\w1.heap[w.heap.size+4]?=some (.cells #[.string JI,VI 0,.pointer none,VI 0,.map (some (w.heap.size+3))] 101)):=⟨sT,xe⟩
 have HK:Hid (w1.heap[w.heap.size+1]?=some (.map #[] 0)/\w1.heap[w.heap.size+2]?=some (.cells (Q8 w.heap.size (w.heap.size+1) a0 a1) 70)):=⟨vD,xp⟩
 have HM:=UQ m1;clear sT xe vD xp k1 k2 k0 hb0 g1 hW0 m1 c0;go_wp2_with fail;refine(MI (w.heap.size+2) w.heap.size _ ⟨#[73,110,116]⟩ _ 0 w1 c1 HM.o).mono ?_;rintro e w2 ⟨rfl,m1,b1,b2,g1⟩;go_wp2
 go_ret2
 obtain⟨sT,xe⟩:=HA.o;obtain⟨vD,xp⟩:=HK.o;rw[aeW]at m1;refine⟨rfl,⟨w1.heap.size,⟨(g1.block _ VH Vy).trans xp,m1,(g1.block _ VH Vy).trans vD,(g1.block _ VH Vy).trans sT,(g1.block _ VH Vy).trans xe,b1,?_,hs1⟩⟩,hb1.grown g1 VH Vy⟩;exact b2
end Go.Proofs.Iz
namespace Go.Proofs.Rz
open ChangeShapes WideShapes ChangeAt RowKit Kn Iz Tryz
def zS (w:World)(p:Nat):Prop:=w.heap[p]?=some (.cells #[.iface 194 (.agg #[])] 198)
theorem vX (w:World):Calls prog 85 #[] w λe w'=>e=.returned (VG w.heap.size)/\w'=w.alloc (.cells #[.iface 194 (.agg #[])] 198):=by
 go_enter func85,ntmps85;go_wp2
 go_ret
 exact KP
def UO (x:W):Bool:=decide (x.k=115\/x.k=94)
structure xB (w:World)(p:Option Addr)(g:Nat)(ws:List (W×Nat))(pl:Nat->Nat)(n:Nat):Prop where
 head:1<=ws.length->p=some (VJ g 0)
 Vb:1<=ws.length->UL w g
 c0:∀i x,ws[i]?=some x->w.cell? (VJ g (i*6))=some (VI (kindOf x.1.k:Nat))
 c1:∀i x,ws[i]?=some x->w.cell? (VJ g (i*6+1))=some (VI x.1.n)
 c2:∀i x,ws[i]?=some x->w.cell? (VJ g (i*6+2))=some (.string (VF x.1.a))
 c3:∀i x,ws[i]?=some x->w.cell? (VJ g (i*6+3))=some (.string (VF x.1.sel))
 c4:∀i x,ws[i]?=some x->w.cell? (VJ g (i*6+4))=some (.string (VF x.1.b))
 c5:∀i x,ws[i]?=some x->w.cell? (VJ g (i*6+5))=some (.pointer (if i<n/\UO x.1=true then some (VJ (pl i) 0) else none))
variable {w w' : World}
theorem xB.same {p:Option Addr}{g:Nat}{ws:List (W×Nat)}{pl:Nat->Nat}{n:Nat}(h:xB w p g ws pl n)(e:w'.heap[g]?=w.heap[g]?):xB w' p g ws pl n:=by
 have hc:∀o,w'.cell? (VJ g o)=w.cell? (VJ g o):=λo=>Z9 e;exact⟨h.head,λk=>(h.Vb k).same e,λi x hx=>(hc _).trans (h.c0 i x hx),λi x hx=>(hc _).trans (h.c1 i x hx),λi x hx=>(hc _).trans (h.c2 i x hx),λi x hx=>(hc _).trans (h.c3 i x hx),λi x hx=>(hc _).trans (h.c4 i x hx),λi x hx=>(hc _).trans (h.c5 i x hx)⟩
theorem KAt.LV {p:Option Addr}{g:Nat}{ws:List (W×Nat)}(h:KAt w p g ws)(hc:1<=ws.length->UL w g)(pl:Nat->Nat):xB w p g ws pl 0:=
 ⟨h.head,hc,h.c0,h.c1,h.c2,h.c3,h.c4,λi x hx=>by rw[ZX VH];exact h.c5 i x hx⟩
theorem xB.pass {p:Option Addr}{g:Nat}{ws:List (W×Nat)}{pl:Nat->Nat}{n:Nat}(h:xB w p g ws pl n){x:W×Nat}(hx:ws[n]?=some x)(hs:UO x.1=false):xB w p g ws pl (n+1):=
 ⟨h.head,h.Vb,h.c0,h.c1,h.c2,h.c3,h.c4,λi y hy=>by
  rw[h.c5 i y hy];by_cases e:i=n
  . subst e;rw[hx]at hy;injection hy with hy;subst hy;simp[hs]
  . have:(i<n+1)↔(i<n):=by omega
    simp[this]⟩
theorem xB.put {p:Option Addr}{g:Nat}{ws:List (W×Nat)}{pl:Nat->Nat}{n:Nat}(h:xB w p g ws pl n){x:W×Nat}(hx:ws[n]?=some x)(hs:UO x.1=true)(q:Nat):
 xB (w.setCell (VJ g (n*6+5)) (TM q)) p g ws (λi=>if i=n then q else pl i) (n+1):=by
 have ho:∀o,o≠n*6+5->(w.setCell (VJ g (n*6+5)) (TM q)).cell? (VJ g o)=w.cell? (VJ g o):=λo hne=>VD abA;refine⟨h.head,λk=>(h.Vb k).setCell _ _,λi y hy=>(ho _ VH).trans (h.c0 i y hy),λi y hy=>(ho _ VH).trans (h.c1 i y hy),λi y hy=>(ho _ VH).trans (h.c2 i y hy),λi y hy=>(ho _ VH).trans (h.c3 i y hy),λi y hy=>(ho _ VH).trans (h.c4 i y hy),λi y hy=>?_⟩;by_cases e:i=n
 . subst e;rw[hx]at hy;injection hy with hy;subst hy;rw[Vr (h.c5 i x hx)];simp[hs,TM]
 . rw[ho _ VH,h.c5 i y hy];have:(i<n+1)↔(i<n):=VH;simp[this,e]
theorem afF {ws:List (W×Nat)}{B:Nat}{e:TypeId}{v:Value}(h:w.ownsRow B e 6 v ws.length (Rx ws)):∃p g cap,v=.slice p ws.length cap/\KAt w p g ws/\(1<=ws.length->UL w g/\B<=g):=by
 have h0:=h;obtain⟨p,g,cap,rfl,hk⟩:=ach h;refine⟨p,g,cap,rfl,hk,λh1=>?_⟩;obtain rfl:=hk.head h1;rcases h0.2 with⟨h0,h1⟩|⟨g',cap',cur,h0,hb,hg,_⟩
 . cases h0
 . injection h0 with h0 _ _;injection h0 with h0;injection h0 with h0 _ _;subst h0;exact⟨⟨_,_,hg⟩,hb⟩
structure NC (w0 w:World)(ws:List (W×Nat))(pl:Nat->Nat)(n:Nat):Prop where
 mem:∀i x,i<n->ws[i]?=some x->UO x.1=true->zS w (pl i)/\w0.heap.size<=pl i
 inj:∀i j x y,i<n->j<n->ws[i]?=some x->ws[j]?=some y->UO x.1=true->UO y.1=true->pl i=pl j->i=j
theorem zS.lt {p:Nat}(h:zS w p):p<w.heap.size:=(Z5.1 h).1
variable {w0 : World}
theorem NC.same {ws:List (W×Nat)}{pl:Nat->Nat}{n:Nat}(h:NC w0 w ws pl n)(hs:∀k,w0.heap.size<=k->k<w.heap.size->w'.heap[k]?=w.heap[k]?):NC w0 w' ws pl n:=
 ⟨λi x hi hx xh=>by obtain⟨h1,h2⟩:=h.mem i x hi hx xh;exact⟨(hs _ h2 h1.lt).trans h1,h2⟩,h.inj⟩
theorem NC.pass {ws:List (W×Nat)}{pl:Nat->Nat}{n:Nat}(h:NC w0 w ws pl n){x:W×Nat}(hx:ws[n]?=some x)(hs:UO x.1=false):NC w0 w ws pl (n+1):=by
 have key:∀i y,i<n+1->ws[i]?=some y->UO y.1=true->i<n:=λi y hi hy LB=>by
  by_cases e:i=n
  . subst e;rw[hx]at hy;injection hy with hy;subst hy;rw[hs]at LB;cases LB
  . omega
 exact⟨λi y hi hy LB=>h.mem i y (key i y hi hy LB) hy LB,λi j y z hi hj hy hz LB hsz e=>h.inj i j y z (key i y hi hy LB) (key j z hj hz hsz) hy hz LB hsz e⟩
theorem NC.put {ws:List (W×Nat)}{pl:Nat->Nat}{n q:Nat}(h:NC w0 w ws pl n)(hs:∀k,w0.heap.size<=k->k<w.heap.size->w'.heap[k]?=w.heap[k]?)(hq:zS w' q)(hl:w.heap.size<=q)(h0:w0.heap.size<=w.heap.size):NC w0 w' ws (λi=>if i=n then q else pl i) (n+1):=by
 refine⟨λi y hi hy LB=>?_,λi j y z hi hj hy hz LB hsz e=>?_⟩
 . by_cases e:i=n
   . simp only[e,Y6];exact⟨hq,VH⟩
   . simp only[e,Zg];obtain⟨h1,h2⟩:=h.mem i y VH hy LB;exact⟨(hs _ h2 h1.lt).trans h1,h2⟩
 . by_cases ei:i=n
   . by_cases ej:j=n
     . omega
     . simp only[ei,ej,Y6,Zg]at e;have:=(h.mem j z VH hz hsz).1.lt;omega
   . by_cases ej:j=n
     . simp only[ei,ej,Y6,Zg]at e;have:=(h.mem i y VH hy LB).1.lt;omega
     . simp only[ei,ej,Zg]at e;exact h.inj i j y z VH VH hy hz LB hsz e
theorem Ad (ws:List (W×Nat))(p:Option Addr)(g cap:Nat)(w:World)(hn:ws.length<=40)(hw:KAt w p g ws)(XX:1<=ws.length->UL w g)(h0:∀(i:Nat) (x:W×Nat),ws[i]?=some x->Pv x.1)(hge:0<w.heap.size)(hgg:1<=ws.length->g≠0)(hE:Qc w):
 Calls prog 45 #[.slice p ws.length cap] w λe w'=>∃m pl,e=.returned (VG m)/\w'.heap[m]?=some (.cells #[.slice p ws.length cap,VI 0] 165)/\w.heap.size<=m/\
  xB w' p g ws pl ws.length/\NC w w' ws pl ws.length/\Vt w w' (λk=>k=g/\1<=ws.length):=by
 have HW:Hid (KAt w p g ws/\(1<=ws.length->UL w g)):=⟨hw,XX⟩
 have HF:Hid _:=h0;clear hw h0 XX;go_enter func45,ntmps45;go_wp2
 go_loopw [7] (λi wr=>∃(k:Nat) (pl:Nat->Nat),i=VI k/\k<=ws.length/\xB wr p g ws pl k/\NC w wr ws pl k/\Vt w wr (λj=>j=g/\1<=ws.length)) (λi _=>ws.length-(intOf i).toNat)
 case atStart=>exact⟨0,λ_=>0,rfl,VH,HW.o.1.LV HW.o.2 _,⟨λi x hi=>VH,λi j x y hi=>VH⟩,Vt.refl _ _⟩
 case round=>
  obtain⟨k,pl,rfl,hk,hm,Pr,hch⟩:=hrel
  have HM:Hid (xB wr p g ws pl k/\NC w wr ws pl k/\Vt w wr (λj=>j=g/\1<=ws.length)):=⟨hm,Pr,hch⟩
  clear hm Pr hch;by_cases hkn:k<ws.length
  . refine BH ?_;intro x hx;obtain⟨hm,Pr,hch⟩:=HM.o;have Rg:=HF.o k x hx;obtain rfl:p=some (VJ g 0):=hm.head VH;have hgl:=(hm.Vb VH).lt;have hgf:=λo=>(hm.Vb VH).free o;have c0:=hm.c0 k x hx;have c1:=hm.c1 k x hx;have c2:=hm.c2 k x hx;have c3:=hm.c3 k x hx;have c4:=hm.c4 k x hx;have c5:=hm.c5 k x hx;rw[ZX VH]at c5;obtain⟨t,l,sd,jp,st,he⟩:=vM x.1.k x.1.n Rg.kind
    have eh:Qc wr:=by
     intro a b c d e f h;have h1:=hE a b c d e f h;have hb:=hch.block 0 hge (λe=>hgg e.2 e.1.symm);exact⟨(Z9 hb).trans h1.c0,(Z9 hb).trans h1.c1,(Z9 hb).trans h1.c2,(Z9 hb).trans h1.c3,(Z9 hb).trans h1.c4⟩
    have e2:=(eh (kindOf x.1.k) t l sd jp st he.row).c2;have ft:=ZY hge hch.size;have hK:=he.lt
    have HS:Hid (UO x.1=sd):=by
     have hx1:UO x.1=sd:=by
      unfold UO
      cases sd with
      | true=>simpa using he.sends.1 rfl
      | false=>simp only[V6];intro h;have:=he.sends.2 h;cases this
     exact hx1
    have HX:Hid _:=hx;clear hx Rg he hm Pr hch eh;obtain⟨⟨xk,xn,xs,xa,xb⟩,xi⟩:=x;simp only at c0 c1 c2 c3 c4 e2 hK;obtain⟨K',D2⟩:∃K',kindOf xk=K':=Vx;rw[D2]at c0 e2 hK;clear D2;have hKi:(K':Int)<23:=VH;cases sd
    . go_wp2
      go_roundw
      case rel=>
       obtain⟨hm,Pr,hch⟩:=HM.o;exact⟨k+1,pl,Uu,VH,(hm.pass HX.o HS.o).same (ZV _ _ _ hgl),(Pr.pass HX.o HS.o).same (λj _ hj=>ZV _ _ _ hj),hch.alloc _⟩
      case measure=>simp[intOf]<;>omega
    . go_wp2_with fail;refine(vX _).mono ?_;rintro e w2 ⟨rfl,rfl⟩;go_wp2
      go_roundw
      case rel=>
       obtain⟨hm,Pr,hch⟩:=HM.o;have hg0:=(HW.o.2 VH).lt;have hsz:=hch.size;have hne:∀o o2 v,∀j,w.heap.size<=j->j<wr.heap.size->(((wr.setCell (VJ g (k*6+5)) v).alloc o).alloc o2).heap[j]?=wr.heap[j]?:=λo o2 v j hj eK=>(ZV _ _ _ xM).trans ((ZV _ _ _ xM).trans (ZW _ _ _ _ (by show j≠g;omega)));refine⟨k+1,_,Uu,VH,(hm.put HX.o HS.o (wr.heap.size+1)).same ((ZV _ _ _ xM).trans (ZV _ _ _ xM)),Pr.put (hne _ _ _) ?_ VH hsz,((hch.setCell _ _ (λ_=>apn)).alloc _).alloc _⟩;have hz:=(Z4 ((wr.setCell (VJ g (k*6+5)) ((VG (wr.heap.size+1)))).alloc (.cells #[VI K',VI xn,.string (VF xa),.string (VF xs),.string (VF xb),.pointer none] 146)) (.cells #[.iface 194 (.agg #[])] 198)).1;simp only[ZJ,World.setCell,Yz]at hz;exact hz
      case measure=>simp[intOf]<;>omega
  . obtain rfl:k=ws.length:=by omega
    obtain⟨hm,Pr,hch⟩:=HM.o;have hgl:1<=ws.length->g<wr.heap.size:=λh=>(hm.Vb h).lt;clear hm Pr hch;go_wp2
    go_ret
    obtain⟨hm,Pr,hch⟩:=HM.o;refine⟨wr.heap.size,pl,rfl,(Z4 wr _).1,hch.size,?_,Pr.same (λj _ hj=>ZV _ _ _ hj),hch.alloc _⟩;by_cases h1:1<=ws.length
    . exact hm.same (ZV _ _ _ (hgl h1))
    . have hno:∀(i:Nat) (x:W×Nat),ws[i]?≠some x:=λi x hx=>by have:=(Z7.1 hx).1;omega
      exact aj7
structure Ux (w:World)(sb:Nat)(l:List (ByteArray×Value))(ps:Nat->List Nat):Prop where
 map:SMap w sb l
 inn:∀s v,l.lookup s=some v->∃ib,v=.map (some ib)/\LX w ib (ps ib)/\ib≠sb
 inj:∀s t ib,l.lookup s=some (.map (some ib))->l.lookup t=some (.map (some ib))->s=t
 Vb:∀s ib p,l.lookup s=some (.map (some ib))->p∈ps ib->UL w p
def Reg (l:List (ByteArray×Value))(ps:Nat->List Nat)(s:ByteArray)(p:Nat):Prop:=∃ib,l.lookup s=some (.map (some ib))/\p∈ps ib
theorem UA {p b:Nat}{l:List (ByteArray×Value)}(h:UL w p)(h':SMap w b l):p≠b:=by
 rintro rfl;obtain⟨_,_,h⟩:=h;obtain⟨_,_,h',_⟩:=h';rw[h]at h';cases h'
theorem QO {p b:Nat}{l:List Nat}(h:UL w p)(h':LX w b l):p≠b:=by
 rintro rfl;obtain⟨_,_,h⟩:=h;obtain⟨_,_,h',_⟩:=h';rw[h]at h';cases h'
theorem Ux.same {sb:Nat}{l:List (ByteArray×Value)}{ps:Nat->List Nat}(h:Ux w sb l ps)(h1:w'.heap[sb]?=w.heap[sb]?)(h2:∀s ib,l.lookup s=some (.map (some ib))->w'.heap[ib]?=w.heap[ib]?)(h3:∀p,UL w p->UL w' p):Ux w' sb l ps:=
 ⟨h.map.same h1,λs v hv=>by obtain⟨ib,rfl,h4,h5⟩:=h.inn s v hv;exact⟨ib,rfl,h4.same (h2 s ib hv),h5⟩,h.inj,λs ib p hs hp=>h3 p (h.Vb s ib p hs hp)⟩
theorem RN (w:World)(sb:Nat)(l:List (ByteArray×Value))(h:SMap w sb l)(s:ByteArray):(Instr.lookup 56 (.map (some sb)) (.string s) false).run prog w=.ok ((l.lookup s).getD (.map none)) w:=
 MF h.str underlying56 underlying9 (zeroValue138 w) s
theorem xI (ib:Nat)(w:World):(binOp .eql 138 (.map (some ib)) (.map none)).run prog w=.ok (.bool false) w:=VE
theorem wZ (w:World):(binOp .eql 138 (.map none) (.map none)).run prog w=.ok (.bool true) w:=VE
theorem oN:(prog.info? 198).map (·.size)=some 1:=VE
theorem Gz:Gt prog 144:=by
 have h:=oN
 cases hi:prog.info? 198 with
 | none=>rw[hi]at h;cases h
 | some i=>rw[hi]at h;simp at h;exact⟨_,i,underlying144,hi,VH⟩
theorem Ux.Ut {sb:Nat}{l:List (ByteArray×Value)}{ps:Nat->List Nat}{S:Nat->Prop}(h:Ux w sb l ps)(hc:Vt w w' S)(h1:¬S sb)(h2:∀s ib,l.lookup s=some (.map (some ib))->¬S ib)(h3:∀s ib p,l.lookup s=some (.map (some ib))->p∈ps ib->S p->UL w' p):Ux w' sb l ps:=by
 refine⟨h.map.same (hc.block _ h.map.lt h1),λs v hv=>?_,h.inj,λs ib p hs hp=>?_⟩
 . obtain⟨ib,rfl,h4,h5⟩:=h.inn s v hv;exact⟨ib,rfl,h4.same (hc.block _ h4.lt (h2 s ib hv)),h5⟩
 . by_cases hS:S p
   . exact h3 s ib p hs hp hS
   . exact(h.Vb s ib p hs hp).same (hc.block _ (h.Vb s ib p hs hp).lt hS)
theorem PL {a b:Nat}(h:(some (Value.map (some a)):Option Value)=some (.map (some b))):a=b:=Nv
theorem Ux.drew {sb:Nat}{l:List (ByteArray×Value)}{ps:Nat->List Nat}(h:Ux w sb l ps):Ux w.drew sb l ps:=h.same rfl (λ_ _ _=>rfl) (λ_ h=>h.same rfl)
theorem gU {W:World}{sb:Nat}{l:List (ByteArray×Value)}{ps:Nat->List Nat}(h:Ux W sb l ps){s:ByteArray}{ib q:Nat}(hl:l.lookup s=some (.map (some ib)))(hq:UL W q)(v:Value):
 ∃W' ps',(Instr.mapUpdate 138 (.map (some ib)) (TM q) v).run prog W=.ok () W'/\Ux W' sb l ps'/\(∀t r,Reg l ps' t r↔Reg l ps t r\/(t=s/\r=q))/\W.grownBy W' (some ib):=by
 obtain⟨cP,e,B_,hne⟩:=h.inn s _ hl;injection e with e;injection e with e;subst e;obtain⟨W',fY,hrun,hp,hmem,hg,hsz⟩:=acj (P:=prog) B_ (λp hp=>h.Vb s ib p hl hp) underlying138 Gz hq v;have keep:∀p,UL W p->UL W' p:=λp hc=>hc.same (hg.block p hc.lt (λe=>by injection e with e;exact QO hc B_ e));refine⟨W',λk=>if k=ib then fY else ps k,hrun,⟨h.map.same (hg.block _ h.map.lt (λe=>by injection e with e;exact hne e.symm)),λt u hu=>?_,h.inj,λt jb p ht hp'=>?_⟩,λt r=>?_,hg⟩
 . exact anp
 . by_cases e:jb=ib
   . subst e;simp only[Y6]at hp';rcases (hmem p).1 hp' with h4|rfl
     . exact keep p (h.Vb t jb p ht h4)
     . exact keep p hq
   . simp only[e,Zg]at hp';exact keep p (h.Vb t jb p ht hp')
 . constructor
   . rintro⟨jb,h4,h5⟩;by_cases e:jb=ib
     . subst e;simp only[Y6]at h5;rcases (hmem r).1 h5 with h8|rfl
       . exact .inl ⟨jb,h4,h8⟩
       . exact .inr ⟨h.inj t s jb h4 hl,rfl⟩
     . simp only[e,Zg]at h5;exact .inl ⟨jb,h4,h5⟩
   . rintro(⟨jb,h4,h5⟩|⟨rfl,rfl⟩)
     . by_cases e:jb=ib
       . subst e;exact⟨jb,h4,by simp only[Y6];exact(hmem r).2 (.inl h5)⟩
       . exact⟨jb,h4,by simp only[e,Zg];exact h5⟩
     . exact⟨ib,hl,by simp only[Y6];exact(hmem r).2 JQ⟩
theorem afj {W:World}{sb nb:Nat}{l:List (ByteArray×Value)}{ps:Nat->List Nat}(h:Ux W sb l ps){s:ByteArray}(hl:l.lookup s=none)(hn:W.heap[nb]?=some (.map #[] 0))(hfr:∀t,l.lookup t≠some (.map (some nb)))(hns:nb≠sb):
 ∃W',(Instr.mapUpdate 56 (.map (some sb)) (.string s) (.map (some nb))).run prog W=.ok () W'/\Ux W' sb (put l s (.map (some nb))) (λk=>if k=nb then [] else ps k)/\(∀t r,Reg (put l s (.map (some nb))) (λk=>if k=nb then [] else ps k) t r↔Reg l ps t r)/\W.grownBy W' (some sb):=by
 obtain⟨W',hrun,hm,hg,hsz⟩:=yj (P:=prog) h.map underlying56 underlying9 s (.map (some nb));have keep:∀p,UL W p->UL W' p:=λp hc=>hc.same (hg.block p hc.lt (λe=>aol));refine⟨W',hrun,⟨hm,λt u hu=>?_,λt1 t2 ib h1 h2=>?_,λt jb p ht hp=>?_⟩,λt r=>?_,hg⟩
 . rw[S9]at hu;by_cases e:t=s
   . rw[ZU e]at hu;injection hu with hu;refine⟨nb,hu.symm,?_,hns⟩;simp only[Y6];exact jT ((hg.block _ (Z5.1 hn).1 (λe=>by injection e with e;exact hns e)).trans hn)
   . rw[ZX e]at hu;obtain⟨jb,rfl,h4,h5⟩:=h.inn t u hu;have hj:jb≠nb:=λe=>hfr t (by rw[<- e];exact hu);exact⟨jb,rfl,by simp only[hj,Zg];exact h4.same (hg.block _ h4.lt (λe'=>by injection e' with e';exact h5 e')),h5⟩
 . rw[S9]at h1 h2;by_cases e1:t1=s
   . by_cases e2:t2=s
     . rw[e1,e2]
     . rw[ZU e1]at h1;rw[ZX e2]at h2;have h1:=PL h1;subst h1;exact absurd h2 (hfr t2)
   . rw[ZX e1]at h1;by_cases e2:t2=s
     . rw[ZU e2]at h2;have h2:=PL h2;subst h2;exact absurd h1 (hfr t1)
     . rw[ZX e2]at h2;exact h.inj t1 t2 ib h1 h2
 . rw[S9]at ht;by_cases e:t=s
   . rw[ZU e]at ht;have ht:=PL ht;subst ht;simp at hp
   . rw[ZX e]at ht;have hj:jb≠nb:=λe=>hfr t (by rw[<- e];exact ht);simp only[hj,Zg]at hp;exact keep p (h.Vb t jb p ht hp)
 . constructor
   . rintro⟨jb,h1,h2⟩;rw[S9]at h1;by_cases e:t=s
     . rw[ZU e]at h1;have h1:=PL h1;subst h1;simp at h2
     . rw[ZX e]at h1;have hj:jb≠nb:=λe=>hfr t (by rw[<- e];exact h1);simp only[hj,Zg]at h2;exact⟨jb,h1,h2⟩
   . rintro⟨jb,h1,h2⟩;have hj:jb≠nb:=λe=>hfr t (by rw[<- e];exact h1);refine⟨jb,?_,by simp only[hj,Zg];exact h2⟩;rw[S9];by_cases e:t=s
     . subst e;rw[hl]at h1;cases h1
     . rw[ZX e];exact h1
theorem qo {ws:List (W×Nat)}{pl:Nat->Nat}{k:Nat}{x:W×Nat}(hx:ws[k]?=some x)(hs:UO x.1=true){R0 R R':ByteArray->Nat->Prop}
 (h:∀s q,R s q↔R0 s q\/∃i x,i<k/\ws[i]?=some x/\UO x.1=true/\VF x.1.sel=s/\q=pl i) (h':∀t r,R' t r↔R t r\/t=VF x.1.sel/\r=pl k):
 ∀s q,R' s q↔R0 s q\/∃i x,i<k+1/\ws[i]?=some x/\UO x.1=true/\VF x.1.sel=s/\q=pl i:=by
 intro s q;rw[h' s q,h s q];constructor
 . rintro((h|⟨i,y,hi,h⟩)|⟨rfl,rfl⟩)
   . exact .inl h
   . exact .inr ⟨i,y,VH,h⟩
   . exact .inr ⟨k,x,VH,hx,hs,rfl,rfl⟩
 . rintro(h|⟨i,y,hi,hy,h1,h2,h3⟩)
   . exact .inl (.inl h)
   . by_cases e:i=k
     . exact ajz
     . exact .inl (.inr ⟨i,y,VH,hy,h1,h2,h3⟩)
theorem AL (b m sb g cap:Nat)(p:Option Addr)(ws:List (W×Nat))(pl:Nat->Nat)(l0:List (ByteArray×Value))(Sw:Nat->List Nat)(h:Int)(w:World)(hn:ws.length<=40)(hh:Go.RowKit.wrap64 (h+1)<=1)
 (hb:w.cell? (VJ b 5)=some (.map (some sb))) (hbc:UL w b) (hm:w.heap[m]?=some (.cells #[.slice p ws.length cap,VI h] 165)) (hbm:b≠m) (ke:1<=ws.length->g≠m)
 (hw:xB w p g ws pl ws.length) (hpl:∀i x,ws[i]?=some x->UO x.1=true->UL w (pl i)) (hs:Ux w sb l0 Sw):
 Calls prog 82 #[VG b,VG m] w λe w'=>e=.returned (.tuple #[])/\∃l ps,Ux w' sb l ps/\
  (∀s ib,l.lookup s=some (.map (some ib))->l0.lookup s=some (.map (some ib))\/w.heap.size<=ib)/\
  (∀s q,Reg l ps s q↔Reg l0 Sw s q\/∃i x,ws[i]?=some x/\UO x.1=true/\VF x.1.sel=s/\q=pl i)/\
  w'.heap[m]?=some (.cells #[.slice p ws.length cap,VI (Go.RowKit.wrap64 (h+1))] 165)/\Vt w w' (λk=>k=m\/k=sb\/∃s,l0.lookup s=some (.map (some k))):=by
 refine ajE ?_;intro hmc m0 m1 mf
 have HI:Hid (xB w p g ws pl ws.length/\(∀i x,ws[i]?=some x->UO x.1=true->UL w (pl i))/\Ux w sb l0 Sw/\UL w b/\w.heap[m]?=some (.cells #[.slice p ws.length cap,VI h] 165)):=⟨hw,hpl,hs,hbc,hm⟩
 have hml:=hmc.lt;clear hw hpl hs hbc hm hmc;go_enter func82,ntmps82;go_wp2
 go_loopw [23] (λi wr=>∃(k:Nat) (l:List (ByteArray×Value)) (ps:Nat->List Nat),i=VI k/\k<=ws.length/\Ux wr sb l ps/\
  (∀s ib,l.lookup s=some (.map (some ib))->l0.lookup s=some (.map (some ib))\/w.heap.size<=ib)/\
  (∀s q,Reg l ps s q↔Reg l0 Sw s q\/∃i x,i<k/\ws[i]?=some x/\UO x.1=true/\VF x.1.sel=s/\q=pl i)/\
  Vt (w.setCell (VJ m 1) (VI (Go.RowKit.wrap64 (h+1)))) wr (λk=>k=sb\/∃s,l0.lookup s=some (.map (some k)))) (λi _=>ws.length-(intOf i).toNat)
 case atStart=>
  obtain⟨hw,hpl,hs0,hbc,hm⟩:=HI.o;have hmc:UL w m:=wK;refine⟨0,l0,Sw,rfl,VH,hs0.Ut ((Vt.refl w (λk=>k=m)).setCell _ _ (λ_=>rfl)) (λe=>UA hmc hs0.map e.symm) (λs ib hs e=>?_) (λs ib q hs hq e=>by subst e;exact hmc.setCell _ _),λs ib hs=>.inl hs,λs q=>?_,Vt.refl _ _⟩
  . obtain⟨jb,e1,e2,_⟩:=hs0.inn s _ hs;injection e1 with e1;injection e1 with e1;subst e1;exact QO hmc e2 e.symm
  . exact⟨.inl,λh=>by rcases h with h|⟨i,x,hi,_⟩;exact h;omega⟩
 case round=>
  obtain⟨k,l,ps,rfl,hk,RE,hnew,q_,hch⟩:=hrel;obtain⟨hw,hpl,hs0,hbc,hm⟩:=HI.o
  have hblk:∀j,UL w j->j≠m->wr.heap[j]?=w.heap[j]?:=λj hj hjm=>
   (hch.block j aoU (λe=>by
    rcases e with e|⟨t,e⟩
    . exact UA hj hs0.map e
    . refine abz ?_;intro e2 _
      exact QO hj e2 rfl)).trans (ZW w _ _ j hjm)
  have hbr:=(Z9 (a:=(VJ b 5)) (hblk b hbc hbm)).trans hb
  have HR:Hid (Ux wr sb l ps/\(∀s ib,l.lookup s=some (.map (some ib))->l0.lookup s=some (.map (some ib))\/w.heap.size<=ib)/\
   (∀s q,Reg l ps s q↔Reg l0 Sw s q\/∃i x,i<k/\ws[i]?=some x/\UO x.1=true/\VF x.1.sel=s/\q=pl i)/\
   Vt (w.setCell (VJ m 1) (VI (Go.RowKit.wrap64 (h+1)))) wr (λk=>k=sb\/∃s,l0.lookup s=some (.map (some k)))):=⟨RE,hnew,q_,hch⟩
  clear RE hnew q_ hch;by_cases hkn:k<ws.length
  . refine BH ?_;intro x hx;obtain rfl:p=some (VJ g 0):=hw.head VH;have hwr:=hw.same (hblk g (hw.Vb VH) (ke VH));refine aa9 ?_;intro c0 c1 c2 c3 c4 c5;have HX:Hid _:=hx;cases w_:UO x.1
    . have HS:=UQ w_;rw[w_,ZX Vy]at c5;clear hwr hw hpl hs0 hbc hm hblk hx w_ hb m0 m1 mf;go_wp2
      go_roundw
      case rel=>
       obtain⟨RE,hnew,q_,hch⟩:=HR.o;refine⟨k+1,l,ps,Uu,VH,RE.Ut ((Vt.refl wr (λ_=>False)).alloc _) EZ Nh aap,hnew,λs q=>?_,hch.alloc _⟩;rw[q_ s q];refine or_congr Iff.rfl ⟨?_,?_⟩
       . rintro⟨i,y,hi,h⟩;exact⟨i,y,VH,h⟩
       . rintro⟨i,y,hi,hy,h1,h2⟩;refine⟨i,y,?_,hy,h1,h2⟩;by_cases e:i=k
         . subst e;rw[HX.o]at hy;injection hy with hy;subst hy;rw[HS.o]at h1;cases h1
         . omega
      case measure=>simp[intOf]<;>omega
    . have HS:=UQ w_;have hq:=hpl k x hx w_;rw[w_,ZU ⟨hkn,rfl⟩]at c5
      have A7:UL wr (pl k):=by
       by_cases e:pl k=m
       . rw[e]
         have hmr:=HR.o.2.2.2.block m anK (λe=>by
          have hmc:UL w m:=wK;rcases e with e|⟨t,e⟩
          . exact UA hmc hs0.map e
          . refine abz ?_;intro e2 _
            exact QO hmc e2 rfl)
         exact(UL.setCell (wK:UL w m) _ _).same hmr
       . exact hq.same (hblk _ hq e)
      have HQ:Hid (UL (wr.alloc (.cells #[VI (kindOf x.1.k:Nat),VI x.1.n,.string (VF x.1.a),.string (VF x.1.sel),.string (VF x.1.b),VG (pl k)] 146)) (pl k)):=A7.alloc _;have B5:Hid (UL (wr.alloc (.cells #[VI (kindOf x.1.k:Nat),VI x.1.n,.string (VF x.1.a),.string (VF x.1.sel),.string (VF x.1.b),VG (pl k)] 146)) b):=(hbc.same (hblk b hbc hbm)).alloc _;have hz:(wr.alloc (.cells #[VI (kindOf x.1.k:Nat),VI x.1.n,.string (VF x.1.a),.string (VF x.1.sel),.string (VF x.1.b),VG (pl k)] 146)).heap[wr.heap.size]?=some (.cells #[VI (kindOf x.1.k:Nat),VI x.1.n,.string (VF x.1.a),.string (VF x.1.sel),.string (VF x.1.b),VG (pl k)] 146):=(Z4 wr _).1;have hb0:(wr.alloc (.cells #[VI (kindOf x.1.k:Nat),VI x.1.n,.string (VF x.1.a),.string (VF x.1.sel),.string (VF x.1.b),VG (pl k)] 146)).cell? (VJ b 5)=some (.map (some sb)):=UG
      have HN:Hid (Ux (wr.alloc (.cells #[VI (kindOf x.1.k:Nat),VI x.1.n,.string (VF x.1.a),.string (VF x.1.sel),.string (VF x.1.b),VG (pl k)] 146)) sb l ps/\Vt (w.setCell (VJ m 1) (VI (Go.RowKit.wrap64 (h+1)))) (wr.alloc (.cells #[VI (kindOf x.1.k:Nat),VI x.1.n,.string (VF x.1.a),.string (VF x.1.sel),.string (VF x.1.b),VG (pl k)] 146)) (λk=>k=sb\/∃s,l0.lookup s=some (.map (some k)))):=⟨HR.o.1.Ut ((Vt.refl wr (λ_=>False)).alloc _) EZ Nh aap,HR.o.2.2.2.alloc _⟩
      clear hwr hw hpl hs0 hbc hm hblk hx w_ hb m0 m1 mf hq A7;go_wp2_with fail;clear c0 c1 c2 c3 c4 c5 hbr;revert HQ hz hb0 HN B5;generalize wr.alloc (.cells #[VI (kindOf x.1.k:Nat),VI x.1.n,.string (VF x.1.a),.string (VF x.1.sel),.string (VF x.1.b),VG (pl k)] 146)=W0;generalize wr.heap.size=z;intro HQ B5 hz hb0 HN;have z3:W0.cell? (VJ z 3)=some (.string (VF x.1.sel)):=by simp only[World.cell?,hz];rfl
      have z5:W0.cell? (VJ z 5)=some ((VG (pl k))):=by simp only[World.cell?,hz];rfl
      have HZ:Hid (UL W0 z/\UL W0 b):=⟨⟨_,_,hz⟩,B5.o⟩
      clear hz
      cases hl:l.lookup (VF x.1.sel) with
      | some v=>
       obtain⟨ib,rfl,_,_⟩:=HN.o.1.inn _ v hl;have lk:(Instr.lookup 56 (.map (some sb)) (.string (VF x.1.sel)) false).run prog W0.drew=.ok (.map (some ib)) W0.drew:=aoA;have cS:=xI ib
       go_region
       go_wp2_with fail;have Tl:(Instr.lookup 56 (.map (some sb)) (.string (VF x.1.sel)) false).run prog W0.drew.drew=.ok (.map (some ib)) W0.drew.drew:=by rw[RN W0.drew.drew sb l HN.o.1.drew.drew.map,hl];rfl
       obtain⟨W',ps',hrun,Pk,Tg,hg'⟩:=gU HN.o.1.drew.drew hl (HQ.o.same rfl) (.agg #[]);unfold TM at hrun;clear lk
       go_region
       have HW:Hid (Ux W' sb l ps'/\(∀t r,Reg l ps' t r↔Reg l ps t r\/t=VF x.1.sel/\r=pl k)/\W0.grownBy W' (some ib)/\l.lookup (VF x.1.sel)=some (.map (some ib))):=⟨Pk,Tg,⟨hg'.os,hg'.tape,hg'.output,hg'.size,hg'.block⟩,hl⟩
       clear Pk Tg hg' hl hrun Tl z3 z5 hb0;go_wp2
       go_roundw
       case rel=>
        obtain⟨_,hnew,q_,_⟩:=HR.o;obtain⟨_,hch⟩:=HN.o;obtain⟨Pk,Tg,hg',hl⟩:=HW.o;refine⟨k+1,l,ps',Uu,VH,Pk,hnew,qo HX.o HS.o q_ Tg,hch.then (Vt.QY hg') (λj hj e=>?_)⟩;subst e;rcases hnew _ _ hl with h1|h1
        . exact .inr ⟨_,h1⟩
        . simp only[World.setCell,Yz]at hj;omega
       case measure=>simp[intOf]<;>omega
      | none=>
       have lk:(Instr.lookup 56 (.map (some sb)) (.string (VF x.1.sel)) false).run prog W0.drew=.ok (.map none) W0.drew:=aoA;have cS:=wZ
       go_region
       clear lk cS;go_wp2_with fail
       have L5:Hid (Ux W0.drew sb l ps/\Vt (w.setCell (VJ m 1) (VI (Go.RowKit.wrap64 (h+1)))) W0.drew (λk=>k=sb\/∃s,l0.lookup s=some (.map (some k)))/\UL W0.drew (pl k)/\UL W0.drew z/\UL W0.drew b):=⟨HN.o.1.drew,HN.o.2.drew,HQ.o.same rfl,HZ.o.1.same rfl,HZ.o.2.same rfl⟩
       have qe:W0.drew.cell? (VJ z 3)=some (.string (VF x.1.sel)):=z3;have mC:W0.drew.cell? (VJ z 5)=some ((VG (pl k))):=z5;have hb':W0.drew.cell? (VJ b 5)=some (.map (some sb)):=hb0;clear z3 z5 hb0 HN HQ HZ;revert L5 qe mC hb';generalize W0.drew=W1;intro L5 z3 z5 hb0
       obtain⟨W2,hrun,uW,Nt,hg2⟩:=afj (W:=(W1.alloc (.map #[] 0)).drew) (nb:=W1.heap.size) ((L5.o.1.Ut ((Vt.refl W1 (λ_=>False)).alloc (.map #[] 0)) EZ Nh aap).drew) hl (Z4 W1 _).1
        (λt e=>by obtain⟨jb,e1,e2,_⟩:=L5.o.1.inn t _ e;injection e1 with e1;injection e1 with e1;have:=e2.lt;omega) (by have:=L5.o.1.map.lt;omega)
       have hmm:=@run_makeMap prog;have z3a:(W1.alloc (.map #[] 0)).drew.cell? (VJ z 3)=some (.string (VF x.1.sel)):=UG;have Mv:(W1.alloc (.map #[] 0)).drew.cell? (VJ b 5)=some (.map (some sb)):=UG
       go_region
       have XX:∀j,UL W1 j->W2.heap[j]?=W1.heap[j]?:=λj hj=>(hg2.block j (by show j<(W1.alloc _).heap.size;simp;have:=hj.lt;omega) (λe=>by injection e with e;exact UA hj L5.o.1.map e)).trans (ZV W1 _ j hj.lt);have qe:=(Z9 (a:=(VJ z 3)) (XX z L5.o.2.2.2.1)).trans z3;have mC:=(Z9 (a:=(VJ z 5)) (XX z L5.o.2.2.2.1)).trans z5;have hb':=(Z9 (a:=(VJ b 5)) (XX b L5.o.2.2.2.2)).trans hb0;have hq2:=L5.o.2.2.1.same (XX _ L5.o.2.2.1)
       have Wz:=((L5.o.2.1.alloc (.map #[] 0)).then (Vt.QY ⟨hg2.os,hg2.tape,hg2.output,hg2.size,hg2.block⟩) (λj _ e=>.inl e))
       have hl2:(put l (VF x.1.sel) (.map (some W1.heap.size))).lookup (VF x.1.sel)=some (.map (some W1.heap.size)):=by rw[S9,ZU rfl]
       have hnb:w.heap.size<=W1.heap.size:=by have:=L5.o.2.1.size;simp only[World.setCell,Yz]at this;exact this
       have FG:Hid _:=uW;have LT:Hid _:=Nt;have MD:Hid _:=Wz;clear z3 z5 hb0 L5 XX uW Nt hg2 hrun z3a Mv Wz;go_wp2_with fail;have Tl:(Instr.lookup 56 (.map (some sb)) (.string (VF x.1.sel)) false).run prog W2.drew=.ok (.map (some W1.heap.size)) W2.drew:=by rw[RN W2.drew sb _ FG.o.drew.map,hl2];rfl
       obtain⟨W',ps',hrun,Pk,Tg,hg'⟩:=gU FG.o.drew hl2 (hq2.same rfl) (.agg #[]);unfold TM at hrun
       go_region
       have HW:Hid (Ux W' sb (put l (VF x.1.sel) (.map (some W1.heap.size))) ps'/\(∀t r,Reg (put l (VF x.1.sel) (.map (some W1.heap.size))) ps' t r↔Reg (put l (VF x.1.sel) (.map (some W1.heap.size))) (λk=>if k=W1.heap.size then [] else ps k) t r\/t=VF x.1.sel/\r=pl k)/\W2.grownBy W' (some W1.heap.size)):=⟨Pk,Tg,⟨hg'.os,hg'.tape,hg'.output,hg'.size,hg'.block⟩⟩
       clear Pk Tg hg' hrun Tl qe mC hb' hq2 hl2;go_wp2
       go_roundw
       case rel=>
        obtain⟨_,hnew,q_,_⟩:=HR.o;obtain⟨Pk,Tg,hg'⟩:=HW.o;refine⟨k+1,_,ps',Uu,VH,Pk,λs ib hs=>?_,qo HX.o HS.o q_ (λt r=>by rw[Tg t r,LT.o t r]),MD.o.then (Vt.QY hg') (λj hj e=>?_)⟩
        . rw[S9]at hs;by_cases e:s=VF x.1.sel
          . rw[ZU e]at hs;have:=PL hs;exact .inr VH
          . rw[ZX e]at hs;exact hnew s ib hs
        . subst e;simp only[World.setCell,Yz]at hj;omega
       case measure=>simp[intOf]<;>omega
  . obtain rfl:k=ws.length:=by omega
    clear hblk hw hpl hs0 hbc hbr hb m0 m1 mf;go_wp2
    go_end0
    obtain⟨RE,hnew,q_,hch⟩:=HR.o;refine⟨rfl,l,ps,RE,hnew,λs q=>?_,?_,?_⟩
    . rw[q_ s q];refine or_congr Iff.rfl ⟨?_,?_⟩
      . rintro⟨i,y,hi,h⟩;exact⟨i,y,h⟩
      . rintro⟨i,y,hy,h⟩;exact⟨i,y,(Z7.1 hy).1,hy,h⟩
    . obtain⟨_,_,hs0,_,hm⟩:=HI.o;have hmc:UL w m:=wK;refine(hch.block m anK (λe=>?_)).trans ?_
      . rcases e with e|⟨t,e⟩
        . exact UA hmc hs0.map e
        . refine abz ?_;intro e2 _;exact QO hmc e2 rfl
      . simp only[World.setCell,Zz,ZU,hm];rfl
    . exact((Vt.refl w _).setCell (VJ m 1) _ Dx).then hch (λj _ e=>.inr e)
theorem Je (w:World)(cm:Nat)(l:List (ByteArray×Value))(h:SMap w cm l)(s:ByteArray):(Instr.lookup 99 (.map (some cm)) (.string s) false).run prog w=.ok ((l.lookup s).getD (.pointer none)) w:=
 MF h.str underlying99 underlying9 (zeroValue60 w) s
structure U1 where
 fr:Option Addr
 sel:ByteArray
 hm:Option Addr
 mt:Option Addr
def U1.val (r:U1):Value:=.agg #[.pointer r.fr,.string r.sel,.pointer r.hm,.pointer r.mt]
def noRow:U1:=⟨none,⟨#[]⟩,none,none⟩
structure TabAt (w:World)(b n:Nat)(R:Nat->U1):Prop where
 Vb:UL w b
 n1:1<=n
 n64:n<=64
 sz:w.cell? (VJ b 262)=some (VI (n:Nat))
 c0:∀i,i<64->w.cell? (VJ b (6+i*4))=some (.pointer (R i).fr)
 c1:∀i,i<64->w.cell? (VJ b (6+i*4+1))=some (.string (R i).sel)
 c2:∀i,i<64->w.cell? (VJ b (6+i*4+2))=some (.pointer (R i).hm)
 c3:∀i,i<64->w.cell? (VJ b (6+i*4+3))=some (.pointer (R i).mt)
theorem TabAt.same {b n:Nat}{R:Nat->U1}(h:TabAt w b n R)(e:w'.heap[b]?=w.heap[b]?):TabAt w' b n R:=by
 have hc:∀o,w'.cell? (VJ b o)=w.cell? (VJ b o):=λo=>Z9 e;exact⟨h.Vb.same e,h.n1,h.n64,(hc _).trans h.sz,λi hi=>(hc _).trans (h.c0 i hi),λi hi=>(hc _).trans (h.c1 i hi),λi hi=>(hc _).trans (h.c2 i hi),λi hi=>(hc _).trans (h.c3 i hi)⟩
theorem abZ:(prog.info? 64).map (·.size)=some 4:=VE
theorem aav (b n:Nat)(w:World)(h:n<=64):(Instr.sliceAt 65 (.pointer (some (VJ b 6))) none (some (VI (n:Nat))) none).run prog w=.ok (.slice (some (VJ b 6)) n 64) w:=by
 have hs:=abZ
 cases hi:prog.info? 64 with
 | none=>rw[hi]at hs;cases hs
 | some i=>
  rw[hi]at hs;simp at hs;have h1:¬((n:Int)<0):=VH;have h2:¬((64:Int)<(n:Int)):=VH;simp[Instr.sliceAt,Instr.sureAddr,Instr.sliceBounds,Instr.sliceBound,Zu underlying65,Go.sizeOf,typeInfo,hi,hs,h1,h2,Addr.add,h,asIntOf]
theorem LK (b n:Nat)(R:Nat->U1)(w:World)(h:TabAt w b n R):
 Calls prog 70 #[.pointer (some (VJ b 6))] w λe w'=>e=.returned (.slice (some (VJ b 6)) n 64)/\w'=w.drew:=by
 have hs:=h.sz;have hsl:=aav b n w.drew h.n64;clear h;go_enter func70,ntmps70;go_wp2
 go_region
 go_wp2
 go_ret
 exact KP
theorem TabAt.empty {b n:Nat}{R:Nat->U1}(h:TabAt w b n R){i:Nat}(hi:i<64):
 TabAt ((((w.setCell (VJ b (6+i*4)) (.pointer none)).setCell (VJ b (6+i*4+1)) (.string ⟨#[]⟩)).setCell (VJ b (6+i*4+2)) (.pointer none)).setCell (VJ b (6+i*4+3)) (.pointer none)) b n (λj=>if j=i then noRow else R j):=by
 refine aiX ?_;intro ho;refine⟨(((h.Vb.setCell _ _).setCell _ _).setCell _ _).setCell _ _,h.n1,h.n64,?_,λj hj=>?_,λj hj=>?_,λj hj=>?_,λj hj=>?_⟩
 . rw[ho _ _ _ _ VH,ho _ _ _ _ VH,ho _ _ _ _ VH,ho _ _ _ _ VH];exact h.sz
 . by_cases e:j=i
   . subst e;rw[ho _ _ _ _ VH,ho _ _ _ _ VH,ho _ _ _ _ VH,Vr (h.c0 j hj)];simp[noRow]
   . rw[ho _ _ _ _ VH,ho _ _ _ _ VH,ho _ _ _ _ VH,ho _ _ _ _ VH,h.c0 j hj];simp[e]
 . by_cases e:j=i
   . subst e;rw[ho _ _ _ _ VH,ho _ _ _ _ VH,Vr anL];simp[noRow]
   . rw[ho _ _ _ _ VH,ho _ _ _ _ VH,ho _ _ _ _ VH,ho _ _ _ _ VH,h.c1 j hj];simp[e]
 . by_cases e:j=i
   . subst e;rw[ho _ _ _ _ VH,Vr amj];simp[noRow]
   . rw[ho _ _ _ _ VH,ho _ _ _ _ VH,ho _ _ _ _ VH,ho _ _ _ _ VH,h.c2 j hj];simp[e]
 . by_cases e:j=i
   . subst e;rw[Vr aoM];simp[noRow]
   . rw[ho _ _ _ _ VH,ho _ _ _ _ VH,ho _ _ _ _ VH,ho _ _ _ _ VH,h.c3 j hj];simp[e]
structure Ih (f:Nat)(cap:Array Value)(φ:U1->Bool)(I:World->Prop)(Q:U1->Prop):Prop where
 ent:∀args W,(callFunc f args).run prog W=.ok (.enter f args) W
 says:∀W r,I W->Q r->Calls prog f (#[r.val]++cap) W λe W'=>e=.returned (.bool (φ r))/\Below W.heap.size W W'
structure UK (w w':World)(b:Nat):Prop where
 cell:∀o,o<6->w'.cell? (VJ b o)=w.cell? (VJ b o)
 typ:∀t,(∃cs,w.heap[b]?=some (.cells cs t (0,0)))->∃cs,w'.heap[b]?=some (.cells cs t (0,0))
theorem UK.of_block {b:Nat}(e:w'.heap[b]?=w.heap[b]?):UK w w' b:=⟨λo _=>Z9 e,λt ⟨cs,h⟩=>⟨cs,e.trans h⟩⟩
variable {w1 w2 : World}
theorem UK.trans {b:Nat}(h:UK w w1 b)(h':UK w1 w2 b):UK w w2 b:=⟨λo ho=>(h'.cell o ho).trans (h.cell o ho),λt ht=>h'.typ t (h.typ t ht)⟩
theorem UK.set {b o:Nat}(h:UK w w1 b)(ho:6<=o)(v:Value):UK w (w1.setCell (VJ b o) v) b:=h.trans ⟨λo' ho'=>VD PO,λt ⟨cs,hc⟩=>⟨_,by simp only[World.setCell,Zz,ZU,hc];rfl⟩⟩
theorem GX (b n f:Nat)(cap:Array Value)(φ:U1->Bool)(I:World->Prop)(Q:U1->Prop)(R:Nat->U1)(w:World)(hf:Ih f cap φ I Q)(hQ:∀i,i<n->Q (R i))(hI:∀W,Vt w W (λk=>k=b)->I W)(h:TabAt w b n R):
 Calls prog 71 #[.pointer (some (VJ b 6)),.func (.func f) #[] cap] w λe w'=>e=.returned (.tuple #[])/\
  TabAt w' b n (λi=>if i<n/\φ (R i)=true then noRow else R i)/\Vt w w' (λk=>k=b)/\UK w w' b:=by
 have HT:Hid _:=h;have h1:=h.n1;have h1:=h.n64;clear h;go_enter func71,ntmps71;go_wp2_with fail;refine(LK b n R w HT.o).mono ?_;rintro e w1 ⟨rfl,rfl⟩;go_wp2
 go_loopw [11] (λi wr=>∃k:Nat,i=VI k/\k<=n/\TabAt wr b n (λi=>if i<k/\φ (R i)=true then noRow else R i)/\Vt w wr (λk=>k=b)/\UK w wr b) (λi _=>n-(intOf i).toNat)
 case atStart=>exact⟨0,rfl,VH,by have:=HT.o.same (w':=w.drew) rfl;simpa using this,(Vt.refl w _).drew,.of_block rfl⟩
 case round=>
  obtain⟨k,rfl,hk,ht,hch,fj⟩:=hrel
  have HR:Hid (TabAt wr b n (λi=>if i<k/\φ (R i)=true then noRow else R i)/\Vt w wr (λk=>k=b)/\UK w wr b):=⟨ht,hch,fj⟩
  by_cases hkn:k<n
  . have c0:=ht.c0 k VH;have c1:=ht.c1 k VH;have c2:=ht.c2 k VH;have c3:=ht.c3 k VH;rw[ZX VH]at c0 c1 c2 c3;have hbl:=ht.Vb.lt;have hent:=hf.ent;clear ht hch fj;go_wp2_with fail;refine(hf.says _ (R k) (hI _ (HR.o.2.1.alloc _)) (hQ k hkn)).mono ?_;rintro e w1 ⟨rfl,hb2⟩;have hw2:=(hb2.block b Vo).trans (ZV wr _ b hbl);have hc2:=(HR.o.2.1.alloc _).trans (Vt.of_below hb2 _);have ht2:=HR.o.1.same hw2
    have LT:Hid (TabAt w1 b n (λi=>if i<k/\φ (R i)=true then noRow else R i)/\Vt w w1 (λk=>k=b)/\UK w w1 b):=⟨ht2,hc2,HR.o.2.2.trans (.of_block hw2)⟩
    clear hb2 hw2 hc2 c0 c1 c2 c3 hbl hent
    cases hφ:φ (R k) with
    | false=>
     have HP:Hid _:=hφ;clear ht2 hφ;go_wp2
     go_roundw
     case rel=>
      refine⟨k+1,Uu,VH,?_,LT.o.2⟩
      have e:(λi=>if i<k+1/\φ (R i)=true then noRow else R i)=(λi=>if i<k/\φ (R i)=true then noRow else R i):=by
       funext i;by_cases hi:i=k
       . subst hi;simp[HP.o]
       . have:(i<k+1)↔(i<k):=by omega
         simp[this]
      rw[e];exact LT.o.1
     case measure=>simp[intOf]<;>omega
    | true=>
     have HP:Hid _:=hφ;have c0:=ht2.c0 k VH;have c1:=ht2.c1 k VH;have c2:=ht2.c2 k VH;have c3:=ht2.c3 k VH;have pB:=λo=>ht2.Vb.free o;clear ht2 hφ;go_wp2
     go_roundw
     case rel=>
      refine⟨k+1,Uu,VH,?_,(((LT.o.2.1.setCell _ _ (λ_=>rfl)).setCell _ _ (λ_=>rfl)).setCell _ _ (λ_=>rfl)).setCell _ _ (λ_=>rfl),(((LT.o.2.2.set VH _).set VH _).set VH _).set VH _⟩
      have e:(λi=>if i<k+1/\φ (R i)=true then noRow else R i)=(λj=>if j=k then noRow else (λi=>if i<k/\φ (R i)=true then noRow else R i) j):=by
       funext i;by_cases hi:i=k
       . subst hi;simp[HP.o]
       . have:(i<k+1)↔(i<k):=by omega
         simp[this,hi]
      rw[e];exact LT.o.1.empty VH
     case measure=>simp[intOf]<;>omega
  . obtain rfl:k=n:=by omega
    clear ht hch fj;go_wp2
    go_end0
    exact⟨rfl,HR.o.1,HR.o.2.1,HR.o.2.2⟩
theorem Nc:∀k,(KQ k).length=k*4
 | 0=>rfl
 | k+1=>by simp[KQ,Nc k];omega
theorem Cj:∀(k i j:Nat),i<k->j<4->(KQ k)[i*4+j]?=([.pointer none,.string ⟨#[]⟩,.pointer none,.pointer none]:List Value)[j]?
 | 0,i,j,h,_=>VH
 | k+1,0,j,_,hj=>by
  match j,hj with
  | 0,_=>rfl
  | 1,_=>rfl
  | 2,_=>rfl
  | 3,_=>rfl
 | k+1,i+1,j,h,hj=>by
  have ih:=Cj k i j VH hj;rw[show (i+1)*4+j=i*4+j+4 from VH];exact ih
theorem ad9 (mb sb:Nat)(p n:Int)(o:Nat):(Q8 mb sb p n)[6+o]?=(KQ 64++[Value.int .i64 n])[o]?:=by
 rw[Nat.add_comm];unfold Q8;simp only[YF];rfl
theorem agp {b mb sb:Nat}{p:Int}{n:Nat}(h:w.heap[b]?=some (.cells (Q8 mb sb p (n:Nat)) 70))(h1:1<=n)(h2:n<=64):TabAt w b n (λ_=>noRow):=by
 have hc:∀o,w.cell? (VJ b (6+o))=(KQ 64++[Value.int .i64 (n:Nat)])[o]?:=λo=>by
  simp only[World.cell?,h];exact ad9 _ _ _ _ _
 have hr:∀i j,i<64->j<4->w.cell? (VJ b (6+(i*4+j)))=([.pointer none,.string ⟨#[]⟩,.pointer none,.pointer none]:List Value)[j]?:=λi j hi hj=>by
  rw[hc,ZH (by rw[Nc];omega),Cj 64 i j hi hj]
 refine⟨⟨_,_,h⟩,h1,h2,?_,λi hi=>hr i 0 hi VH,λi hi=>hr i 1 hi VH,λi hi=>hr i 2 hi VH,λi hi=>hr i 3 hi VH⟩;have:=hc 256;rw[ZP (by rw[Nc];omega),Nc]at this;exact this
theorem aam {b mb sb:Nat}{p n:Int}(h:w.heap[b]?=some (.cells (Q8 mb sb p n) 70)):
 w.cell? (VJ b 0)=some (.map (some mb))/\w.cell? (VJ b 1)=some (.slice none 0 0)/\w.cell? (VJ b 2)=some (VI 0)/\w.cell? (VJ b 3)=some (VI 0)/\w.cell? (VJ b 4)=some (VI p)/\w.cell? (VJ b 5)=some (.map (some sb)):=by
 refine⟨?_,?_,?_,?_,?_,?_⟩<;>(simp only[World.cell?,h];rfl)
theorem afw {sb:Nat}(h:w.heap[sb]?=some (.map #[] 0)):Ux w sb [] (λ_=>[]):=
 ⟨OL h,λs v hv=>by simp[List.lookup]at hv,λs t ib hs=>by simp[List.lookup]at hs,λs ib p hs=>by simp[List.lookup]at hs⟩
def Vq (c:Option Nat):Option Addr:=c.map (λb=>(VJ b 0))
def uT (w:World)(r:U1):Prop:=∃c,r.fr=Vq c/\∀b,c=some b->UL w b
theorem BF:(prog.info? 101).map (·.size)=some 5:=VE
theorem BI (w:World)(c:Option Nat)(d:Nat)(hc:∀b,c=some b->UL w b)(hd:UL w d):
 (Op.equalIn 9999 57 (.pointer (Vq c)) (VG d)).run prog w=.ok (decide (c=some d)) w:=by
 have hs:=BF
 cases hi:prog.info? 101 with
 | none=>rw[hi]at hs;cases hs
 | some i=>
  rw[hi]at hs;simp at hs
  cases c with
  | none=>
   have h0:∀n:Nat,(Op.equalIn (n+1) 57 (.pointer none) (VG d)).run prog w=.ok false w:=λn=>by simp[Op.equalIn,Zu underlying57]
   rw[show Vq none=none from rfl,h0 9998];simp
  | some b=>
   have hsa:=Hl (P:=prog) (hc b rfl) hd
   have h0:∀n:Nat,(Op.equalIn (n+1) 57 (VG b) (VG d)).run prog w=.ok (decide (b=d)) w:=λn=>by
    simp[Op.equalIn,Zu underlying57,Go.sizeOf,typeInfo,hi,hs,hsa]
   rw[show Vq (some b)=some (VJ b 0) from rfl,h0 9998];simp
def hits (c:Option Nat)(d:Nat)(t s:ByteArray):Bool:=decide (c=some d)&&decide (t=s)
theorem Cc (w:World)(c:Option Nat)(d:Nat)(t s:ByteArray)(hc:∀b,c=some b->UL w b)(hd:UL w d):
 ((Op.equalIn 9999 57 (.pointer (Vq c)) (VG d)).run prog w=.ok false w/\hits c d t s=false)\/
 ((Op.equalIn 9999 57 (.pointer (Vq c)) (VG d)).run prog w=.ok true w/\¬t.toList=s.toList/\hits c d t s=false)\/
 ((Op.equalIn 9999 57 (.pointer (Vq c)) (VG d)).run prog w=.ok true w/\t.toList=s.toList/\hits c d t s=true):=by
 have h:=BI w c d hc hd;by_cases e1:c=some d
 . rw[show decide (c=some d)=true from by simp[e1]]at h;by_cases e2:t=s
   . exact .inr (.inr ⟨h,by rw[e2],by simp[hits,e1,e2]⟩)
   . exact .inr (.inl ⟨h,λe=>by have:=IJ e2;rw[ZF]at this;exact this e,by simp[hits,e1,e2]⟩)
 . rw[show decide (c=some d)=false from by simp[e1]]at h;exact .inl ⟨h,by simp[hits,e1]⟩
inductive Mm where
 | no
 | one (r:U1)
 | many (q cap:Nat) (rs:List U1)
 | only
def U1.cells (r:U1):List Value:=[.pointer r.fr,.string r.sel,.pointer r.hm,.pointer r.mt]
def OH (rs:List U1):List Value:=rs.flatMap (·.cells)
def Mm.val:Mm->Value
 | .no=>.iface 194 (.agg #[])
 | .one r=>.iface 259 r.val
 | .many q cap rs=>.iface 262 (.agg #[.slice (some (VJ q 0)) rs.length cap])
 | .only=>.iface 206 (.agg #[])
def Mm.rows:Mm->List U1
 | .one r=>[r]
 | .many _ _ rs=>rs
 | _=>[]
def Mm.Ok (w:World):Mm->Prop
 | .many q cap rs=>w.ownsRow 0 64 4 (.slice (some (VJ q 0)) rs.length cap) rs.length (OH rs)
 | _=>True
theorem Qq {fn:Func}{p k:Tmp}(h:fn.results=#[.cell p 62,.tmp k]){tmps:Array Value}{z:Nat}(v0 v1 v:Value)(hp:tmps.getD p undef=(VG z))(hk:tmps.getD k undef=v)(z0:w.cell? (VJ z 0)=some v0)(z1:w.cell? (VJ z 1)=some v1):
 (results fn tmps).run prog w=.ok (.tuple #[.agg #[v0,v1],v]) w:=by
 exact alm
theorem below3 (w:World)(o1 o2 o3:Obj):Below w.heap.size w (((w.alloc o1).alloc o2).alloc o3):=(((ZR _ _).alloc UM _).alloc Vy _).alloc Vo _
theorem aaj (c s:Value)(w:World):Calls prog 184 #[.agg #[],.agg #[c,s]] w λe w'=>e=.returned (.tuple #[.agg #[.pointer none,.pointer none],.bool false])/\Below w.heap.size w w':=by
 go_enter func184,ntmps184;go_wp2;refine ZQ (Qq results184 _ _ _ rfl rfl (Ug _ _ _ _ 0 Vy) (Ug _ _ _ _ 1 Vy)) rfl ⟨rfl,below3 _ _ _ _⟩
theorem uw (c s:Value)(w:World):Calls prog 187 #[.agg #[],.agg #[c,s]] w λe w'=>e=.returned (.tuple #[.agg #[.pointer none,.pointer none],.bool false])/\Below w.heap.size w w':=by
 go_enter func187,ntmps187;go_wp2;refine ZQ (Qq results187 _ _ _ rfl rfl (Ug _ _ _ _ 0 Vy) (Ug _ _ _ _ 1 Vy)) rfl ⟨rfl,below3 _ _ _ _⟩
theorem oD (r:U1)(c:Option Nat)(d:Nat)(s:ByteArray)(w:World)(hr:r.fr=Vq c)(hc:∀b,c=some b->UL w b)(hd:UL w d):
 Calls prog 191 #[r.val,.agg #[VG d,.string s]] w λe w'=>e=.returned (.tuple #[.agg #[.pointer r.hm,.pointer r.mt],.bool (hits c d r.sel s)])/\Below w.heap.size w w':=by
 unfold U1.val;rw[hr];go_enter func191,ntmps191;go_wp2
 have hx:(((w.alloc (.cells #[.pointer (Vq c),.string r.sel,.pointer r.hm,.pointer r.mt] 259)).alloc (.cells #[VG d,.string s] 59)).alloc (.cells #[.pointer none,.pointer none] 62)).heap[w.heap.size]?=some (.cells #[.pointer (Vq c),.string r.sel,.pointer r.hm,.pointer r.mt] 259):=
  (ZV _ _ _ Vo).trans ((ZV _ _ _ Vy).trans (Z4 w _).1)
 have hy:(((w.alloc (.cells #[.pointer (Vq c),.string r.sel,.pointer r.hm,.pointer r.mt] 259)).alloc (.cells #[VG d,.string s] 59)).alloc (.cells #[.pointer none,.pointer none] 62)).heap[w.heap.size+1]?=some (.cells #[VG d,.string s] 59):=by
  have:=(Z4 (w.alloc (.cells #[.pointer (Vq c),.string r.sel,.pointer r.hm,.pointer r.mt] 259)) (.cells #[VG d,.string s] 59)).1;exact aem
 have hz:(((w.alloc (.cells #[.pointer (Vq c),.string r.sel,.pointer r.hm,.pointer r.mt] 259)).alloc (.cells #[VG d,.string s] 59)).alloc (.cells #[.pointer none,.pointer none] 62)).heap[w.heap.size+1+1]?=some (.cells #[.pointer none,.pointer none] 62):=by
  have:=(Z4 ((w.alloc (.cells #[.pointer (Vq c),.string r.sel,.pointer r.hm,.pointer r.mt] 259)).alloc (.cells #[VG d,.string s] 59)) (.cells #[.pointer none,.pointer none] 62)).1;exact gu
 have hb:=below3 w (.cells #[.pointer (Vq c),.string r.sel,.pointer r.hm,.pointer r.mt] 259) (.cells #[VG d,.string s] 59) (.cells #[.pointer none,.pointer none] 62);revert hx hy hz hb;generalize ((w.alloc (.cells #[.pointer (Vq c),.string r.sel,.pointer r.hm,.pointer r.mt] 259)).alloc (.cells #[VG d,.string s] 59)).alloc (.cells #[.pointer none,.pointer none] 62)=W0;intro hx hy hz hb;have hc0:∀b,c=some b->UL W0.drew b:=λb hb'=>(hc b hb').same (hb.block b (hc b hb').lt);have hd0:UL W0.drew d:=hd.same (hb.block d hd.lt);have heq:=Cc W0.drew c d r.sel s hc0 hd0;have Hb:=BI W0.drew c d hc0 hd0;have ky:=BI ((W0.setCell (VJ (w.heap.size+1+1) 0) (.pointer r.hm)).setCell (VJ (w.heap.size+1+1) 1) (.pointer r.mt)).drew c d (λb hb'=>(((hc0 b hb').setCell _ _).setCell _ _).same rfl) ((hd0.setCell _ _).setCell _ _ |>.same rfl);have x0:W0.cell? (VJ w.heap.size 0)=some (.pointer (Vq c)):=by simp only[World.cell?,hx];rfl
 have x0:W0.cell? (VJ w.heap.size 1)=some (.string r.sel):=by simp only[World.cell?,hx];rfl
 have x0:W0.cell? (VJ w.heap.size 2)=some (.pointer r.hm):=by simp only[World.cell?,hx];rfl
 have x0:W0.cell? (VJ w.heap.size 3)=some (.pointer r.mt):=by simp only[World.cell?,hx];rfl
 have y0:W0.cell? (VJ (w.heap.size+1) 0)=some (VG d):=by simp only[World.cell?,hy];rfl
 have y0:W0.cell? (VJ (w.heap.size+1) 1)=some (.string s):=by simp only[World.cell?,hy];rfl
 have z0:W0.cell? (VJ (w.heap.size+1+1) 0)=some (.pointer none):=by simp only[World.cell?,hz];rfl
 have z1:W0.cell? (VJ (w.heap.size+1+1) 1)=some (.pointer none):=by simp only[World.cell?,hz];rfl
 have zf:∀o,W0.frozen? (VJ (w.heap.size+1+1) o)=false:=λo=>UL.free ⟨_,_,hz⟩ o;clear hx hy hz hc hd;have HB:Hid _:=hb;clear hb;have t0:((W0.setCell (VJ (w.heap.size+1+1) 0) (.pointer r.hm)).setCell (VJ (w.heap.size+1+1) 1) (.pointer r.mt)).cell? (VJ (w.heap.size+1+1) 0)=some (.pointer r.hm):=(VD PO).trans (Vr z0);have t1:((W0.setCell (VJ (w.heap.size+1+1) 0) (.pointer r.hm)).setCell (VJ (w.heap.size+1+1) 1) (.pointer r.mt)).cell? (VJ (w.heap.size+1+1) 1)=some (.pointer r.mt):=Vr alb;clear hc0 hd0;rcases heq with⟨h1,h2⟩|⟨h1,h3,h2⟩|⟨h1,h3,h2⟩
 all_goals
  rw[h1]at Hb;injection Hb with Hb;rw[<- Hb]at ky;clear Hb
  go_region
  all_goals
   go_wp2;refine ZQ (Qq (z:=w.heap.size+1+1) results191 (.pointer r.hm) (.pointer r.mt) _ rfl rfl ?_ ?_) rfl ⟨?_,?_⟩
   . exact t0
   . exact t1
   . first|rfl|(rw[h2];rfl)
   . exact(HB.o.drew.setCell afc _).setCell (by show w.heap.size<=w.heap.size+1+1;omega) _
theorem below2 (w:World)(o1 o2:Obj):Below w.heap.size w ((w.alloc o1).alloc o2):=((ZR _ _).alloc UM _).alloc Vy _
theorem pF (r:U1)(n:Int)(w:World):Calls prog 186 #[.agg #[],r.val,VI n] w λe w'=>e=.returned Mm.only.val/\Below w.heap.size w w':=by
 unfold U1.val;go_enter func186,ntmps186;go_wp2
 go_ret
 exact⟨rfl,below2 _ _ _⟩
theorem abo (r:U1)(n:Int)(w:World):Calls prog 183 #[.agg #[],r.val,VI n] w λe w'=>e=.returned (if n=0 then Mm.only else Mm.one r).val/\Below w.heap.size w w':=by
 unfold U1.val;by_cases h:n=0
 . subst h;go_enter func183,ntmps183;go_wp2
   go_ret
   exact⟨rfl,below2 _ _ _⟩
 . have hn:(n==0)=false:=by simpa using h
   have HN:Hid _:=h;clear h;go_enter func183,ntmps183;go_wp2
   go_ret
   exact⟨by first|rfl|(rw[ZX HN.o];rfl),below2 _ _ _⟩
theorem CY (o r:U1)(w:World):Calls prog 190 #[o.val,r.val,VI 1] w λe w'=>e=.returned Mm.only.val/\Below w.heap.size w w':=by
 unfold U1.val;go_enter func190,ntmps190;go_wp2
 go_ret
 exact⟨rfl,below2 _ _ _⟩
theorem DW (o r:U1)(n:Int)(w:World)(h:n≠1):Calls prog 190 #[o.val,r.val,VI n] w λe w'=>∃q,e=.returned (Mm.many q 2 [o,r]).val/\Below w.heap.size w w'/\w.heap.size<=q/\(Mm.many q 2 [o,r]).Ok w':=by
 unfold U1.val;have hn:(n==1)=false:=Nv;clear h;go_enter func190,ntmps190;go_wp2
 go_ret
 have hz:=(Z4 ((w.alloc (.cells #[.pointer o.fr,.string o.sel,.pointer o.hm,.pointer o.mt] 259)).alloc (.cells #[.pointer r.fr,.string r.sel,.pointer r.hm,.pointer r.mt] 64)) (.cells #[.pointer o.fr,.string o.sel,.pointer o.hm,.pointer o.mt,.pointer r.fr,.string r.sel,.pointer r.hm,.pointer r.mt] 64)).1;rw[ZJ,ZJ]at hz;exact⟨w.heap.size+1+1,rfl,below3 _ _ _ _,VH,rfl,.inr ⟨_,2,_,rfl,Yy _,hz,Vy,SE,rfl,rfl⟩⟩
theorem Oq (v:Value)(w:World):Calls prog 185 #[.agg #[],v] w λe w'=>e=.returned Mm.only.val/\Below w.heap.size w w':=by
 go_enter func185,ntmps185;go_wp2
 go_ret
 exact zt6
theorem aH (v:Value)(w:World):Calls prog 182 #[.agg #[],v] w λe w'=>e=.returned Mm.no.val/\Below w.heap.size w w':=by
 go_enter func182,ntmps182;go_wp2
 go_ret
 exact zt6
theorem oQ (o:U1)(f:Nat)(cp:Array Value)(φ:U1->Bool)(I:World->Prop)(Q:U1->Prop)(w:World)(hf:Ih f cp φ I Q)(hQ:Q o)(hI:∀W,Vt w W (λ_=>False)->I W):
 Calls prog 189 #[o.val,.func (.func f) #[] cp] w λe w'=>e=.returned (if φ o=true then Mm.no else Mm.one o).val/\Below w.heap.size w w':=by
 obtain⟨v,hv⟩:∃v,(if φ o=true then Mm.no else Mm.one o).val=v:=Vx;rw[hv];have HV:Hid _:=hv;clear hv;have hent:=hf.ent;have n_:=hf.says (w.alloc (.cells #[.pointer o.fr,.string o.sel,.pointer o.hm,.pointer o.mt] 259)) o (hI _ ((Vt.refl w _).alloc _)) hQ;unfold U1.val at n_ ⊢;go_enter func189,ntmps189;go_wp2_with fail;refine n_.mono ?_;rintro e w1 ⟨rfl,hb1⟩;have hx:=(hb1.block _ Vy).trans (Z4 w _).1;have HB:=UQ (((ZR _ w).alloc UM _).trans amZ);have x0:w1.cell? (VJ w.heap.size 0)=some (.pointer o.fr):=by simp only[World.cell?,hx];rfl
 have x0:w1.cell? (VJ w.heap.size 1)=some (.string o.sel):=by simp only[World.cell?,hx];rfl
 have x0:w1.cell? (VJ w.heap.size 2)=some (.pointer o.hm):=by simp only[World.cell?,hx];rfl
 have x0:w1.cell? (VJ w.heap.size 3)=some (.pointer o.mt):=by simp only[World.cell?,hx];rfl
 clear hx hb1 hent n_
 cases hp:φ o with
 | true=>
  go_wp2
  go_ret
  exact⟨by rw[<- HV.o,hp];rfl,HB.o⟩
 | false=>
  go_wp2
  go_ret
  exact⟨by rw[<- HV.o,hp];rfl,HB.o⟩
theorem DK (rs:List U1):(OH rs).length=rs.length*4:=by
 induction rs with
 | nil=>rfl
 | cons r rs ih=>simp[OH,U1.cells]at ih ⊢;omega
theorem Jj:∀(rs:List U1) (i:Nat) (r:U1) (j:Nat),rs[i]?=some r->j<4->(OH rs)[i*4+j]?=r.cells[j]?
 | [],i,r,j,h,_=>vF
 | y::l,0,r,j,h,hj=>by
  simp at h;subst h;rw[Yu,YU];show (y.cells++OH l)[j]?=_;exact ZH (by simpa[U1.cells]using hj)
 | y::l,i+1,r,j,h,hj=>by
  have ih:=Jj l i r j Nv hj;show (y.cells++OH l)[(i+1)*4+j]?=_;rw[ZP (by simp[U1.cells];omega)];rw[show (i+1)*4+j-y.cells.length=i*4+j from by simp[U1.cells];omega];exact ih
structure Di (w:World)(q:Nat)(rs:List U1):Prop where
 Vb:UL w q
 c0:∀i r,rs[i]?=some r->w.cell? (VJ q (i*4))=some (.pointer r.fr)
 c1:∀i r,rs[i]?=some r->w.cell? (VJ q (i*4+1))=some (.string r.sel)
 c2:∀i r,rs[i]?=some r->w.cell? (VJ q (i*4+2))=some (.pointer r.hm)
 c3:∀i r,rs[i]?=some r->w.cell? (VJ q (i*4+3))=some (.pointer r.mt)
theorem Mm.Ok.rows {q cap:Nat}{rs:List U1}(h:(Mm.many q cap rs).Ok w):Di w q rs:=by
 have hc:=λk v=>World.ownsRow.cells h (g:=q) rfl k v
 have key:∀i r j v,rs[i]?=some r->j<4->r.cells[j]?=some v->w.cell? (VJ q (i*4+j))=some v:=by
  intro i r j v hr hj hv;have:=hc (i*4+j) v (by rw[Jj rs i r j hr hj];exact hv);have hadd:(VJ q 0).add (i*4+j)=(VJ q (i*4+j)):=qP;rw[hadd]at this;exact this
 refine⟨?_,λi r hr=>key i r 0 _ hr VH rfl,λi r hr=>key i r 1 _ hr VH rfl,λi r hr=>key i r 2 _ hr VH rfl,λi r hr=>key i r 3 _ hr VH rfl⟩;rcases h.2 with⟨h2,_⟩|⟨g,cap',cur,h2,hb,hg,_⟩
 . cases h2
 . injection h2 with h2 _ _;injection h2 with h2;injection h2 with h2 _ _;subst h2;exact⟨_,_,hg⟩
theorem Di.same {q:Nat}{rs:List U1}(h:Di w q rs)(e:w'.heap[q]?=w.heap[q]?):Di w' q rs:=by
 have hc:∀o,w'.cell? (VJ q o)=w.cell? (VJ q o):=λo=>Z9 e;exact⟨h.Vb.same e,λi r hr=>(hc _).trans (h.c0 i r hr),λi r hr=>(hc _).trans (h.c1 i r hr),λi r hr=>(hc _).trans (h.c2 i r hr),λi r hr=>(hc _).trans (h.c3 i r hr)⟩
theorem Mm.Ok.same {q cap:Nat}{rs:List U1}(h:(Mm.many q cap rs).Ok w)(e:w'.heap[q]?=w.heap[q]?):(Mm.many q cap rs).Ok w':=by
 refine⟨h.1,?_⟩;rcases h.2 with⟨h2,h3⟩|⟨g,cap',cur,h2,hb,hg,h4⟩
 . exact .inl ⟨h2,h3⟩
 . refine .inr ⟨g,cap',cur,h2,hb,?_,h4⟩;injection h2 with h2 _ _;injection h2 with h2;injection h2 with h2 _ _;subst h2;exact e.trans hg
theorem sU (q cap d:Nat)(rs:List U1)(s:ByteArray)(w:World)(hn:rs.length<=6)(hok:(Mm.many q cap rs).Ok w)(hr:∀r∈rs,uT w r)(hd:UL w d):
 Calls prog 194 #[.agg #[.slice (some (VJ q 0)) rs.length cap],.agg #[VG d,.string s]] w λe w'=>∃h m k,e=.returned (.tuple #[.agg #[.pointer h,.pointer m],.bool k])/\
  (k=true->∃r∈rs,r.fr=some (VJ d 0)/\r.sel=s/\h=r.hm/\m=r.mt)/\Below w.heap.size w w':=by
 have HR:Hid (Di w q rs/\(∀r∈rs,uT w r)/\UL w d):=⟨hok.rows,hr,hd⟩
 have FF:=hok.rows.Vb.lt;clear hok hr hd;go_enter func194,ntmps194;go_wp2
 go_loopw [11] (λi wr=>∃k:Nat,i=VI k/\k<=rs.length/\wr.heap[w.heap.size+1]?=some (.cells #[VG d,.string s] 59)/\wr.heap[w.heap.size+1+1]?=some (.cells #[.pointer none,.pointer none] 62)/\Below w.heap.size w wr) (λi _=>rs.length-(intOf i).toNat)
 case atStart=>
  refine⟨0,rfl,VH,?_,?_,below3 _ _ _ _⟩
  . have:=(Z4 (w.alloc (.cells #[.slice (some (VJ q 0)) rs.length cap] 262)) (.cells #[VG d,.string s] 59)).1;exact aem
  . have:=(Z4 ((w.alloc (.cells #[.slice (some (VJ q 0)) rs.length cap] 262)).alloc (.cells #[VG d,.string s] 59)) (.cells #[.pointer none,.pointer none] 62)).1;exact gu
 case round=>
  obtain⟨k,rfl,hk,hy,hz,hb⟩:=hrel
  have HY:Hid (wr.heap[w.heap.size+1]?=some (.cells #[VG d,.string s] 59)/\wr.heap[w.heap.size+1+1]?=some (.cells #[.pointer none,.pointer none] 62)/\Below w.heap.size w wr):=⟨hy,hz,hb⟩
  have hzl:=(Z5.1 hz).1;have Fs:w.heap.size+1<wr.heap.size:=VH;have y0:wr.cell? (VJ (w.heap.size+1) 0)=some (VG d):=by simp only[World.cell?,hy];rfl
  have y0:wr.cell? (VJ (w.heap.size+1) 1)=some (.string s):=by simp only[World.cell?,hy];rfl
  have z0:wr.cell? (VJ (w.heap.size+1+1) 0)=some (.pointer none):=by simp only[World.cell?,hz];rfl
  have z1:wr.cell? (VJ (w.heap.size+1+1) 1)=some (.pointer none):=by simp only[World.cell?,hz];rfl
  have zf:∀o,wr.frozen? (VJ (w.heap.size+1+1) o)=false:=λo=>UL.free ⟨_,_,hz⟩ o;by_cases hkn:k<rs.length
  . obtain⟨r,Pc⟩:∃r,rs[k]?=some r:=⟨_,Z8 hkn⟩
    have Cg:=ZK Pc;obtain⟨hrows,hin,hd⟩:=HR.o;have Pe:=hrows.same (hb.block q FF);obtain⟨c,hrc,hcc⟩:=hin r Cg;have c0:=Pe.c0 k r Pc;have c1:=Pe.c1 k r Pc;have c1:=Pe.c2 k r Pc;have c1:=Pe.c3 k r Pc;rw[hrc]at c0
    have HM:Hid (r∈rs/\r.fr=Vq c):=⟨Cg,hrc⟩
    have OP:∀b,c=some b->UL (wr.alloc (.cells #[.pointer (Vq c),.string r.sel,.pointer r.hm,.pointer r.mt] 64)) b:=λb h=>((hcc b h).same (hb.block b (hcc b h).lt)).alloc _;have heq:=Cc _ c d r.sel s OP ((hd.same (hb.block d hd.lt)).alloc (.cells #[.pointer (Vq c),.string r.sel,.pointer r.hm,.pointer r.mt] 64));clear hrows hin hd Pe hcc hy hz hb Cg hrc OP Pc;rcases heq with⟨h1,h1⟩|⟨h1,h3,h1⟩|⟨h1,h3,h1⟩
    . clear h1;go_wp2
      go_roundw
      case rel=>exact⟨k+1,Uu,VH,(ZV _ _ _ VH).trans HY.o.1,(ZV _ _ _ hzl).trans HY.o.2.1,HY.o.2.2.alloc HY.o.2.2.size _⟩
      case measure=>simp[intOf]<;>omega
    . clear h1;go_wp2
      go_roundw
      case rel=>exact⟨k+1,Uu,VH,(ZV _ _ _ VH).trans HY.o.1,(ZV _ _ _ hzl).trans HY.o.2.1,HY.o.2.2.alloc HY.o.2.2.size _⟩
      case measure=>simp[intOf]<;>omega
    . have HH:=UQ h1;clear h1;have t0:∀o,(((wr.setCell (VJ (w.heap.size+1+1) 0) (.pointer r.hm)).setCell (VJ (w.heap.size+1+1) 1) (.pointer r.mt)).alloc o).cell? (VJ (w.heap.size+1+1) 0)=some (.pointer r.hm):=λo=>(Z9 (a:=(VJ (w.heap.size+1+1) 0)) (ZV _ o _ xM)).trans ((VD PO).trans (Vr z0));have t1:∀o,(((wr.setCell (VJ (w.heap.size+1+1) 0) (.pointer r.hm)).setCell (VJ (w.heap.size+1+1) 1) (.pointer r.mt)).alloc o).cell? (VJ (w.heap.size+1+1) 1)=some (.pointer r.mt):=λo=>(Z9 (a:=(VJ (w.heap.size+1+1) 1)) (ZV _ o _ xM)).trans (Vr alb);have HT0:Hid _:=t0;have Bb:Hid _:=t1;clear t0 t1;go_wp2;refine ZQ (Qq (z:=w.heap.size+1+1) results194 (.pointer r.hm) (.pointer r.mt) _ rfl rfl ?_ ?_) rfl ⟨r.hm,r.mt,true,rfl,λ_=>?_,?_⟩
      . exact HT0.o _
      . exact Bb.o _
      . have hh:=HH.o;simp only[hits,ZB,Zq]at hh;refine⟨r,HM.o.1,by rw[HM.o.2,hh.1];rfl,hh.2,rfl,rfl⟩
      . exact(((HY.o.2.2.setCell (p:=(VJ (w.heap.size+1+1) 0)) afc _).setCell (p:=(VJ (w.heap.size+1+1) 1)) (by show w.heap.size<=w.heap.size+1+1;omega) _)).alloc (by simp[World.setCell];omega) _
  . obtain rfl:k=rs.length:=by omega
    clear hy hz hb;go_wp2;refine ZQ (Qq (z:=w.heap.size+1+1) results194 (.pointer none) (.pointer none) _ rfl rfl ?_ ?_) rfl ⟨none,none,false,rfl,λh=>MO,?_⟩
    . exact(VD PO).trans (Vr z0)
    . exact Vr alb
    . exact(HY.o.2.2.setCell afc _).setCell (by show w.heap.size<=w.heap.size+1+1;omega) _
theorem abu:(prog.info? 64).map (λi=>(i.zero,i.size,i.bytes))=some (some (.agg #[.pointer none,.string ⟨#[]⟩,.pointer none,.pointer none]),4,40):=VE
theorem nC (r:U1):∀u∈r.cells,u.oneCell'=true:=by
 intro u hu;simp only[U1.cells,ZM,Zx,YE]at hu;rcases hu with rfl|rfl|rfl|rfl<;>rfl
theorem rV (rs:List U1)(r:U1):OH (rs++[r])=OH rs++r.cells:=by simp[OH]
theorem EY (q cap:Nat)(rs:List U1)(r:U1)(w:World):Calls prog 193 #[.agg #[.slice (some (VJ q 0)) rs.length cap],r.val,VI rs.length] w λe w'=>e=.returned Mm.only.val/\Below w.heap.size w w':=by
 unfold U1.val;go_enter func193,ntmps193;go_wp2
 go_ret
 exact⟨rfl,below2 _ _ _⟩
theorem nG (q cap:Nat)(rs:List U1)(r:U1)(n:Int)(w:World)(hn:n≠rs.length)(h6:rs.length<=6)(hok:(Mm.many q cap rs).Ok w):
 Calls prog 193 #[.agg #[.slice (some (VJ q 0)) rs.length cap],r.val,VI n] w λe w'=>∃q' cap',e=.returned (Mm.many q' cap' (rs++[r])).val/\(Mm.many q' cap' (rs++[r])).Ok w'/\(q'=q\/w.heap.size<=q')/\Vt w w' (λk=>k=q):=by
 obtain⟨i0,hi,hz0,hz1,hz2⟩:=YQ abu;have hne:((rs.length:Int)==n)=false:=Vo;have N6:=UQ hok;clear hok hn;unfold U1.val;go_enter func193,ntmps193
 have hnews:∀j u,r.cells[j]?=some u->(((w.alloc (.cells #[.slice (some (VJ q 0)) rs.length cap] 262)).alloc (.cells #[.pointer r.fr,.string r.sel,.pointer r.hm,.pointer r.mt] 64)).alloc (.cells #[.pointer r.fr,.string r.sel,.pointer r.hm,.pointer r.mt] 64)).cell? ((VJ (w.heap.size+1+1) 0).add j)=some u:=by
  have:=Us ((w.alloc (.cells #[.slice (some (VJ q 0)) rs.length cap] 262)).alloc (.cells #[.pointer r.fr,.string r.sel,.pointer r.hm,.pointer r.mt] 64)) r.cells 64;exact ady
 have mN:Hid _:=hnews;clear hnews
 go_wp2_with (first
  | (at_builtin;refine wpList_append_own_at _ rfl _ _ 139 rfl 0 64 i0 (.agg #[.pointer none,.string ⟨#[]⟩,.pointer none,.pointer none]) 4 40 underlying139 hi hz0 hz1 hz2 rfl Vz _ rs.length (OH rs) rfl (((N6.o.alloc _).alloc _).alloc _) (VJ (w.heap.size+1+1) 0) 1 1 r.cells rfl rfl mN.o (nC _) SE VH nO ?_)
  | go_in)
 intro v2 W5 hown2 Mq _ hblk
 obtain⟨g,cap',hv2⟩:∃g cap',v2=.slice (some (VJ g 0)) (rs.length+1) cap':=by
  rcases hown2.2 with⟨_,h0⟩|⟨g,cap',cur,h0,_⟩
  . omega
  . exact⟨g,cap',h0⟩
 subst hv2
 have HW:Hid ((Mm.many g cap' (rs++[r])).Ok W5/\(g=q\/w.heap.size<=g)/\Vt w W5 (λk=>k=q)):=by
  have hx1:(Mm.many g cap' (rs++[r])).Ok W5/\(g=q\/w.heap.size<=g)/\Vt w W5 (λk=>k=q):=by
   refine⟨?_,?_,?_⟩
   . show W5.ownsRow 0 64 4 (.slice (some (VJ g 0)) (rs++[r]).length cap') (rs++[r]).length (OH (rs++[r]));rw[rV,Zw];exact hown2
   . rcases hblk with h|h
     . left;simpa[Value.ownBlock]using h
     . right;simp[Value.ownBlock]at h;omega
   . exact(((Vt.refl w _).alloc _).alloc _).alloc _ |>.then (Vt.QY Mq) Qi
  exact hx1
 clear hown2 Mq hblk;go_wp2
 go_ret
 exact⟨g,cap',by simp[Mm.val],HW.o.1,HW.o.2.1,HW.o.2.2⟩
structure AV (w:World)(q cap n:Nat)(R:Nat->U1):Prop where
 blk:∃cur,w.heap[q]?=some (.cells cur 64 (0,0))/\cur.size=cap*4
 le:n<=cap
 max:cap<=maxLen
 c0:∀i,i<n->w.cell? (VJ q (i*4))=some (.pointer (R i).fr)
 c1:∀i,i<n->w.cell? (VJ q (i*4+1))=some (.string (R i).sel)
 c2:∀i,i<n->w.cell? (VJ q (i*4+2))=some (.pointer (R i).hm)
 c3:∀i,i<n->w.cell? (VJ q (i*4+3))=some (.pointer (R i).mt)
theorem AV.Vb {q cap n:Nat}{R:Nat->U1}(h:AV w q cap n R):UL w q:=by obtain⟨cur,h,_⟩:=h.blk;exact⟨_,_,h⟩
theorem AV.same {q cap n:Nat}{R:Nat->U1}(h:AV w q cap n R)(e:w'.heap[q]?=w.heap[q]?):AV w' q cap n R:=by
 have hc:∀o,w'.cell? (VJ q o)=w.cell? (VJ q o):=λo=>Z9 e;obtain⟨cur,h1,h2⟩:=h.blk;exact⟨⟨cur,e.trans h1,h2⟩,h.le,h.max,λi hi=>(hc _).trans (h.c0 i hi),λi hi=>(hc _).trans (h.c1 i hi),λi hi=>(hc _).trans (h.c2 i hi),λi hi=>(hc _).trans (h.c3 i hi)⟩
theorem AV.adg {q cap:Nat}{rs:List U1}(h:(Mm.many q cap rs).Ok w):AV w q cap rs.length (λi=>rs[i]?.getD noRow):=by
 have hr:=h.rows;rcases h.2 with⟨h2,_⟩|⟨g,cap',cur,h2,hb,hg,hn,hmx,hsz,htk⟩
 . cases h2
 . injection h2 with h2 _ h4;injection h2 with h2;injection h2 with h2 _ _;subst h2 h4;refine⟨⟨cur,hg,hsz⟩,hn,hmx,λi hi=>?_,λi hi=>?_,λi hi=>?_,λi hi=>?_⟩
   all_goals
    have hx:=Z8 hi;simp only[hx,YX]
   . exact hr.c0 i _ hx
   . exact hr.c1 i _ hx
   . exact hr.c2 i _ hx
   . exact hr.c3 i _ hx
theorem AV.ok {q cap n:Nat}{R:Nat->U1}(h:AV w q cap n R){rs:List U1}(hl:rs.length<=n)(hR:∀i r,rs[i]?=some r->R i=r):(Mm.many q cap rs).Ok w:=by
 obtain⟨cur,h1,h2⟩:=h.blk;have hle:=h.le;refine⟨DK rs,.inr ⟨q,cap,cur,rfl,Yy _,h1,VH,h.max,h2,?_⟩⟩;have hcell:∀o,w.cell? (VJ q o)=cur[o]?:=λo=>by simp only[World.cell?,h1];simp
 apply XH;intro o;by_cases ho:o<rs.length*4
 . rw[Zl ho,Zf];have hi:o / 4<rs.length:=VH;have hx:=Z8 hi;have hg:=Jj rs (o / 4) _ (o % 4) hx (Nat.mod_lt _ VH);rw[show o / 4*4+o % 4=o from VH]at hg;rw[hg,<- hcell];have pj:=hR _ _ hx;have hm:o % 4=0\/o % 4=1\/o % 4=2\/o % 4=3:=VH;rcases hm with e|e|e|e
   . have:=h.c0 (o / 4) VH;rw[show o / 4*4=o from VH,pj]at this;rw[e,this];rfl
   . have:=h.c1 (o / 4) VH;rw[show o / 4*4+1=o from VH,pj]at this;rw[e,this];rfl
   . have:=h.c2 (o / 4) VH;rw[show o / 4*4+2=o from VH,pj]at this;rw[e,this];rfl
   . have:=h.c3 (o / 4) VH;rw[show o / 4*4+3=o from VH,pj]at this;rw[e,this];rfl
 . rw[Y8 Vo,Y8 (by rw[DK];omega)]
theorem AV.put {q cap n:Nat}{R:Nat->U1}(h:AV w q cap n R){i:Nat}(hi:i<n)(r:U1):
 AV ((((w.setCell (VJ q (i*4)) (.pointer r.fr)).setCell (VJ q (i*4+1)) (.string r.sel)).setCell (VJ q (i*4+2)) (.pointer r.hm)).setCell (VJ q (i*4+3)) (.pointer r.mt)) q cap n (λj=>if j=i then r else R j):=by
 have ho:∀(W:World) (v:Value) (o p:Nat),o≠p->(W.setCell (VJ q p) v).cell? (VJ q o)=W.cell? (VJ q o):=λW v o p hne=>VD abA
 have hb:∀(W:World) (p:Nat) (v:Value),(∃cur,W.heap[q]?=some (.cells cur 64 (0,0))/\cur.size=cap*4)->∃cur,(W.setCell (VJ q p) v).heap[q]?=some (.cells cur 64 (0,0))/\cur.size=cap*4:=by
  rintro W p v ⟨cur,h1,h2⟩;exact⟨cur.setIfInBounds p v,by simp only[World.setCell,Zz,ZU,h1];rfl,by simpa using h2⟩
 refine⟨hb _ _ _ (hb _ _ _ (hb _ _ _ (hb _ _ _ h.blk))),h.le,h.max,λj hj=>?_,λj hj=>?_,λj hj=>?_,λj hj=>?_⟩
 . exact anm
 . exact am4
 . exact aoi
 . exact aom
theorem kT (w:World)(q cap n i:Nat)(R:Nat->U1)(ty:TypeId)(h:AV w q cap n R)(hi:i<n):
 ∃w',(Builtin.clear_ #[139] ty #[.slice (some (VJ q (i*4))) (n-i) (cap-i)]).run prog w=.ok (.tuple #[]) w'/\AV w' q cap i R/\w.grownBy w' (some q):=by
 obtain⟨cur,h1,h2⟩:=h.blk;have hle:=h.le
 obtain⟨m,hm⟩:∃m,n-i=m+1:=⟨n-i-1,VH⟩
 have hzl:(Builtin.zeroCells #[Value.pointer none,.string ⟨#[]⟩,.pointer none,.pointer none] (n-i)).toList.length=(n-i)*4:=by simp[Builtin.zeroCells]
 have hst:=Wv (P:=prog) q (i*4) 64 (Builtin.zeroCells #[Value.pointer none,.string ⟨#[]⟩,.pointer none,.pointer none] (n-i)).toList 0 cur w h1 (by rw[hzl];omega) (by
  intro v hv;simp only[Builtin.zeroCells,Array.toList_map,Zy]at hv;obtain⟨k,_,rfl⟩:=hv;refine aiH ?_;intro hk
  rcases hk with e|e|e|e<;>rw[e]<;>rfl)
 obtain⟨zs,hzs⟩:∃zs,(Builtin.zeroCells #[Value.pointer none,.string ⟨#[]⟩,.pointer none,.pointer none] (n-i)).toList=zs:=Vx;rw[hzs]at hst hzl;rw[Yt,hzl]at hst;have hlen:(cur.toList.take (i*4)++zs++cur.toList.drop (i*4+(n-i)*4)).toArray.size=cap*4:=by simp[hzl];omega
 have hheap:=VP w q cur (cur.toList.take (i*4)++zs++cur.toList.drop (i*4+(n-i)*4)).toArray 64 (0,0) h1
 have hget:∀o,o<i*4->(cur.toList.take (i*4)++zs++cur.toList.drop (i*4+(n-i)*4)).toArray[o]?=cur[o]?:=λo ho=>by
  simp only[YF];rw[Y1,ZH Vo,Zl ho,Zf]
 have hcell:∀o,o<i*4->(w.setRow q (cur.toList.take (i*4)++zs++cur.toList.drop (i*4+(n-i)*4)).toArray).cell? (VJ q o)=w.cell? (VJ q o):=λo ho=>by
  simp only[World.cell?,hheap,h1];simpa using hget o ho
 refine⟨w.setRow q (cur.toList.take (i*4)++zs++cur.toList.drop (i*4+(n-i)*4)).toArray,?_,⟨⟨_,hheap,hlen⟩,VH,h.max,λj hj=>?_,λj hj=>?_,λj hj=>?_,λj hj=>?_⟩,⟨rfl,rfl,rfl,agL,λk _ hk=>setRow_other _ _ _ _ (λe=>hk pI)⟩⟩
 . exact amF
 . rw[hcell _ VH];exact h.c0 j VH
 . rw[hcell _ VH];exact h.c1 j VH
 . rw[hcell _ VH];exact h.c2 j VH
 . rw[hcell _ VH];exact h.c3 j VH
theorem lN (q cap n f:Nat)(cp:Array Value)(φ:U1->Bool)(I:World->Prop)(Q:U1->Prop)(R:Nat->U1)(w:World)(h:AV w q cap n R)(h6:n<=6)(hf:Ih f cp φ I Q)(hQ:∀i,i<n->Q (R i))(hI:∀W,Vt w W (λ_=>False)->I W):
 Calls prog 196 #[.slice (some (VJ q 0)) n cap,.func (.func f) #[] cp] w λe w'=>∃r:Int,e=.returned (VI r)/\Below w.heap.size w w'/\
  ((r=-1/\∀i,i<n->φ (R i)=false)\/∃k:Nat,r=k/\k<n/\φ (R k)=true/\∀i,i<k->φ (R i)=false):=by
 have HT:Hid _:=h;have FF:=h.Vb.lt;clear h;go_enter func196,ntmps196;go_wp2
 go_loopw [8] (λi wr=>∃k:Nat,i=VI k/\k<=n/\(∀i,i<k->φ (R i)=false)/\Below w.heap.size w wr) (λi _=>n-(intOf i).toNat)
 case atStart=>exact⟨0,rfl,VH,λi hi=>VH,ZR _ _⟩
 case round=>
  obtain⟨k,rfl,hk,hno,hb⟩:=hrel
  have HR:Hid ((∀i,i<k->φ (R i)=false)/\Below w.heap.size w wr):=⟨hno,hb⟩
  clear hno;by_cases hkn:k<n
  . have Pe:=HT.o.same (hb.block q FF);have c0:=Pe.c0 k hkn;have c1:=Pe.c1 k hkn;have c2:=Pe.c2 k hkn;have c3:=Pe.c3 k hkn;have hent:=hf.ent;have n_:=hf.says wr (R k) (hI _ (Vt.of_below hb _)) (hQ k hkn);unfold U1.val at n_;clear Pe hb;go_wp2_with fail;refine n_.mono ?_;rintro e w2 ⟨rfl,hb2⟩;have Uv:=UQ (HR.o.2.trans (hb2.mono HR.o.2.size));clear hb2 c0 c1 c2 c3 n_ hent
    cases hp:φ (R k) with
    | true=>
     have HP:Hid _:=hp;clear hp;go_wp2
     go_ret
     exact⟨k,rfl,Uv.o,.inr ⟨k,rfl,hkn,HP.o,HR.o.1⟩⟩
    | false=>
     have HP:Hid _:=hp;clear hp;go_wp2
     go_roundw
     case rel=>
      refine⟨k+1,Uu,VH,λi hi=>?_,Uv.o⟩;by_cases e:i=k
      . subst e;exact HP.o
      . exact HR.o.1 i VH
     case measure=>simp[intOf]<;>omega
  . obtain rfl:k=n:=by omega
    clear hb;go_wp2
    go_ret
    exact⟨-1,rfl,HR.o.2,.inl ⟨rfl,HR.o.1⟩⟩
theorem KH (p:U1->Bool)(rs:List U1)(j:Nat)(r:U1)(h:rs[j]?=some r):(rs.take (j+1)).filter p=(rs.take j).filter p++(if p r=true then [r] else []):=by
 rw[Yc,h,Yi];congr 1;by_cases e:p r=true<;>simp[e]
theorem sQ (q cap f:Nat)(cp:Array Value)(φ:U1->Bool)(I:World->Prop)(Q:U1->Prop)(rs:List U1)(w:World)(h:(Mm.many q cap rs).Ok w)(h6:rs.length<=6)(hf:Ih f cp φ I Q)(hQ:∀r∈rs,Q r)(hI:∀W,Vt w W (λk=>k=q)->I W):
 Calls prog 195 #[.slice (some (VJ q 0)) rs.length cap,.func (.func f) #[] cp] w λe w'=>∃rs',rs'=rs.filter (λr=>!φ r)/\e=.returned (.slice (some (VJ q 0)) rs'.length cap)/\(Mm.many q cap rs').Ok w'/\Vt w w' (λk=>k=q):=by
 have hR:=AV.adg h;have HT:Hid _:=hR;have N6:=UQ h;have hcap:=hR.le;have hget:∀i,i<rs.length->rs[i]?.getD noRow∈rs:=λi hi=>by rw[Z8 hi];exact V9 hi
 have HQ:Hid (∀i,i<rs.length->Q (rs[i]?.getD noRow)):=by
  have hx1:∀i,i<rs.length->Q (rs[i]?.getD noRow):=λi hi=>hQ _ (hget i hi);exact hx1
 clear h hR hget hQ;go_enter func195,ntmps195;go_wp2_with fail;refine(lN q cap rs.length f cp φ I Q _ w HT.o h6 hf HQ.o (λW hW=>hI W (hW.mono (λ_ _ h=>h.elim)))).mono ?_;rintro e w1 ⟨r,rfl,hb1,hres⟩;rcases hres with⟨rfl,hno⟩|⟨k0,rfl,hk0,hk1,hk2⟩
 . go_wp2
   go_ret
   have hfl:rs.filter (λr=>!φ r)=rs:=WR.2 (λr hr=>by
    obtain⟨i,hi,rfl⟩:=WQ hr;have:=hno i hi;rw[Z8 hi]at this;simp at this
    simp[this])
   refine⟨rs,hfl.symm,rfl,N6.o.same (hb1.block q HT.o.Vb.lt),Vt.of_below hb1 _⟩
 . have HK:Hid (φ (rs[k0]?.getD noRow)=true/\∀i,i<k0->φ (rs[i]?.getD noRow)=false):=⟨hk1,hk2⟩
   have SM:Hid _:=hb1;have FF:=HT.o.Vb.lt;have eM:(k0:Int)<6:=VH;have hne:((k0:Int)==-1)=false:=Vy;clear hk1 hk2 hb1;go_wp2
   go_loopw [5,6] (λa b wr=>∃(k j:Nat) (R:Nat->U1),a=VI k/\b=VI j/\k<j/\j<=rs.length/\k=((rs.take j).filter (λr=>!φ r)).length/\AV wr q cap rs.length R/\
    (∀t r,((rs.take j).filter (λr=>!φ r))[t]?=some r->R t=r)/\(∀t,j<=t->t<rs.length->R t=rs[t]?.getD noRow)/\Vt w wr (λk=>k=q)) (λ_ b _=>rs.length-(intOf b).toNat)
   case atStart=>
    obtain⟨h1,h2⟩:=HK.o;have hx:=Z8 hk0
    have O':(rs.take k0).filter (λr=>!φ r)=rs.take k0:=WR.2 (λr hr=>by
     obtain⟨i,hi,rfl⟩:=WQ hr;have hi':i<k0:=by simp at hi;omega
     have:=h2 i hi';rw[Z8 VH]at this;simp at this
     simp[this])
    have hP:(rs.take (k0+1)).filter (λr=>!φ r)=rs.take k0:=by
     rw[KH _ rs k0 _ hx,O'];rw[hx]at h1;simp at h1;simp[h1]
    refine⟨k0,k0+1,λi=>rs[i]?.getD noRow,rfl,Uu,VH,VH,by rw[hP];simp;omega,HT.o.same (SM.o.block q FF),λt r htr=>?_,λt _ _=>rfl,Vt.of_below SM.o _⟩;rw[hP]at htr;have ht:t<k0:=by have:=(Z7.1 htr).1;simp at this;omega
    rw[Zl ht]at htr;simp[htr]
   case round=>
    obtain⟨k,j,R,rfl,rfl,hkj,hjn,hkl,I3,hR1,hR2,hch⟩:=hrel
    have HR:Hid (k=((rs.take j).filter (λr=>!φ r)).length/\AV wr q cap rs.length R/\
     (∀t r,((rs.take j).filter (λr=>!φ r))[t]?=some r->R t=r)/\(∀t,j<=t->t<rs.length->R t=rs[t]?.getD noRow)/\Vt w wr (λk=>k=q)):=⟨hkl,I3,hR1,hR2,hch⟩
    have hkn:k<rs.length:=VH;by_cases hjl:j<rs.length
    . have c0:=I3.c0 j hjl;have c1:=I3.c1 j hjl;have c2:=I3.c2 j hjl;have c3:=I3.c3 j hjl;have sE:=hR2 j UM hjl;have hx:=Z8 hjl;rw[hx]at sE;simp only[YX]at sE
      have HX:Hid (rs[j]?=some (R j)):=by
       have hx1:rs[j]?=some (R j):=by rw[sE];exact hx
       exact hx1
      have A7:=I3.Vb.lt;have hent:=hf.ent;have n_:=hf.says (wr.alloc (.cells #[.pointer (R j).fr,.string (R j).sel,.pointer (R j).hm,.pointer (R j).mt] 64)) (R j) (hI _ (hch.alloc _)) (by rw[sE];have:=HQ.o j hjl;rw[hx]at this;exact this);unfold U1.val at n_;clear hkl I3 hR1 hR2 hch sE hx;go_wp2_with fail;refine n_.mono ?_;rintro e w1 ⟨rfl,hb1⟩;have hw2:=(hb1.block q Vo).trans (ZV wr _ q A7);have hz:=(hb1.block _ Vy).trans (Z4 wr _).1
      have HW:Hid (AV w1 q cap rs.length R/\Vt w w1 (λk=>k=q)):=⟨HR.o.2.1.same hw2,(HR.o.2.2.2.2.alloc _).trans (Vt.of_below hb1 _)⟩
      clear hb1 hw2 c0 c1 c2 c3 n_ hent
      cases hp:φ (R j) with
      | true=>
       have HP:Hid _:=hp;clear hp hz;go_wp2
       go_roundw
       case rel=>
        obtain⟨hkl,I3,hR1,hR2,hch⟩:=HR.o;have hf1:=KH (λr=>!φ r) rs j (R j) HX.o;rw[HP.o]at hf1;simp at hf1;exact⟨k,j+1,R,rfl,Uu,VH,VH,by rw[hf1];exact hkl,HW.o.1,λt r htr=>hR1 t r (by rw[hf1]at htr;exact htr),λt h1 h2=>hR2 t VH h2,HW.o.2⟩
       case measure=>simp[intOf]<;>omega
      | false=>
       have HP:Hid _:=hp;have z0:w1.cell? (VJ wr.heap.size 0)=some (.pointer (R j).fr):=by simp only[World.cell?,hz];rfl
       have z0:w1.cell? (VJ wr.heap.size 1)=some (.string (R j).sel):=by simp only[World.cell?,hz];rfl
       have z0:w1.cell? (VJ wr.heap.size 2)=some (.pointer (R j).hm):=by simp only[World.cell?,hz];rfl
       have z0:w1.cell? (VJ wr.heap.size 3)=some (.pointer (R j).mt):=by simp only[World.cell?,hz];rfl
       have k0':=HW.o.1.c0 k hkn;have vD:=HW.o.1.c1 k hkn;have xp:=HW.o.1.c2 k hkn;have k3':=HW.o.1.c3 k hkn;have kf:=λo=>HW.o.1.Vb.free o;have cA:(k:Int)<6:=VH;clear hp hz;go_wp2
       go_roundw
       case rel=>
        obtain⟨hkl,I3,hR1,hR2,hch⟩:=HR.o;have hf1:=KH (λr=>!φ r) rs j (R j) HX.o;rw[HP.o]at hf1;simp at hf1;refine⟨k+1,j+1,_,Uu,Uu,VH,VH,by rw[hf1];simp;exact hkl,HW.o.1.put hkn (R j),λt r htr=>?_,λt h1 h2=>?_,(((HW.o.2.setCell _ _ (λ_=>rfl)).setCell _ _ (λ_=>rfl)).setCell _ _ (λ_=>rfl)).setCell _ _ (λ_=>rfl)⟩
        . rw[hf1]at htr;by_cases e:t=k
          . subst e;rw[ZP VH,<- hkl]at htr;simp at htr;simp[htr]
          . simp only[e,Zg]
            have ht:t<k:=by
             have:=(Z7.1 htr).1;simp at this;omega
            rw[ZH VH]at htr;exact hR1 t r htr
        . have:t≠k:=by omega
          simp only[this,Zg];exact hR2 t VH h2
       case measure=>simp[intOf]<;>omega
    . obtain rfl:j=rs.length:=by omega
      obtain⟨wc,aqb,sn,xd⟩:=kT wr q cap rs.length k R 0 I3 hkn;have hkc:(k:Int)<=(cap:Int):=VH
      have HC:Hid (AV wc q cap k R/\wr.grownBy wc (some q)):=⟨sn,xd⟩
      clear hkl I3 hR1 hR2 hch sn xd;go_wp2
      go_ret
      obtain⟨hkl,I3,hR1,hR2,hch⟩:=HR.o;rw[Yv]at hkl hR1;exact⟨_,rfl,by rw[<- hkl];rfl,HC.o.1.ok VH hR1,hch.then (Vt.QY HC.o.2) Qi⟩
theorem uH (q cap f:Nat)(cp:Array Value)(φ:U1->Bool)(I:World->Prop)(Q:U1->Prop)(rs:List U1)(w:World)(h:(Mm.many q cap rs).Ok w)(h6:rs.length<=6)(hf:Ih f cp φ I Q)(hQ:∀r∈rs,Q r)(hI:∀W,Vt w W (λk=>k=q)->I W):
 Calls prog 192 #[.agg #[.slice (some (VJ q 0)) rs.length cap],.func (.func f) #[] cp] w λe w'=>e=.returned (Mm.many q cap (rs.filter (λr=>!φ r))).val/\(Mm.many q cap (rs.filter (λr=>!φ r))).Ok w'/\Vt w w' (λk=>k=q):=by
 obtain⟨rs',hrs⟩:∃rs',rs.filter (λr=>!φ r)=rs':=Vx;rw[hrs];have FF:=h.rows.Vb.lt;have hdel:=sQ q cap f cp φ I Q rs (w.alloc (.cells #[.slice (some (VJ q 0)) rs.length cap] 262)) (h.same (ZV w _ q FF)) h6 hf hQ (λW hW=>hI W (((Vt.refl w _).alloc _).then hW Qi));rw[hrs]at hdel;have HRS:Hid _:=hrs;clear hrs h;go_enter func192,ntmps192;go_wp2_with fail;refine hdel.mono ?_;rintro e w1 ⟨b8,hr2,rfl,hok,hch⟩;subst hr2
 have HX:Hid ((Mm.many q cap b8).Ok w1/\Vt w w1 (λk=>k=q)):=⟨hok,((Vt.refl w _).alloc _).then hch Qi⟩
 clear hok hch;go_wp2
 go_ret
 exact⟨rfl,HX.o.1,HX.o.2⟩
variable {bd : Nat}
def Mm.arr:Mm->Option Nat
 | .many q _ _=>some q
 | _=>none
def Mm.forget (φ:U1->Bool):Mm->Mm
 | .one r=>if φ r=true then .no else .one r
 | .many q cap rs=>.many q cap (rs.filter (λr=>!φ r))
 | m=>m
theorem Mm.KR {φ:U1->Bool}{m:Mm}{r:U1}(h:r∈(m.forget φ).rows):r∈m.rows/\φ r=false:=by
 cases m with
 | no=>cases h
 | only=>cases h
 | one o=>
  simp only[Mm.forget]at h;by_cases e:φ o=true
  . rw[ZU e]at h;cases h
  . rw[ZX e]at h;simp[Mm.rows]at h;subst h;exact⟨oV,by simpa using e⟩
 | many q cap rs=>
  simp only[Mm.forget,Mm.rows,XM]at h ⊢;exact⟨h.1,by simpa using h.2⟩
theorem Mm.QH (φ:U1->Bool)(m:Mm):(m.forget φ).arr=none\/(m.forget φ).arr=m.arr:=by
 cases m with
 | no=>exact .inl rfl
 | only=>exact .inl rfl
 | one o=>unfold Mm.forget;by_cases e:φ o=true<;>simp[e,Mm.arr]
 | many q cap rs=>exact .inr rfl
theorem Mm.Ig (φ:U1->Bool)(m:Mm):(m.forget φ).forget φ=m.forget φ:=by
 cases m with
 | no=>rfl
 | only=>rfl
 | one o=>
  unfold Mm.forget;by_cases e:φ o=true
  . simp[e]
  . simp[e]
 | many q cap rs=>simp[Mm.forget]
theorem Mm.Oq {φ:U1->Bool}{m:Mm}:m.forget φ=.only↔m=.only:=by
 cases m with
 | no=>simp[Mm.forget]
 | only=>simp[Mm.forget]
 | one o=>unfold Mm.forget;by_cases e:φ o=true<;>simp[e]
 | many q cap rs=>simp[Mm.forget]
structure Sm (bd:Nat)(w:World)(L:List (Nat×ByteArray))(pm:Nat->Mm)(Sd:ByteArray->U1->Prop):Prop where
 b6:bd<=6
 nd:(L.map (·.1)).Nodup
 at_:∀p s,(p,s)∈L->w.heap[p]?=some (.cells #[(pm p).val] 198)
 ok:∀p s,(p,s)∈L->(pm p).Ok w/\(pm p).rows.length<=bd
 rows:∀p s r,(p,s)∈L->r∈(pm p).rows->Sd s r
 arr:∀p s p' s' q,(p,s)∈L->(p',s')∈L->(pm p).arr=some q->(pm p').arr=some q->p=p'
def Vm (L:List (Nat×ByteArray))(pm:Nat->Mm)(k:Nat):Prop:=∃p s,(p,s)∈L/\(k=p\/(pm p).arr=some k)
theorem Sm.one {w:World}{L:List (Nat×ByteArray)}{pm:Nat->Mm}{Sd:ByteArray->U1->Prop}(h:Sm bd w L pm Sd){p:Nat}{s s':ByteArray}(h1:(p,s)∈L)(h2:(p,s')∈L):s=s':=by
 have hnd:=h.nd;clear h
 induction L with
 | nil=>cases h1
 | cons x l ih=>
  rw[Zc,YS]at hnd;rcases ZM.1 h1 with e1|h1
  . rcases ZM.1 h2 with e2|h2
    . rw[<- e1]at e2;injection e2 with _ e2;exact e2.symm
    . exact absurd (Zy.2 ⟨_,h2,by rw[<- e1]⟩) hnd.1
  . rcases ZM.1 h2 with e2|h2
    . exact absurd (Zy.2 ⟨_,h1,by rw[<- e2]⟩) hnd.1
    . exact ih h1 h2 hnd.2
theorem Sm.Vb {w:World}{L:List (Nat×ByteArray)}{pm:Nat->Mm}{Sd:ByteArray->U1->Prop}(h:Sm bd w L pm Sd){p:Nat}{s:ByteArray}(hp:(p,s)∈L):UL w p:=⟨_,_,h.at_ p s hp⟩
theorem Sm.Qz {w:World}{L:List (Nat×ByteArray)}{pm:Nat->Mm}{Sd:ByteArray->U1->Prop}(h:Sm bd w L pm Sd){p q:Nat}{s:ByteArray}(hp:(p,s)∈L)(hq:(pm p).arr=some q):∃cur,w.heap[q]?=some (.cells cur 64 (0,0)):=by
 have hok:=(h.ok p s hp).1
 cases hm:pm p with
 | no=>rw[hm]at hq;cases hq
 | only=>rw[hm]at hq;cases hq
 | one r=>rw[hm]at hq;cases hq
 | many q' cap rs=>
  rw[hm]at hq hok;simp[Mm.arr]at hq;subst hq;obtain⟨cur,h1,_⟩:=(AV.adg hok).blk;exact⟨cur,h1⟩
theorem Mm.Ok.keep {w w':World}{m:Mm}(h:m.Ok w)(hq:∀q,m.arr=some q->w'.heap[q]?=w.heap[q]?):m.Ok w':=by
 cases m with
 | no=>trivial
 | only=>trivial
 | one r=>trivial
 | many q cap rs=>exact Mm.Ok.same h (hq q rfl)
theorem Sm.same {w w':World}{L:List (Nat×ByteArray)}{pm:Nat->Mm}{Sd:ByteArray->U1->Prop}(h:Sm bd w L pm Sd)(hk:∀k,Vm L pm k->w'.heap[k]?=w.heap[k]?):Sm bd w' L pm Sd:=
 ⟨h.b6,h.nd,λp s hp=>(hk p ao2).trans (h.at_ p s hp),λp s hp=>⟨(h.ok p s hp).1.keep (λq hq=>hk q ⟨p,s,hp,.inr hq⟩),(h.ok p s hp).2⟩,h.rows,h.arr⟩
theorem Sm.upd {w w':World}{L:List (Nat×ByteArray)}{pm:Nat->Mm}{Sd:ByteArray->U1->Prop}(h:Sm bd w L pm Sd){p:Nat}{s:ByteArray}(hp:(p,s)∈L){m:Mm}
 (hc:Vt w w' (λk=>k=p\/(pm p).arr=some k)) (hat:w'.heap[p]?=some (.cells #[m.val] 198)) (hok:m.Ok w') (h6:m.rows.length<=bd) (hr:∀r∈m.rows,Sd s r)
 (hq:∀q,m.arr=some q->(pm p).arr=some q\/w.heap.size<=q):Sm bd w' L (λk=>if k=p then m else pm k) Sd:=by
 have mI:∀p' s',(p',s')∈L->p'≠p->w'.heap[p']?=w.heap[p']?:=λp' s' hp' hne=>hc.block p' (h.Vb hp').lt (λe=>by
  rcases e with e|e
  . exact hne e
  . obtain⟨cur,V_⟩:=h.Qz hp e;have:=h.at_ p' s' hp';rw[V_]at this;injection this with this;injection this with _ this _;revert this
    decide)
 have harr:∀p' s' q,(p',s')∈L->p'≠p->(pm p').arr=some q->w'.heap[q]?=w.heap[q]?:=λp' s' q hp' hne hq'=>by
  obtain⟨cur,V_⟩:=h.Qz hp' hq';refine hc.block q (Z5.1 V_).1 (λe=>?_);rcases e with e|e
  . subst e;have:=h.at_ _ s hp;exact aa2
  . exact hne (h.arr p' s' p s q hp' hp hq' e)
 refine⟨h.b6,h.nd,λp' s' hp'=>?_,λp' s' hp'=>?_,λp' s' r hp' hr'=>?_,λp1 s1 p2 s2 q h1 h2 hq1 hq2=>?_⟩
 . by_cases e:p'=p
   . subst e;simp only[Y6];exact hat
   . simp only[e,Zg];exact(mI p' s' hp' e).trans (h.at_ p' s' hp')
 . by_cases e:p'=p
   . subst e;simp only[Y6];exact⟨hok,h6⟩
   . simp only[e,Zg];exact⟨(h.ok p' s' hp').1.keep (λq hq'=>harr p' s' q hp' e hq'),(h.ok p' s' hp').2⟩
 . by_cases e:p'=p
   . subst e;simp only[Y6]at hr';rw[h.one hp' hp];exact hr r hr'
   . simp only[e,Zg]at hr';exact h.rows p' s' r hp' hr'
 . have key:∀p' s',(p',s')∈L->p'≠p->(pm p').arr=some q->m.arr=some q->False:=λp' s' hp' hne h3 h4=>by
    rcases hq q h4 with h5|h5
    . exact hne (h.arr p' s' p s q hp' hp h3 h5)
    . obtain⟨cur,V_⟩:=h.Qz hp' h3;have:=(Z5.1 V_).1;omega
   by_cases e1:p1=p
   . by_cases e2:p2=p
     . rw[e1,e2]
     . simp only[e1,e2,Y6,Zg]at hq1 hq2;exact(key p2 s2 h2 e2 hq2 hq1).elim
   . by_cases e2:p2=p
     . simp only[e1,e2,Y6,Zg]at hq1 hq2;exact(key p1 s1 h1 e1 hq1 hq2).elim
     . simp only[e1,e2,Zg]at hq1 hq2;exact h.arr p1 s1 p2 s2 q h1 h2 hq1 hq2
theorem Gw {wr w1:World}{r:Nat}{o o':Obj}(hw1:w1=wr\/w1=wr.drew)(hit:wr.heap[r]?=some o):(ChangeMaps.setBlock w1 r o').heap[r]?=some o'/\(∀k,k≠r->(ChangeMaps.setBlock w1 r o').heap[k]?=wr.heap[k]?)/\(ChangeMaps.setBlock w1 r o').heap.size=wr.heap.size/\Vt wr (ChangeMaps.setBlock w1 r o') (λk=>k=r):=by
 have hl:=(Z5.1 hit).1;have hh:w1.heap=wr.heap/\w1.os=wr.os/\w1.tape=wr.tape/\w1.output=wr.output:=by rcases hw1 with h|h<;>subst h<;>exact⟨rfl,rfl,rfl,rfl⟩
 have key:∀k,k≠r->(ChangeMaps.setBlock w1 r o').heap[k]?=wr.heap[k]?:=by
  intro k hk;show (w1.heap.setIfInBounds r o')[k]?=_;rw[hh.1];simp[Yn,VL hk]
 have hsz:(ChangeMaps.setBlock w1 r o').heap.size=wr.heap.size:=by
  show (w1.heap.setIfInBounds r o').size=_;rw[hh.1];simp
 refine⟨?_,key,hsz,⟨hh.2.1,hh.2.2.1,hh.2.2.2,VH,λk _ hk=>key k hk⟩⟩;show (w1.heap.setIfInBounds r o')[r]?=_;rw[hh.1];simp[Yn,hl]
theorem apx {w:World}{p:Nat}{v:Value}(v':Value)(h:w.heap[p]?=some (.cells #[v] 198)):(w.setCell (VJ p 0) v').heap[p]?=some (.cells #[v'] 198):=by
 exact uX
theorem zy {es:Array MapEntry}{seen:Array Nat}(h:(leftOf es seen).size=0){e:MapEntry}(he:e∈es.toList):seen.contains e.born=true:=by
 cases hc:seen.contains e.born with
 | true=>rfl
 | false=>
  have:e∈leftOf es seen:=Array.mem_filter.2 ⟨Array.mem_toList_iff.1 he,by rw[hc];rfl⟩;rw[WZ h]at this;simp at this
theorem Mm.kE (φ:U1->Bool)(m:Mm):(m.forget φ).rows.length<=m.rows.length:=by
 cases m with
 | no=>exact ZN _
 | only=>exact ZN _
 | one o=>simp only[Mm.forget];by_cases e:φ o=true<;>simp[e,Mm.rows]
 | many q cap rs=>exact XI _ _
theorem Sm.store {W W3:World}{L:List (Nat×ByteArray)}{pm:Nat->Mm}{Sd:ByteArray->U1->Prop}(h:Sm bd W L pm Sd){p:Nat}{s:ByteArray}(hp:(p,s)∈L){m:Mm}
 (hc:Vt W W3 (λk=>(pm p).arr=some k)) (hok:m.Ok W3) (h6:m.rows.length<=bd) (hr:∀r∈m.rows,Sd s r) (hq:∀q,m.arr=some q->(pm p).arr=some q\/W.heap.size<=q) (zr:∀q,m.arr=some q->q≠p):
 Sm bd (W3.setCell (VJ p 0) m.val) L (λk=>if k=p then m else pm k) Sd:=by
 have n6:¬(pm p).arr=some p:=λe=>by
  obtain⟨cur,V_⟩:=h.Qz hp e;have:=h.at_ p s hp;exact aa2
 have hat:=(hc.block p (h.Vb hp).lt n6).trans (h.at_ p s hp);refine h.upd hp ((hc.mono lF).setCell _ _ Dx) (apx _ hat) (hok.keep (λq hq'=>ZW _ _ _ _ (zr q hq'))) h6 hr hq
theorem Fb (ib f:Nat)(cp:Array Value)(ps:List Nat)(φ:U1->Bool)(I:World->Prop)(Q:U1->Prop)(L:List (Nat×ByteArray))(pm:Nat->Mm)(Sd:ByteArray->U1->Prop)(w:World)(h:LX w ib ps)(hL:∀p∈ps,∃s,(p,s)∈L)(hP:Sm bd w L pm Sd)
 (hf:Ih f cp φ I Q) (hQ:∀s r,Sd s r->Q r) (hI:∀W,Vt w W (Vm L pm)->I W):
 Calls prog 105 #[.map (some ib),.func (.func f) #[] cp] w λe w'=>e=.returned (.tuple #[])/\∃T_,Sm bd w' L T_ Sd/\(∀p∈ps,T_ p=(pm p).forget φ)/\(∀p,p ∉ ps->T_ p=pm p)/\Vt w w' (Vm L pm):=by
 obtain⟨es,clock,hb,GG,Ww,hnd⟩:=h;have hrg:=Wq (P:=prog) w 138 _ _ ib es clock underlying138 hb
 have hnb:¬Vm L pm ib:=by
  rintro⟨p,s,hps,e|e⟩
  . subst e;have:=hP.at_ _ s hps;rw[hb]at this;cases this
  . obtain⟨cur,V_⟩:=hP.Qz hps e;rw[hb]at V_;cases V_
 have hbl:=(Z5.1 hb).1;have eV:Hid _:=hP
 have hlt:∀k,Vm L pm k->k<w.heap.size:=by
  rintro k ⟨p,s,hps,e|e⟩
  . subst e;exact(hP.Vb hps).lt
  . obtain⟨cur,V_⟩:=hP.Qz hps e;exact(Z5.1 V_).1
 have nh:Hid _:=hlt;clear hP hlt;go_enter func105,ntmps105;go_wp2
 go_loopw [7] (λ_ wr=>∃seen T_,wr.heap[w.heap.size]?=some (.mapIter (some ib) clock seen clock)/\Sm bd wr L T_ Sd/\(∀e∈es.toList,∀p,e.key=TM p->seen.contains e.born=true->T_ p=(pm p).forget φ)/\(∀p,T_ p=pm p\/(p∈ps/\T_ p=(pm p).forget φ))/\Vt w wr (Vm L pm)) (λ_ wr=>(leftOf es (wr.iterSeen w.heap.size)).size)
 case atStart=>
  exact ao8
 case round=>
  obtain⟨seen,T_,hit,hpl,hdone,WK,hch⟩:=hrel;have hbr:=(hch.block ib hbl hnb).trans hb;rcases VO (P:=prog) wr 0 w.heap.size ib clock clock seen es clock hit hbr (λx hx=>Ww.1 x hx) UM with⟨hl0,hnx⟩|⟨en,hen,w1,hw1,hnx⟩
  . have HC:Hid (∃T_,Sm bd wr L T_ Sd/\(∀p∈ps,T_ p=(pm p).forget φ)/\(∀p,p ∉ ps->T_ p=pm p)/\Vt w wr (Vm L pm)):=by
     have hx1:∃T_,Sm bd wr L T_ Sd/\(∀p∈ps,T_ p=(pm p).forget φ)/\(∀p,p ∉ ps->T_ p=pm p)/\Vt w wr (Vm L pm):=by
      exact aoa
     exact hx1
    clear hpl hdone WK hch hrg;go_wp2
    go_end0
    exact⟨rfl,HC.o⟩
  . refine agV ?_;intro UB q hq Fy s UX i1 i2 i3 i4;obtain⟨W2,hW2⟩:∃W2,W2=ChangeMaps.setBlock w1 w.heap.size (.mapIter (some ib) clock (seen.push en.born) clock):=Vx;rw[<- hW2]at i1 i2 i3 i4 hnx;clear hW2;have hib:ib≠w.heap.size:=VH;have hent:=VX (P:=prog) W2 w.heap.size ib clock seen es clock en i1 ((i2 ib hib).trans hbr) UB Ww.2;rw[Fy,TM]at hnx hent
    have Qt:∀k,Vm L T_ k->Vm L pm k:=by
     rintro k ⟨p,s',hps,e|e⟩
     . exact⟨p,s',hps,.inl e⟩
     . refine⟨p,s',hps,.inr ?_⟩;rcases WK p with h|⟨_,h⟩
       . rw[h]at e;exact e
       . rw[h]at e;rcases Mm.QH φ (pm p) with h'|h'
         . rw[h']at e;cases e
         . rw[h']at e;exact e
    refine ahC ?_;intro hne HL HS m_ Wz
    have HP:Hid (Sm bd W2 L T_ Sd/\(∀e∈es.toList,∀p,e.key=TM p->seen.contains e.born=true->T_ p=(pm p).forget φ)/\(∀p,T_ p=pm p\/(p∈ps/\T_ p=(pm p).forget φ))/\Vt w W2 (Vm L pm)):=⟨m_,hdone,WK,Wz⟩
    have HB:Hid _:=Qt
    have HQ:Hid (q∈ps/\(q,s)∈L/\en.key=TM q/\en∈es.toList/\q≠w.heap.size):=⟨hq,UX,Fy,UB,hne q ⟨q,s,UX,.inl rfl⟩⟩
    have hat:=m_.at_ q s UX;have c0:W2.cell? (VJ q 0)=some (T_ q).val:=by simp only[World.cell?,hat];rfl
    have hfin:∀W3:World,(((T_ q).forget φ).Ok W3)->Vt W2 W3 (λk=>(T_ q).arr=some k)->W3.heap[w.heap.size]?=some (.mapIter (some ib) clock (seen.push en.born) clock)->
     ∃seen Tb,(W3.setCell (VJ q 0) ((T_ q).forget φ).val).heap[w.heap.size]?=some (.mapIter (some ib) clock seen clock)/\Sm bd (W3.setCell (VJ q 0) ((T_ q).forget φ).val) L Tb Sd/\(∀e∈es.toList,∀p,e.key=TM p->seen.contains e.born=true->Tb p=(pm p).forget φ)/\(∀p,Tb p=pm p\/(p∈ps/\Tb p=(pm p).forget φ))/\Vt w (W3.setCell (VJ q 0) ((T_ q).forget φ).val) (Vm L pm):=by
     intro W3 hok hc3 ls;obtain⟨m_,hdone,WK,Wz⟩:=HP.o;obtain⟨hq,UX,Fy,UB,FL⟩:=HQ.o
     have UI:(T_ q).forget φ=(pm q).forget φ:=by
      rcases WK q with h|h
      . rw[h]
      . rw[h.2,Mm.Ig]
     refine⟨seen.push en.born,λk=>if k=q then (T_ q).forget φ else T_ k,(ZW _ _ _ _ (λe=>FL e.symm)).trans ls,m_.store UX hc3 hok (ZC (Mm.kE φ _) (m_.ok q s UX).2) (λr hr=>m_.rows q s r UX (Mm.KR hr).1) (λa ha=>?_) (λa ha e=>?_),λe he p I1 hc=>?_,λp=>?_,(Wz.then hc3 (λk _ e=>HB.o k ⟨q,s,UX,.inr e⟩)).setCell _ _ (λ_=>⟨q,s,UX,.inl rfl⟩)⟩
     . rcases Mm.QH φ (T_ q) with h|h
       . rw[h]at ha;cases ha
       . left;rw[<- h];exact ha
     . subst e;rcases Mm.QH φ (T_ a) with h|h
       . rw[h]at ha;cases ha
       . rw[h]at ha;obtain⟨cur,V_⟩:=m_.Qz UX ha;have:=m_.at_ a s UX;exact aa2
     . rw[contains_push]at hc;by_cases e1:p=q
       . simp only[e1,Y6];exact UI
       . simp only[e1,Zg];refine hdone e he p I1 ?_
         cases hcs:seen.contains e.born with
         | true=>rfl
         | false=>
          exact amW
     . by_cases e1:p=q
       . simp only[e1,Y6];exact .inr ⟨hq,UI⟩
       . simp only[e1,Zg];exact WK p
    have HF:Hid _:=hfin;have cf:=λo=>(m_.Vb UX).free o
    have i_:(T_ q).Ok W2/\(T_ q).rows.length<=6:=⟨(m_.ok q s UX).1,ZC (m_.ok q s UX).2 m_.b6⟩
    have ww:Hid (∀r∈(T_ q).rows,Q r):=by
     have hx1:∀r∈(T_ q).rows,Q r:=λr hr=>hQ s r (m_.rows q s r UX hr);exact hx1
    have wl:∀W,Vt W2 W (λk=>(T_ q).arr=some k)->I W:=λW hW=>hI W (Wz.then hW (λk _ e=>Qt k ⟨q,s,UX,.inr e⟩));have tG:=(Z5.1 i1).1;have FL:=HQ.o.2.2.2.2;have hir:¬(T_ q).arr=some w.heap.size:=λe=>hne _ ⟨q,s,UX,.inr e⟩ rfl;clear hpl hdone WK hch hrg i2 i4 hbr hit hen UB hw1 m_ Wz hfin Qt hne hat Fy
    have finish:∀(W3:World) (v:Value),W3.heap[w.heap.size]?=some (.mapIter (some ib) clock (seen.push en.born) clock)->(W3.setCell (VJ q 0) v).iterSeen w.heap.size=seen.push en.born:=λW3 v h3=>by
     unfold World.iterSeen;rw[(ZW _ _ _ _ (λe=>FL e.symm)).trans h3]
    have xm:Hid _:=finish;clear finish
    cases qr:T_ q with
    | no=>
     rw[qr]at c0 HF ww wl i_ hir;simp only[Mm.val]at c0;go_wp2_with fail;refine(aH _ W2).mono ?_;refine aiG ?_;intro W3 hb3 c3 cf3;have VM:Hid (Vt W2 W3 (λk=>Mm.no.arr=some k)/\W3.heap[w.heap.size]?=some (.mapIter (some ib) clock (seen.push en.born) clock)):=alj;clear hb3 c0 cf hnx hent i1;unfold Mm.val;go_wp2
     go_roundw
     case rel=>exact HF.o W3 trivial VM.o.1 VM.o.2
     case measure=>
      exact adP
    | only=>
     rw[qr]at c0 HF ww wl i_ hir;simp only[Mm.val]at c0;go_wp2_with fail;refine(Oq _ W2).mono ?_;refine aiG ?_;intro W3 hb3 c3 cf3;have VM:Hid (Vt W2 W3 (λk=>Mm.only.arr=some k)/\W3.heap[w.heap.size]?=some (.mapIter (some ib) clock (seen.push en.born) clock)):=alj;clear hb3 c0 cf hnx hent i1;unfold Mm.val;go_wp2
     go_roundw
     case rel=>exact HF.o W3 trivial VM.o.1 VM.o.2
     case measure=>
      exact adP
    | one r=>
     rw[qr]at c0 HF ww wl i_ hir;simp only[Mm.val]at c0;have hcall:=oQ r f cp φ I Q W2 hf (ww.o r oV) (λW hW=>wl W (hW.mono (λ_ _ h=>h.elim)));unfold U1.val at hcall c0;go_wp2_with fail;refine hcall.mono ?_;rintro e W3 ⟨rfl,hb3⟩;have Kx:=ZE W2 (VJ q 0) c0;have c3:=(hb3.cell (p:=(VJ q 0)) Kx).trans c0;have cf3:∀o,W3.frozen? (VJ q o)=false:=λo=>(Zr (a:=(VJ q o)) (hb3.block q Kx)).trans (cf o);have VM:Hid (Vt W2 W3 (λk=>(Mm.one r).arr=some k)/\W3.heap[w.heap.size]?=some (.mapIter (some ib) clock (seen.push en.born) clock)):=alj;have hv:(if φ r=true then Mm.no else Mm.one r)=(Mm.one r).forget φ:=rfl;rw[hv]
     have N6:Hid (((Mm.one r).forget φ).Ok W3):=by
      have hx1:((Mm.one r).forget φ).Ok W3:=by
       unfold Mm.forget;by_cases e:φ r=true
       . simp only[e,Y6];trivial
       . simp only[e];trivial
      exact hx1
     revert HF N6;generalize hvv:(Mm.one r).forget φ=mv;intro HF N6
     have hone:∃t u,mv.val=.iface t u:=by
      rw[<- hvv];unfold Mm.forget;by_cases e:φ r=true
      . simp only[e,Y6];exact⟨_,_,rfl⟩
      . simp only[e];exact⟨_,_,rfl⟩
     obtain⟨t,u,Ao⟩:=hone;rw[Ao];have HTU:Hid _:=Ao;clear hb3 c0 cf hnx hent i1 hcall hv hvv Ao;go_wp2
     go_roundw
     case rel=>
      have:=HF.o W3 N6.o VM.o.1 VM.o.2;rw[HTU.o]at this;exact this
     case measure=>
      exact adP
    | many a cap rs=>
     rw[qr]at c0 HF ww wl i_ hir;simp only[Mm.val]at c0;have hcall:=uH a cap f cp φ I Q rs W2 i_.1 i_.2 hf ww.o (λW hW=>wl W (hW.mono (λk _ e=>Sv)))
     have haq:a≠q:=λe=>by
      obtain⟨cur,V_,_⟩:=(AV.adg i_.1).blk;have h1:=HP.o.1.at_ q s HQ.o.2.1;rw[<- e,V_]at h1;exact acw
     go_wp2_with fail;refine hcall.mono ?_;rintro e W3 ⟨rfl,i_,hb3⟩;have Kx:=ZE W2 (VJ q 0) c0;have LN:=hb3.block q Kx (λe=>haq e.symm);have c3:=(Z9 (a:=(VJ q 0)) LN).trans c0;have cf3:∀o,W3.frozen? (VJ q o)=false:=λo=>(Zr (a:=(VJ q o)) LN).trans (cf o)
     have VM:Hid (((Mm.many a cap rs).forget φ).Ok W3/\Vt W2 W3 (λk=>(Mm.many a cap rs).arr=some k)/\W3.heap[w.heap.size]?=some (.mapIter (some ib) clock (seen.push en.born) clock)):=⟨i_,hb3.mono (λk _ e=>Sv),(hb3.block _ tG (λe=>hir Sv)).trans i1⟩
     clear hb3 c0 cf hnx hent i1 hcall i_ LN;unfold Mm.val;go_wp2
     go_roundw
     case rel=>exact HF.o W3 VM.o.1 VM.o.2.1 VM.o.2.2
     case measure=>
      rw[xm.o W3 _ VM.o.2.2,HS.o];exact HL.o
end Go.Proofs.Rz
