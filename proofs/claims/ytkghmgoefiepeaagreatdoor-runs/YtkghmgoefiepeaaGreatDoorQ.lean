import Derived.KernelRfl
import Derived.Test.YtkghmgoefiepeaaGreatDoorP
set_option linter.all false
set_option maxHeartbeats 4000000
set_option maxRecDepth 100000
namespace Go.Proofs.Rz
open ChangeShapes WideShapes ChangeAt RowKit Kn Iz Tryz
def noGoto (Q:Exit->Act->World->Prop):Exit->Act->World->Prop
 | .goto _,_,_=>False
 | e,a,w=>Q e a w
variable {w : World}
def CZ {P:Program}{a:Act}{Q:Exit->Act->World->Prop}{c:Code}(h:c.wp P (noGoto Q) a w):(Code.scope c).wp P Q a w:=
 KT 0 (Code.wp_mono (λe a w he=>by cases e<;>first|exact he|exact(he:False).elim) h)
def acC:(prog.info? 212).map (·.size)=some 45:=VE
def ajW {p q:Nat}(hp:UL w p)(hq:UL w q):(binOp .neq 172 (VG p) (VG q)).run prog w=.ok (.bool (!decide (p=q))) w:=by
 have hs:=acC
 cases hi:prog.info? 212 with
 | none=>rw[hi]at hs;cases hs
 | some i=>
  rw[hi]at hs;simp at hs;have h:=N7 (P:=prog) (w:=w) underlying172 hi VH hp hq;simp only[binOp];simp[h]
def rQ (a:Addr):(binOp .neq 172 (.pointer none) (.pointer (some a))).run prog w=.ok (.bool true) w:=by
 have h:∀d:Nat,(Op.equalIn (d+1) 172 (.pointer none) (.pointer (some a))).run prog w=.ok false w:=λd=>by
  simp[Op.equalIn,Zu underlying172]
 have h2:(Op.equal 172 (.pointer none) (.pointer (some a))).run prog w=.ok false w:=h 9999;simp only[binOp];simp[h2]
def akB (k:Nat)(h1:1<=k)(h2:k<23)(args:Array Value)(W:World):(callFunc (doF k) args).run prog W=.ok (.enter (doF k) args) W:=by
 obtain rfl|rfl|rfl|rfl|rfl|rfl|rfl|rfl|rfl|rfl|rfl|rfl|rfl|rfl|rfl|rfl|rfl|rfl|rfl|rfl|rfl|rfl:k=1\/k=2\/k=3\/k=4\/k=5\/k=6\/k=7\/k=8\/k=9\/k=10\/k=11\/k=12\/k=13\/k=14\/k=15\/k=16\/k=17\/k=18\/k=19\/k=20\/k=21\/k=22:=VH
 all_goals simp[doF,go_sem]
def NoD:Nat->Prop:=λ_=>False
def rF (k:Nat)(m:Im)(v:Vl):runM k (.told m v)=.told m v:=by cases k<;>rfl
def run_stop (k:Nat)(m:Im)(e:Int):runM k (.stop m e)=.stop m e:=by cases k<;>rfl
def ab9 {k:Nat}(h:k∈kinds):1<=kindOf k/\kindOf k<23:=by
 simp only[kinds,ZM,Zx,YE]at h;rcases h with rfl|rfl|rfl|rfl|rfl|rfl|rfl|rfl|rfl|rfl|rfl|rfl|rfl|rfl|rfl|rfl|rfl|rfl|rfl|rfl|rfl|rfl<;>decide
def FOn (w0:World)(m0:Im)(K0:Kd)(rb:Nat)(R:SN)(gk:Nat)(wr:World):Prop:=∃m K fuel bs fs,Sg NoD w0 m0 K0 rb wr m K fuel bs fs/\(SN.on m fuel fs).Ok/\fuel<=3000/\2*fuel+fs.length<gk/\runM gk (.on m fuel fs)=R
def aoH (w0:World)(m0:Im)(K0:Kd)(rb:Nat)(R:SN)(wr:World):Prop:=∃m v,R=.told m v/\TV NoD w0 m0 K0 rb (.told m v) (.returned (.tuple #[])) wr
def apm (w0:World)(m0:Im)(K0:Kd)(rb:Nat)(R:SN)(gk:Nat)(wr:World):Prop:=FOn w0 m0 K0 rb R gk wr\/aoH w0 m0 K0 rb R wr
def alB (w0:World)(m0:Im)(K0:Kd)(rb:Nat)(R:SN)(fb gk:Nat)(wr:World):Prop:=∃m K fuel mk bs f fs,Sg NoD w0 m0 K0 rb wr m K fuel ((fb,mk)::bs) (f::fs)/\(SN.on m fuel (f::fs)).Ok/\fuel<=3000/\2*fuel+(f::fs).length<gk/\runM gk (.on m fuel (f::fs))=R
variable {w0 : World}
variable {m0 : Im}
variable {K0 : Kd}
def FOn.top {rb:Nat}{R:SN}{gk:Nat}{wr:World}(h:FOn w0 m0 K0 rb R gk wr):∃fb,alB w0 m0 K0 rb R fb gk wr/\wr.cell? (VJ rb 24)=some (VG fb)/\rb<wr.heap.size:=by
 obtain⟨m,K,fuel,bs,fs,h1,h2,h3,h4,h5⟩:=h
 cases fs with
 | nil=>exact h2.2.1.elim
 | cons f fs=>
  cases bs with
  | nil=>exact absurd h1.len Vy
  | cons p bs=>exact⟨p.1,⟨m,K,fuel,p.2,bs,f,fs,h1,h2,h3,h4,h5⟩,h1.run.ct,h1.run.Vb.lt⟩
def nV {rb:Nat}(h0:Qv w0)(R:SN)(w:World)(N:Nat)(hst:FOn w0 m0 K0 rb R N w):
 Calls prog 92 #[VG rb] w (TV NoD w0 m0 K0 rb R):=by
 go_enter func92,ntmps92;go_wp2;refine CZ ?_;go_wp2;refine wp_label ?_;go_wp2
 go_loopg [] N (λgk wr=>apm w0 m0 K0 rb R gk wr)
 case atStart=>exact .inl hst
 case round=>
  rcases hrel with hrel|⟨m,v,hR,hp⟩
  . obtain⟨fb,htop,ct,hrl⟩:=hrel.top;obtain⟨go,hgo⟩:∃go,go=gk:=Vx;subst hgo;clear hrel;have HT:=UQ htop;clear htop;go_wp2
    go_loopg [] go (λgj wi=>alB w0 m0 K0 rb R fb gj wi/\gj<=go)
    case atStart=>exact⟨HT.o,ZN _⟩
    case round=>
     obtain⟨⟨m,K,fuel,mk,bs,f,fs,hs,hok,Rm,hme,hrun⟩,hle⟩:=hrel
     obtain⟨gj,rfl⟩:∃gj,gk=gj+1:=⟨gk-1,VH⟩
     have Q_:=hs.LY.1.raw;have c0:=Q_.c0;have cp:=Q_.cp;have s2:=Q_.c2;have s3:=Q_.c3;have sA:=hs.Qj.Ub.Uc.mt mk hs.LY.1.yZ;obtain⟨hh,hmb⟩:=sA.blk;have kI:=sA.len;rw[hs.LY.1.ws]at hmb kI;have mc:wr.cell? (VJ mk 0)=some (.slice (K.k.md mk).p f.ws.length (K.k.md mk).cap):=by simp only[World.cell?,hmb];rfl
     have i_:=step_ok hok;have WD:runM gj (stepM m fuel (f::fs))=R:=hrun;have C':fs.length+1<=32:=hok.2.2;have I':=hok.2.1.2
     have hroom:∀g gs,fs=g::gs->g.st.length<16:=λg gs e=>by
      have:=Nq (I' g (by rw[e];simp)).at_;omega
     cases hx:f.ws[f.pc]? with
     | none=>
      have hge:¬f.pc<f.ws.length:=λe=>by rw[Z8 e]at hx;cases hx
      have N5:stepM m fuel (f::fs)=QJ m fuel f.self fs:=by simp[stepM,hx]
      rw[N5]at i_ WD;have SP:=sS (hs.below (ZR _ _).drew) h0 f.self VH hroom;unfold Vl.val at SP
      have HX:Hid ((QJ m fuel f.self fs).Ok/\runM gj (QJ m fuel f.self fs)=R/\2*fuel+fs.length+1<gj+1):=⟨i_,WD,hme⟩
      clear Q_ hs sA hmb hok hrun i_ WD N5 hx I' hroom hme HT;go_wp2_with fail;refine adG ?_;intro hHeld;go_wp2_with fail;refine SP.mono ?_;intro e w3 hp
      cases fs with
      | nil=>
       obtain⟨rfl,hr⟩:=hp;have HP:Hid _:=hr;clear hr SP;go_wp2
       go_roundg gj
       case measure=>omega
       case rel=>
        have h1:=HX.o.2.1;rw[show QJ m fuel f.self []=.told m f.self from rfl,rF]at h1;exact .inr ⟨m,f.self,h1.symm,rfl,HP.o⟩
      | cons g gs=>
       obtain⟨rfl,hr⟩:=hp;have HP:Hid _:=hr;clear hr SP;go_wp2
       go_roundg gj
       case measure=>omega
       case rel=>
        obtain⟨K',bs',h3⟩:=HP.o;exact .inl ⟨m,K',fuel,bs',_,h3,HX.o.1,Rm,by have:=HX.o.2.2;simp only[ZI]at this ⊢;omega,HX.o.2.1⟩
     | some x=>
      have hpc:=(Z7.1 hx).1;have hlt:(f.pc:Int)<(f.ws.length:Int):=VH;have hkr:=ab9 (hok.2.1.1.good.fine f.pc x hx).kind
      cases fuel with
      | zero=>
       have N5:stepM m 0 (f::fs)=.stop m 2:=by simp[stepM,hx]
       rw[N5,run_stop]at WD;have hb:=afR (hs.run.same (w':=wr.drew) rfl);have HX:=UQ hs.Qj;subst WD;clear Q_ hs sA hmb hok hrun i_ N5 hx I' hroom hme HT;go_wp2_with fail;refine adG ?_;intro hHeld;go_wp2_with fail;refine hb.mono ?_;rintro e w3 ⟨rfl,rfl⟩;clear hb;go_wp2;exact⟨rfl,rfl,K,HX.o.trans (Step.below HX.o.Ub (ZR _ _).drew)⟩
      | succ fu=>
       have N5:stepM m (fu+1) (f::fs)=VA m fu x.1 {f with pc:=f.pc+1} fs:=by simp[stepM,hx]
       have tU:=fO m fu x.1 {f with pc:=f.pc+1} fs;rw[N5]at i_ WD;have hb:=agA (hs.run.same (w':=wr.drew) rfl) VH;obtain⟨W3,hW3⟩:∃W3,W3=wr.drew.setCell (VJ rb 26) (VI (fu:Nat)):=Vx;rw[<- hW3]at hb
       have hs3:Sg NoD w0 m0 K0 rb W3 m K fu ((fb,mk)::bs) (f::fs):=by
        refine(hs.below (ZR _ _).drew).runs h0 (fuel':=fu) ?_ ?_
        . rw[hW3];exact(Vt.refl _ (λk=>k=rb)).setCell _ _ (λ_=>rfl)
        . rw[hW3];exact(hs.run.same (w':=wr.drew) rfl).afs fu
       have M9:=hs3.LY.1.raw;have d0:=M9.c0;have dp:=M9.cp;have SD:=hs3.Qj.Ub.Uc.mt mk hs3.LY.1.yZ;obtain⟨hh3,xy⟩:=SD.blk;rw[hs3.LY.1.ws]at xy;have eD:=SD.LV.head (by rw[hs3.LY.1.ws];omega);have dm:W3.cell? (VJ mk 0)=some (.slice (some (VJ ((K.k.md mk).g) 0)) f.ws.length (K.k.md mk).cap):=by rw[<- eD];simp only[World.cell?,xy];rfl
       have J0:(K.k.md mk).ws[f.pc]?=some x:=by rw[hs3.LY.1.ws];exact hx
       have g0:=SD.LV.c0 f.pc x J0;have g1:=SD.LV.c1 f.pc x J0;have g2:=SD.LV.c2 f.pc x J0;have g3:=SD.LV.c3 f.pc x J0;have g4:=SD.LV.c4 f.pc x J0;have g5:=SD.LV.c5 f.pc x J0;obtain⟨pl,hpl⟩:∃pl,pl=(if f.pc<(K.k.md mk).ws.length/\UO x.1=true then some (VJ ((K.k.md mk).pl f.pc) 0) else none):=Vx;rw[<- hpl]at g5
       have m_:UO x.1=true->∃p,pl=some (VJ p 0)/\(p,VF x.1.sel)∈K.k.L:=λe=>⟨(K.k.md mk).pl f.pc,by rw[hpl,ZU ⟨by rw[hs3.LY.1.ws];exact hpc,e⟩],SD.Ru f.pc x J0 e⟩
       have uf:∀o,W3.frozen? (VJ fb o)=false:=λo=>M9.Vb.free o;have hgl:=(SD.LV.Vb (by rw[hs3.LY.1.ws];omega)).lt;have eN:=hs3.run.Vb.lt;have eO:=M9.Vb.lt;have eE:=SD.Vb.lt;have H3:Hid _:=hs3
       have HX:Hid ((SN.on m (fu+1) (f::fs)).Ok/\(VA m fu x.1 {f with pc:=f.pc+1} fs).Ok/\runM gj (VA m fu x.1 {f with pc:=f.pc+1} fs)=R/\2*(fu+1)+(fs.length+1)<gj+1/\f.ws[f.pc]?=some x/\(VA m fu x.1 {f with pc:=f.pc+1} fs).Sz fu (fs.length+2)):=⟨hok,i_,WD,hme,hx,tU⟩
       have kA:Hid _:=m_;clear Q_ hs sA hmb hok hrun WD i_ N5 hx hroom hme HT hs3 M9 SD xy J0 hpl m_ tU eD hW3;go_wp2_with fail;refine adG ?_;intro hHeld;go_wp2_with fail;refine hb.mono ?_;rintro e w3 ⟨rfl,rfl⟩;clear hb c0 cp s2 s3 mc;go_wp2_with fail;refine Uy ?_;refine ZT (S:=(λw'=>w'.cell? (VJ fb 0)=some (VG mk)/\w'.cell? (VJ fb 10)=some (VI (f.pc:Nat))/\w'.cell? (VJ mk 0)=some (.slice (some (VJ ((K.k.md mk).g) 0)) f.ws.length (K.k.md mk).cap)/\w'.cell? (VJ ((K.k.md mk).g) (f.pc*6))=some (VI (kindOf x.1.k:Nat))/\w'.cell? (VJ ((K.k.md mk).g) (f.pc*6+1))=some (VI x.1.n)/\w'.cell? (VJ ((K.k.md mk).g) (f.pc*6+2))=some (.string (VF x.1.a))/\w'.cell? (VJ ((K.k.md mk).g) (f.pc*6+3))=some (.string (VF x.1.sel))/\w'.cell? (VJ ((K.k.md mk).g) (f.pc*6+4))=some (.string (VF x.1.b))/\w'.cell? (VJ ((K.k.md mk).g) (f.pc*6+5))=some (.pointer pl))) VE UG (λhHeld=>?_);refine zC ?_;refine Uh 9 ?_;refine Ur 10 ?_;refine Zv (rs:=[11,13]) VE Vy ?_;refine(ZO (o:=_) rfl (λY_ Z_=>?Wd1) (ZO (o:=_) rfl (λY_ Z_=>?Wd2) ZA))
       case Wd1=>
        refine Vg ?_;intro hHeld;clear Z_ Y_;refine BD ?_;refine Ul 13 λY_ Z_=>?_;refine Vg ?_;intro hHeld;clear Z_ Y_
        try refine UE ?_
        refine Ul 14 λY_ Z_=>?_;refine Vg ?_;intro hHeld;clear Z_ Y_;refine Um ?_;go_wp2_with fail;obtain⟨W3,hW3⟩:∃W3,W3=w3.setCell (VJ fb 10) (VI ((f.pc:Int)+1)):=Vx;refine ahz ?_;intro h3 So;obtain⟨W5,MU⟩:∃W5,W5=W3.alloc (.cells (TQ x.1 pl) 146):=Vx;have B:=(h3.look (Df:=λk=>k=fb) (λk e=>aik)).box x.1 pl MU;unfold TQ at MU;rw[<- MU,So];obtain⟨zb,hzb⟩:∃zb,zb=W3.heap.size:=Vx;have hat:=B.blk;rw[<- hzb]at hat;rw[<- hzb];obtain⟨kd,o_⟩:∃kd,kd=kindOf x.1.k:=Vx;refine amd ?_;intro b0 b1 b2 b3 b4 b5 bd JP hent;rw[<- o_]at hkr;obtain⟨hk1,hk2⟩:=hkr;unfold Uo TQ at JP hent;rw[<- o_]at JP hent ⊢;have hk3:(kd:Int)<23:=VH;clear B h3 hW3 MU So hat hzb o_ d0 dp dm g0 g1 g2 g3 g4 g5 hgl eN eO eE H3 uf;refine ajJ ?_;intro hHeld;refine(ZO (o:=_) rfl (λY_ Z_=>?Wf1) (ZO (o:=_) rfl (λY_ Z_=>?Wf2) ZA))
        case' Wf1=>
         refine Vg ?_;intro hHeld;clear Z_ Y_
         try refine UE ?_
         refine Ur 5 ?_;refine Zv (rs:=[6,8]) VE Vy ?_;refine(ZO (o:=_) rfl (λY_ Z_=>?am) (ZO (o:=_) rfl (λY_ Z_=>?ae) ZA))
         case' am=>
          refine Vg ?_;intro hHeld;clear Z_ Y_
          try refine UE ?_
          refine BJ ?_;intro hHeld
          try refine UE ?_
          refine ?lg
         case' ae=>
          refine Vg ?_;intro hHeld;clear Z_ Y_
          try refine UE ?_
          refine Bf ?_;intro hHeld;refine ?lg
        case' Wf2=>
         refine Vg ?_;intro hHeld;clear Z_ Y_
         try refine UE ?_
         refine Ul 2 λY_ Z_=>?_;refine Vg ?_;intro hHeld;clear Z_ Y_
         try refine UE ?_
         refine Ur 5 ?_;refine Bf ?_;intro hHeld;refine ?lh
        all_goals
         refine Ul 9 λY_ Z_=>?_;go_simp;refine JP.mono ?_;intro e w6 T9;clear JP hent b0 b1 b2 b3 b4 b5 bd hk1 hk2 hk3 kA
         cases hg:VA m fu x.1 {f with pc:=f.pc+1} fs with
         | stop m' n'=>
          exact anW
         | told m' v=>
          rw[hg]at T9;obtain⟨rfl,hq⟩:=T9;have HP:Hid _:=hq;obtain⟨K',GO,hce,hnt,-,-⟩:=hq;have HG:Hid _:=hg;clear GO hce hg;refine Z_.go λhHeld=>?_;clear Z_ Y_;refine DT ?_;have hnn:=rQ (w:=w6) (VJ fb 0);go_wp2
          go_roundg gj
          case measure=>omega
          case rel=>
           exact ag2
         | on m' fuel' Sf=>
          rw[hg]at T9;obtain⟨rfl,K',bs',h6⟩:=T9;have hc:=(h6.dead fb rfl).2.2.2;have hY:=HX.o;rw[hg]at hY;obtain⟨-,i_,WD,mL,-,xr⟩:=hY;obtain⟨D4,rS⟩:=xr
          cases Sf with
          | nil=>exact i_.2.1.elim
          | cons g gs=>
           cases bs' with
           | nil=>exact absurd h6.len Vy
           | cons q bs'=>
            exact am2
       case Wd2=>
        refine Vg ?_;intro hHeld;clear Z_ Y_
        try refine UE ?_
        refine yF ?_;intro hHeld;refine BD ?_;refine Ul 14 λY_ Z_=>?_;refine Vg ?_;intro hHeld;clear Z_ Y_;refine Um ?_;go_wp2_with fail;obtain⟨W3,hW3⟩:∃W3,W3=w3.setCell (VJ fb 10) (VI ((f.pc:Int)+1)):=Vx;refine ahz ?_;intro h3 So;obtain⟨W5,MU⟩:∃W5,W5=W3.alloc (.cells (TQ x.1 pl) 146):=Vx;have B:=(h3.look (Df:=λk=>k=fb) (λk e=>aik)).box x.1 pl MU;unfold TQ at MU;rw[<- MU,So];obtain⟨zb,hzb⟩:∃zb,zb=W3.heap.size:=Vx;have hat:=B.blk;rw[<- hzb]at hat;rw[<- hzb];obtain⟨kd,o_⟩:∃kd,kd=kindOf x.1.k:=Vx;refine amd ?_;intro b0 b1 b2 b3 b4 b5 bd JP hent;rw[<- o_]at hkr;obtain⟨hk1,hk2⟩:=hkr;unfold Uo TQ at JP hent;rw[<- o_]at JP hent ⊢;have hk3:(kd:Int)<23:=VH;clear B h3 hW3 MU So hat hzb o_ d0 dp dm g0 g1 g2 g3 g4 g5 hgl eN eO eE H3 uf;refine ajJ ?_;intro hHeld;refine(ZO (o:=_) rfl (λY_ Z_=>?Wx1) (ZO (o:=_) rfl (λY_ Z_=>?cB) ZA))
        case' Wx1=>
         refine Vg ?_;intro hHeld;clear Z_ Y_
         try refine UE ?_
         refine Ur 5 ?_;refine Zv (rs:=[6,8]) VE Vy ?_;refine(ZO (o:=_) rfl (λY_ Z_=>?Wy1) (ZO (o:=_) rfl (λY_ Z_=>?bu) ZA))
         case' Wy1=>
          refine Vg ?_;intro hHeld;clear Z_ Y_
          try refine UE ?_
          refine BJ ?_;intro hHeld
          try refine UE ?_
          refine ?ly
         case' bu=>
          refine Vg ?_;intro hHeld;clear Z_ Y_
          try refine UE ?_
          refine Bf ?_;intro hHeld;refine ?ly
        case' cB=>
         refine Vg ?_;intro hHeld;clear Z_ Y_
         try refine UE ?_
         refine Ul 2 λY_ Z_=>?_;refine Vg ?_;intro hHeld;clear Z_ Y_
         try refine UE ?_
         refine Ur 5 ?_;refine Bf ?_;intro hHeld;refine ?lx
        all_goals
         refine Ul 9 λY_ Z_=>?_;go_simp;refine JP.mono ?_;intro e w6 T9;clear JP hent b0 b1 b2 b3 b4 b5 bd hk1 hk2 hk3 kA
         cases hg:VA m fu x.1 {f with pc:=f.pc+1} fs with
         | stop m' n'=>
          exact anW
         | told m' v=>
          rw[hg]at T9;obtain⟨rfl,hq⟩:=T9;have HP:Hid _:=hq;obtain⟨K',GO,hce,hnt,-,-⟩:=hq;have HG:Hid _:=hg;clear GO hce hg;refine Z_.go λhHeld=>?_;clear Z_ Y_;refine DT ?_;have hnn:=rQ (w:=w6) (VJ fb 0);go_wp2
          go_roundg gj
          case measure=>omega
          case rel=>
           exact ag2
         | on m' fuel' Sf=>
          rw[hg]at T9;obtain⟨rfl,K',bs',h6⟩:=T9;have hc:=(h6.dead fb rfl).2.2.2;have hY:=HX.o;rw[hg]at hY;obtain⟨-,i_,WD,mL,-,xr⟩:=hY;obtain⟨D4,rS⟩:=xr
          cases Sf with
          | nil=>exact i_.2.1.elim
          | cons g gs=>
           cases bs' with
           | nil=>exact absurd h6.len Vy
           | cons q bs'=>
            exact am2
  . have ct:wr.cell? (VJ rb 24)=some (.pointer none):=by obtain⟨_,_,_,_,h,_⟩:=hp;exact h
    obtain⟨_,hp⟩:=hp;have HP:Hid _:=hp;subst hR;clear hp;go_wp2
    go_end0
    exact⟨rfl,HP.o⟩
def run_get (b fuel k:Nat)(h1:1<=k)(h2:k<23):(Fp b fuel)[1+k]?=some (.func (.func (doF k)) #[] #[]):=by
 obtain rfl|rfl|rfl|rfl|rfl|rfl|rfl|rfl|rfl|rfl|rfl|rfl|rfl|rfl|rfl|rfl|rfl|rfl|rfl|rfl|rfl|rfl:k=1\/k=2\/k=3\/k=4\/k=5\/k=6\/k=7\/k=8\/k=9\/k=10\/k=11\/k=12\/k=13\/k=14\/k=15\/k=16\/k=17\/k=18\/k=19\/k=20\/k=21\/k=22:=VH
 all_goals rfl
def dA (W:World)(b fuel:Nat):SS (W.alloc (.cells (Fp b fuel) 174)) b W.heap.size none 0 fuel:=by
 have hb:=(Z4 W (.cells (Fp b fuel) 174)).1;have hc:∀o,(W.alloc (.cells (Fp b fuel) 174)).cell? (VJ W.heap.size o)=(Fp b fuel)[o]?:=λo=>by simp only[World.cell?,hb];rfl
 exact⟨⟨_,hb,rfl⟩,(hc 0).trans rfl,λk h1 h2=>(hc _).trans (run_get b fuel k h1 h2),(hc 24).trans rfl,(hc 25).trans rfl,(hc 26).trans rfl⟩
def bT (W:World)(b fuel:Nat):World:=(W.alloc (.cells QA 170)).alloc (.cells (Fp b fuel) 174)
def Bz (W:World)(b fuel:Nat):Below W.heap.size W (bT W b fuel):=below2 _ _ _
variable {m : Im}
variable {K : Kd}
def abd {W:World}(h:Ud W m K)(fuel:Nat):Sg NoD W m K (W.heap.size+1) (bT W K.b fuel) m K fuel [] []:=by
 have hz:(W.alloc (.cells QA 170)).heap.size=W.heap.size+1:=Vy;have hr:=dA (W.alloc (.cells QA 170)) K.b fuel;rw[hz]at hr;refine⟨Step.below h (Bz _ _ _),hr,trivial,rfl,Vy,λk hk=>?_,h.ok,λf hf=>(Zx hf).elim,λk hk=>hk.elim⟩;simp only[Xj,WJ]at hk;subst hk;exact⟨VH,by simp[bT],λe=>by have:=h.lt e;omega⟩
variable {Dd : Nat -> Prop}
variable {bs : List (Nat × Nat)}
variable {fs : List Fr}
def l7 {rb:Nat}{fuel:Nat}(h:Sg Dd w0 m0 K0 rb w m K fuel bs fs)(s:ByteArray):
 Calls prog 90 #[] w λe w'=>∃p,e=.returned (VG p)/\Sg Dd w0 m0 K0 rb w' m (K.nowhere p s) fuel bs fs/\(p,s)∈(K.nowhere p s).k.L/\Below w.heap.size w w':=
 (FD w).mono (by rintro e w' ⟨rfl,rfl⟩;exact⟨_,rfl,h.img (h.Qj.Ub.nowhere s),XZ ..,(ZR _ _).alloc UM _⟩)
def EK:SN->Vl×Int×Im
 | .told m v=>(v,0,m)
 | .stop m e=>(Vl.zero,e,m)
 | .on m _ _=>(Vl.zero,0,m)
def aeB (w:World)(m:Im)(K:Kd)(R:SN)(e:Ending)(w':World):Prop:=∃K',e=.returned (.tuple #[(EK R).1.val,VI (EK R).2.1])/\Step w w' m K (EK R).2.2 K'
structure PQ (s1 s2:Nat)(ds:List Deferred)(a:Act):Prop where
 t10:a.tmps.getD 10 undef=(VG s1)
 t11:a.tmps.getD 11 undef=(VG s2)
 df:a.defers=ds
def pq (Q:Exit->Act->World->Prop)(s1 s2:Nat)(ds:List Deferred)(Y:List PanicEntry->World->Prop):Exit->Act->World->Prop
 | .panic c,a,w=>PQ s1 s2 ds a/\Y c w
 | e,a,w=>Q e a w
def akO {Q:Exit->Act->World->Prop}{s1 s2:Nat}{ds:List Deferred}{Y:List PanicEntry->World->Prop}{c:List PanicEntry}{a:Act}{d:Option Tmp}{v:Value}(hd:d≠some 10/\d≠some 11)(h:pq Q s1 s2 ds Y (.panic c) (a.put d v) w):pq Q s1 s2 ds Y (.panic c) a w:=by
 obtain⟨⟨h1,h2,h3⟩,hy⟩:=h
 cases d with
 | none=>exact⟨⟨h1,h2,h3⟩,hy⟩
 | some t=>
  have e1:t≠10:=λe=>hd.1 pI;have e2:t≠11:=λe=>hd.2 pI;refine⟨⟨?_,?_,h3⟩,hy⟩
  . rw[<- h1];simp[Act.put,Yn,e1]
  . rw[<- h2];simp[Act.put,Yn,e2]
def cu {Q:Exit->Act->World->Prop}{s1 s2:Nat}{ds:List Deferred}{Y:List PanicEntry->World->Prop}{a:Act}(h:Q .normal a w):pq Q s1 s2 ds Y .normal a w:=h
def amT {P:Program}{c:Code}{Q:Exit->Act->World->Prop}{a:Act}(s1 s2:Nat)(ds:List Deferred)(Y:List PanicEntry->World->Prop)(hq:∀a c w,PQ s1 s2 ds a->Y c w->Q (.panic c) a w)(h:c.wp P (pq Q s1 s2 ds Y) a w):c.wp P Q a w:=
 Code.wp_mono (λe a w he=>by cases e<;>first|exact he|exact hq _ _ _ he.1 he.2) h
def fE {tmps:Array Value}{s1 s2:Nat}(v0 v1 v:Value)(h10:tmps.getD 10 undef=(VG s1))(h11:tmps.getD 11 undef=(VG s2))(z0:w.cell? (VJ s1 0)=some v0)(z1:w.cell? (VJ s1 1)=some v1)(z2:w.cell? (VJ s2 0)=some v):
 (results f48 tmps).run prog w=.ok (.tuple #[.agg #[v0,v1],v]) w:=by
 have hp2:tmps[10]?.getD undef=(VG s1):=by rw[<- h10];simp
 have hk2:tmps[11]?.getD undef=(VG s2):=by rw[<- h11];simp
 simp[results,results48,hp2,hk2,go_sem,z0,z1,z2]
def apE (W3:World)(m:Im)(K:Kd)(R:SN)(c:List PanicEntry)(w':World):Prop:=∃n m' K',c=Jc n/\R=.stop m' n/\Step W3 w' m K m' K'
def dfs (s2:Nat):List Deferred:=[{target:=Target.fn (Fn.func 87) #[VG s2],args:=#[]}]
variable {m' : Im}
variable {K' : Kd}
def FB {w W3 w':World}{tmps:Array Value}{s1 s2:Nat}{n:Int}(hk:Ud w m K)(h3:Step w W3 m K m K)(Rv:w.heap.size<=s1/\s1<W3.heap.size)(hl2:w.heap.size<=s2/\s2<W3.heap.size)(hne:s1≠s2)(b1:W3.heap[s1]?=some (.cells #[.bool false,VI 0] 33))(b2:W3.heap[s2]?=some (.cells #[VI 0] 3))
 (h10:tmps.getD 10 undef=(VG s1)) (h11:tmps.getD 11 undef=(VG s2)) (hst:Step W3 w' m K m' K'):
 Leaves prog f48 tmps (aeB w m K (.stop m' n)) (dfs s2) (.panicking (Jc n)) w':=by
 have sk:¬U2 m K s1:=λe=>by have:=hk.lt e;omega
 have v6:¬U2 m K s2:=λe=>by have:=hk.lt e;omega
 have c1:=(hst.Ut.block s1 Rv.2 sk).trans b1;have c2:=(hst.Ut.block s2 hl2.2 v6).trans b2;have z2:w'.cell? (VJ s2 0)=some (VI 0):=by simp only[World.cell?,c2];rfl
 have z0:w'.cell? (VJ s1 0)=some (.bool false):=by simp only[World.cell?,c1];rfl
 have z1:w'.cell? (VJ s1 1)=some (VI 0):=by simp only[World.cell?,c1];rfl
 have e2:(VJ s2 0)≠(VJ s1 0):=λe=>by injection e with e _ _;exact hne e.symm
 have e3:(VJ s2 0)≠(VJ s1 1):=λe=>by injection e with e _ _;exact hne e.symm
 refine leaves_cons (f:=87) (args:=#[VG s2]) Vy lK ?_;refine(caught (VJ s2 0) 0 n [] w' z2 (UL.free ⟨_,_,c2⟩ 0)).mono ?_;rintro e u' w'' ⟨rfl,rfl,rfl⟩;refine⟨_,fE (.bool false) (VI 0) (VI n) h10 h11 ((VD e2).trans z0) ((VD e3).trans z1) (Vr z2),K',rfl,?_⟩;refine(h3.trans hst).aside (S:=λk=>k=s2) ((Vt.refl _ _).setCell _ _ (λ_=>rfl)) (λk e=>⟨by rw[e];exact hl2.1,λef=>?_⟩) (λk hg=>hk.J7.lt hg);rw[e]at ef;rcases hst.foot _ ef with e|e
 . exact v6 e
 . omega
variable {w' : World}
def tJ {tmps:Array Value}{s1 s2:Nat}{v:Vl}(h10:tmps.getD 10 undef=(VG s1))(h11:tmps.getD 11 undef=(VG s2))(hst:Step w w' m K m' K')(z0:w'.cell? (VJ s1 0)=some (.bool v.obj))(z1:w'.cell? (VJ s1 1)=some (VI v.n))(z2:w'.cell? (VJ s2 0)=some (VI 0)):
 Leaves prog f48 tmps (aeB w m K (.told m' v)) (dfs s2) .returning w':=by
 refine leaves_cons (f:=87) (args:=#[VG s2]) Vy lK ?_;refine(idle (VJ s2 0) w').mono ?_;rintro e u' w'' ⟨rfl,rfl,rfl⟩;exact⟨_,fE _ _ _ h10 h11 z0 z1 z2,K',rfl,hst⟩
def qA (h:Ud w m K)(to:Vl)(X_:TF m to)(sel:ByteArray)(hs:sel.size<=1000){av:Value}{args:List Vl}{ab:Nat}(W8:UH w av args ab)(hab:args≠[]->ab<w.heap.size/\¬U2 m K ab)(h3:args.length<=3)(hargs:∀v∈args,TF m v)(hsl:selector (bl sel)=true->args.length=U6 (bl sel))(fuel:Nat)(hf:fuel<=3000)(R:SN)(hR:R=runM (2*fuel+64) (m.send fuel (m.of to) to sel args [])):
 Calls prog 48 #[VG K.b,to.val,.string sel,av,VI (fuel:Nat)] w (aeB w m K R):=by
 obtain⟨W3,hW3⟩:∃W3,W3=((w.alloc (.cells #[.bool to.obj,VI to.n] 33)).alloc (.cells #[.bool false,VI 0] 33)).alloc (.cells #[VI 0] 3):=Vx;have j_:Below w.heap.size w W3:=by rw[hW3];exact(below2 _ _ _).alloc Vo _
 have hz3:W3.heap.size=w.heap.size+3:=by rw[hW3];simp
 have b0:W3.heap[w.heap.size]?=some (.cells #[.bool to.obj,VI to.n] 33):=by
  rw[hW3,ZV _ _ _ Vo,ZV _ _ _ Vy];exact(Z4 w _).1
 have b1:W3.heap[w.heap.size+1]?=some (.cells #[.bool false,VI 0] 33):=by
  rw[hW3,ZV _ _ _ Vy];exact amN
 have b2:W3.heap[w.heap.size+2]?=some (.cells #[VI 0] 3):=by
  rw[hW3];have:=(Z4 ((w.alloc (.cells #[.bool to.obj,VI to.n] 33)).alloc (.cells #[.bool false,VI 0] 33)) (.cells #[VI 0] 3)).1;exact gu
 have h1:=h.below j_;have xo:=abd h1 fuel;obtain⟨rb,Bm⟩:∃rb,rb=W3.heap.size+1:=Vx;rw[<- Bm]at xo;obtain⟨W5,MU⟩:∃W5,W5=bT W3 K.b fuel:=Vx;rw[<- MU]at xo;have lO:Below W3.heap.size W3 W5:=by rw[MU];exact Bz _ _ _
 have Ni:W5.heap.size=W3.heap.size+2:=by rw[MU];simp[bT]
 have HR:Hid _:=hR;clear hR;unfold Vl.val
 go_enter_defers func48,ntmps48
 go_wp2_with fail;refine(jA _).mono ?_;rintro e wd ⟨rfl,rfl⟩;rw[<- hW3];rename_i K1 Sp K2 hK2;refine hK2 _ _ (Xm (λK3 hK3=>?_));rw[ZU VE];refine Pn (r':=.ok (.value (VI (fuel:Nat))) (W3.alloc (.cells QA 170))) VE ?_;refine hK3 _ _ (Xm (λK4 hK4=>?_));rw[ZU VE];refine Pn (r':=.ok (.value (.agg (Fp K.b fuel))) (W3.alloc (.cells QA 170))) VE ?_;refine hK4 _ _ (Xm (λK5 ec=>?_));rw[ZU VE];refine Pn (r':=.ok (.value (VG rb)) W5) ?_ ?_
 . rw[Bm,MU];unfold bT;rw[show W3.heap.size+1=(W3.alloc (.cells QA 170)).heap.size by simp];kernel_rfl
 refine ec _ _ (Xm (λK6 wy=>?_));rw[ZU VE];refine Pn (r':=.ok (.value (VG rb)) W5) VE ?_;refine wy _ _ (wpList_nil ?_);refine Sp _ _ ?_;clear Sp hK2 hK3 hK4 ec wy K1 K2 K3 K4 K5 K6;refine MC ?_;generalize Value.agg QA=vda;generalize Value.agg (Fp K.b fuel)=vrc;have y0:=xo.run.c0;have l0:w.heap.size<W5.heap.size:=VH;have l1:=xo.run.Vb.lt;have hkb:∀k,k<W3.heap.size->W5.heap[k]?=W3.heap[k]?:=λk hk=>lO.block k hk;have v0:W5.cell? (VJ w.heap.size 0)=some (.bool to.obj):=by simp only[World.cell?,hkb _ (show w.heap.size<W3.heap.size by omega),b0];rfl
 have v1:W5.cell? (VJ w.heap.size 1)=some (VI to.n):=by simp only[World.cell?,hkb _ (show w.heap.size<W3.heap.size by omega),b0];rfl
 have Wg:Hid (∀k,U2 m K k->k<w.heap.size):=by
  have hx:∀k,U2 m K k->k<w.heap.size:=λk e=>h.lt e;exact hx
 have HZ:Hid (W3.heap.size=w.heap.size+3/\rb=W3.heap.size+1/\W5.heap.size=W3.heap.size+2/\Below w.heap.size w W3/\Below W3.heap.size W3 W5):=⟨hz3,Bm,Ni,j_,lO⟩
 have HB:Hid (W3.heap[w.heap.size+1]?=some (.cells #[.bool false,VI 0] 33)/\W3.heap[w.heap.size+2]?=some (.cells #[VI 0] 3)):=⟨b1,b2⟩
 have HS:Hid _:=xo
 have HA:Hid (UH w av args ab/\(args≠[]->ab<w.heap.size/\¬U2 m K ab)):=⟨W8,hab⟩
 have HO:Hid _:=hsl
 have HV:Hid (TF m to/\(∀v∈args,TF m v)):=⟨X_,hargs⟩
 have HK:Hid (Ud w m K/\Ud W3 m K):=⟨h,h1⟩
 have n0:¬rb=w.heap.size:=VH;clear hW3 hz3 Bm MU Ni j_ lO hkb b0 b1 b2 xo W8 hab hsl X_ hargs h h1;go_wp2_with fail;refine amT (w.heap.size+1) (w.heap.size+1+1) (dfs (w.heap.size+1+1)) (apE W3 m K R) ?_ ?_
 . rintro a c w' ⟨h10,h11,hd⟩ ⟨n,m',K',rfl,rfl,hst⟩;obtain⟨e1,e2,e3,hb3,hb5⟩:=HZ.o;show Leaves _ _ _ _ _ _ _;rw[hd];exact FB HK.o.1 (Step.below HK.o.1 hb3) mF mF VH HB.o.1 HB.o.2 h10 h11 hst
 refine ZT (S:=(λw'=>w'.cell? (VJ rb 0)=some (VG K.b)/\w'.cell? (VJ w.heap.size 0)=some (.bool to.obj)/\w'.cell? (VJ w.heap.size 1)=some (VI to.n))) VE UG (λhHeld=>?_);refine Ze (i:=0) (oi:=_) (v:=?_) rfl VE VE VE Jw (W9 ⟨by rfl,?_⟩) Ox ?_
 rotate_left
 . exact JL
 refine Ze (i:=2) (oi:=_) (v:=?_) rfl VE VE VE Jw (W9 ⟨by rfl,?_⟩) Ox ?_
 rotate_left
 . exact JL
 refine Ze (i:=3) (oi:=_) (v:=?_) rfl VE VE VE Jw (W9 ⟨by rfl,?_⟩) Ox ?_
 rotate_left
 . exact JL
 refine Ze (i:=4) (oi:=_) (v:=?_) rfl VE VE VE Jw (W9 ⟨by rfl,?_⟩) Ox ?_
 rotate_left
 . exact JL
 refine Ze (i:=5) (oi:=_) (v:=?_) rfl VE VE VE Jw (W9 ⟨by rfl,?_⟩) Ox ?_
 rotate_left
 . exact JL
 refine Ze (i:=6) (oi:=_) (v:=?_) rfl VE VE VE Jw (W9 ⟨by rfl,?_⟩) Ox ?_
 rotate_left
 . exact JL
 refine Ze (i:=8) (oi:=_) (v:=?_) rfl VE VE VE Jw (W9 ⟨by rfl,?_⟩) Ox ?_
 rotate_left
 . exact JL
 refine Ze (i:=10) (oi:=_) (v:=?_) rfl VE VE VE Jw (W9 ⟨by rfl,?_⟩) Ox ?_
 rotate_left
 . exact JL
 refine Ze (i:=11) (oi:=_) (v:=?_) rfl VE VE VE Jw (W9 ⟨by rfl,?_⟩) Ox ?_
 rotate_left
 . exact JL
 refine MC ?_;refine Ul 1 λY_ Z_=>?_;go_simp;refine(l7 (HS.o.below (ZR _ _).drew) sel).mono ?_;rintro e w6 ⟨p,rfl,h10,hp,Pw⟩;have T0:=RH Pw;have o4:=(T0.cell (p:=(VJ rb 0)) l1).trans y0;have oX:=(T0.cell (p:=(VJ w.heap.size 0)) l0).trans v0;have v16:=(T0.cell (p:=(VJ w.heap.size 1)) l0).trans v1
 try go_wp2_with fail
 refine Z_.go λhHeld=>?_;clear Z_ Y_
 try refine UE ?_
 have l16:=h10.run.Vb.lt;have ln:=ZY l0 T0.size;have Bu:=E5 h10.Qj.Ub to HV.o.1;rw[show (K.nowhere p sel).b=K.b from rfl,show (K.nowhere p sel).cb=K.cb from rfl]at Bu;unfold Vl.val at Bu
 have H6:Hid (Sg NoD W3 m K rb w6 m (K.nowhere p sel) fuel [] []/\(p,sel)∈(K.nowhere p sel).k.L/\Below W5.heap.size W5 w6):=⟨h10,hp,T0⟩
 clear h10 hp Pw T0 y0 v0 v1 l0 l1;refine Ul 7 λY_ Z_=>?_;go_simp;refine Bu.mono ?_;rintro e w6 ⟨rfl,Pw⟩;have y0:=(Pw.cell (p:=(VJ rb 0)) l16).trans o4;have v0:=(Pw.cell (p:=(VJ w.heap.size 0)) ln).trans oX;have v1:=(Pw.cell (p:=(VJ w.heap.size 1)) ln).trans v16
 try go_wp2_with fail
 refine Z_.go λhHeld=>?_;clear Z_ Y_
 try refine UE ?_
 have h10:=H6.o.1.below Pw
 have HW:Hid (Below w.heap.size w w6):=by
  have hx:=HZ.o.2.2.2.1.trans ((HZ.o.2.2.2.2.trans (H6.o.2.2.mono aa6)).trans (Pw.mono (ZC aa6 H6.o.2.2.size)) |>.mono (by have:=HZ.o.1;omega));exact hx
 have hfn:∀k,U2 m (K.nowhere p sel) k->U2 m K k\/W3.heap.size<=k:=λk e=>h10.Qj.foot k e
 have w_:=Gp h10 HK.o.2.J7 H6.o.2.1 (m.of to) (of_lt h10.ok HV.o.1) hs to (HA.o.1.same (λhn=>HW.o.block ab (HA.o.2 hn).1)) (λhn=>⟨ZY (HA.o.2 hn).1 HW.o.size,λe=>by have:=(HA.o.2 hn).1;have:=HZ.o.1;have:=HZ.o.2.1;omega,λe=>by
  rcases hfn ab e with e|e
  . exact(HA.o.2 hn).2 e
  . have:=(HA.o.2 hn).1;have:=HZ.o.1
    omega⟩) h3 Vy
 rw[show (K.nowhere p sel).cb=K.cb from rfl]at w_;unfold Vl.val at w_;have l0:=ZY ln Pw.size;clear Bu Pw h10 hfn o4 oX v16;refine Ze (i:=9) (oi:=_) (v:=?_) rfl VE VE VE Jw (W9 ⟨by rfl,?_⟩) Ox ?_
 rotate_left
 . exact JL
 refine MC ?_;refine Ul 12 λY_ Z_=>?_;refine FT ?_;rintro e w6 ⟨T9,Z2⟩
 cases hg:m.send fuel (m.of to) to sel args []with
 | told m' v=>exact absurd hg (yu _ _ _ _ _ _ _ _ _)
 | stop m' n'=>
  rw[hg]at T9;obtain⟨rfl,K',hst⟩:=T9;exact⟨vg,n',m',K',rfl,by rw[HR.o,hg,run_stop],hst⟩
 | on m' fuel' Sf=>
  rw[hg]at T9;obtain⟨rfl,K',bs',h10⟩:=T9;have Z2:=Z2 rfl
  have hvb:=Z2 w.heap.size l0 (λe=>by
   rcases H6.o.1.Qj.foot _ e with e|e
   . have:=Wg.o _ e;omega
   . have:=HZ.o.1
     omega) (λe=>n0 e.symm)
  have o4:=ahe HS.o h10;have oX:=(Z9 (a:=(VJ w.heap.size 0)) hvb).trans v0;have v16:=(Z9 (a:=(VJ w.heap.size 1)) hvb).trans v1;have hsz:=vN m fuel (m.of to) to sel args [];have hok:=En HK.o.1.ok fuel (m.of to) to sel args [] HV.o.1 HV.o.2 h3 HO.o (IL HK.o.1.ok HV.o.1) (λg hg=>(Zx hg).elim) Vy;rw[hg]at hsz hok
  have hfo:FOn W3 m K rb R (2*fuel+64) w6:=⟨m',K',fuel',bs',Sf,h10,hok,by rw[hsz.1];exact hf,ahk,by rw[HR.o,hg]⟩
  have hfr:=nV HK.o.2.J7 R w6 _ hfo
  have HE:Hid (∀m' fu fs,R≠.on m' fu fs):=by
   have hx:∀m2 fu fs,R≠.on m2 fu fs:=λm2 fu fs=>by
    rw[HR.o,hg];exact Dl _ _ _ _ ahk _ _ _
   exact hx
  clear h10 Z2 w_ hvb hsz hok hfo hg y0 v0 v1;refine Z_.go λhHeld=>?_;clear Z_ Y_;refine DT ?_;clear o4 oX v16;refine cu ?_;go_wp2_with fail;refine hfr.mono ?_;intro e w6 T9;clear hfr;obtain⟨e1,e2,e3,hb3,hb5⟩:=HZ.o
  cases R with
  | on m2 fu fs=>exact absurd rfl (HE.o m2 fu fs)
  | stop m2 n2=>
   obtain⟨rfl,K2,hst⟩:=T9;exact FB HK.o.1 (Step.below HK.o.1 hb3) mF mF VH HB.o.1 HB.o.2 rfl rfl hst
  | told m2 v=>
   obtain⟨rfl,K2,hst,XX,ct,c27,c27⟩:=T9;have sk:¬U2 m K (w.heap.size+1):=λe=>afu;have v6:¬U2 m K (w.heap.size+1+1):=λe=>afu;have d1:=(hst.Ut.block (w.heap.size+1) VH sk).trans HB.o.1;have d2:=(hst.Ut.block (w.heap.size+1+1) VH v6).trans HB.o.2;have z0:w6.cell? (VJ (w.heap.size+1) 0)=some (.bool false):=by simp only[World.cell?,d1];rfl
   have z1:w6.cell? (VJ (w.heap.size+1) 1)=some (VI 0):=by simp only[World.cell?,d1];rfl
   have z2:w6.cell? (VJ (w.heap.size+1+1) 0)=some (VI 0):=by simp only[World.cell?,d2];rfl
   have f1:∀o,w6.frozen? (VJ (w.heap.size+1) o)=false:=λo=>UL.free ⟨_,_,d1⟩ o;have f1:∀o,w6.frozen? (VJ (w.heap.size+1+1) o)=false:=λo=>UL.free ⟨_,_,d2⟩ o;have HQ:=UQ ((Step.below HK.o.1 hb3).trans hst)
   have HN:Hid (¬U2 m2 K2 (w.heap.size+1)/\¬U2 m2 K2 (w.heap.size+1+1)):=by
    have hx:¬U2 m2 K2 (w.heap.size+1)/\¬U2 m2 K2 (w.heap.size+1+1):=⟨λe=>by
     rcases hst.foot _ e with e|e
     . exact sk e
     . omega,λe=>by
     rcases hst.foot _ e with e|e
     . exact v6 e
     . omega⟩
    exact hx
   clear hst XX d1 d2 sk v6 e1 e2 e3 hb3 hb5 ct;go_wp2;have a1:(VJ (w.heap.size+1) 1)≠(VJ (w.heap.size+1) 0):=λe=>by injection e with _ e _;cases e
   have a2:∀o,(VJ (w.heap.size+1+1) 0)≠(VJ (w.heap.size+1) o):=λo e=>by injection e with e _ _;omega
   have a3:∀o,(VJ (w.heap.size+1) o)≠(VJ (w.heap.size+1+1) 0):=λo e=>by injection e with e _ _;omega
   refine tJ (K':=K2) rfl rfl ?_ ((VD (a2 0)).trans ((VD a1).trans (Vr z0))) ((VD (a2 1)).trans (Vr ((VD (λe=>a1 e.symm)).trans z1))) (Vr ((VD (a3 1)).trans ((VD (a3 0)).trans z2)));refine HQ.o.aside (S:=λk=>k=w.heap.size+1\/k=w.heap.size+1+1) ((((Vt.refl _ _).setCell _ _ Dx).setCell _ _ Dx).setCell _ _ (λ_=>.inr rfl)) (λk e=>?_) (λk hg=>HK.o.1.J7.lt hg);rcases e with e|e<;>subst e
   . exact⟨VH,HN.o.1⟩
   . exact⟨VH,HN.o.2⟩
end Go.Proofs.Rz
namespace Go.Proofs.Rz
open ChangeShapes WideShapes ChangeAt RowKit Kn Iz Tryz
def Pz (m:Im)(v:Vl):Bool:=v.obj&&!m.there v.n
variable {w : World}
variable {m : Im}
variable {K : Kd}
def zo (h:Ud w m K)(v:Vl):
 Calls prog 46 #[VG K.b,v.val] w λe w'=>e=.returned (.bool (Pz m v))/\Below w.heap.size w w':=by
 have hb:Below w.heap.size w (w.alloc (.cells #[.bool v.obj,VI v.n] 33)):=(ZR _ w).alloc UM _;obtain⟨p,cap,hv,hf⟩:=(h.below hb).obs.form;have c1:=(h.below hb).hd.c1;rw[hv]at c1;have hcall:=yB h.ok.objs c1 v.n;have HB:Hid _:=hb;obtain⟨bo,n⟩:=v;unfold Vl.val Pz Im.there;clear hb hf;cases bo
 . clear hcall;go_enter func46,ntmps46;go_wp2
   go_ret
   exact⟨Vy,HB.o⟩
 . obtain⟨t,ht⟩:∃t,t=(decide (0<=n)&&decide (n<(m.obs.length:Int))):=Vx;simp only[<- ht]at hcall ⊢;clear ht;go_enter func46,ntmps46;go_wp2_with fail;refine hcall.mono ?_;rintro e w2 ⟨rfl,rfl⟩;go_wp2
   go_ret
   exact⟨Vy,HB.o⟩
def bH (args:Array Value)(W:World):(callFunc 46 args).run prog W=.ok (.enter 46 args) W:=lK
def qc (h:Ud w m K){ap:Option Addr}{cap:Nat}{args:List Vl}{ab:Nat}(W8:UH w (.slice ap args.length cap) args ab)(hab:args≠[]->ab<w.heap.size)(h3:args.length<=3):
 Calls prog 86 #[.slice ap args.length cap,.func (.func 46) #[VG K.b] #[]] w λe w'=>∃r:Int,e=.returned (VI r)/\Below w.heap.size w w'/\decide (0<=r)=args.any (Pz m):=by
 have HT:Hid (Ud w m K/\UH w (.slice ap args.length cap) args ab/\(args≠[]->ab<w.heap.size)):=⟨h,W8,hab⟩
 obtain⟨n,hn⟩:∃n,n=args.length:=Vx;rw[<- hn]at h3 ⊢;have HN:Hid _:=hn;clear h W8 hab hn;go_enter func86,ntmps86;go_wp2
 go_loopw [8] (λi wr=>∃k:Nat,i=VI k/\k<=n/\(∀i v,i<k->args[i]?=some v->Pz m v=false)/\Below w.heap.size w wr) (λi _=>n-(intOf i).toNat)
 case atStart=>exact⟨0,rfl,VH,λi v hi=>VH,ZR _ _⟩
 case round=>
  obtain⟨k,rfl,hk,hno,hb⟩:=hrel
  have HR:Hid ((∀i v,i<k->args[i]?=some v->Pz m v=false)/\Below w.heap.size w wr):=⟨hno,hb⟩
  clear hno;by_cases hkn:k<n
  . obtain⟨v,hv⟩:∃v,args[k]?=some v:=⟨_,Z8 (by rw[<- HN.o];exact hkn)⟩
    have hne:args≠[]:=λe=>qN;obtain⟨o,had,hget⟩:=KL HT.o.2.1 hne;obtain⟨c0,c1⟩:=hget k v hv;have hlb:=HT.o.2.2 hne;have c0:=(hb.cell (p:=(VJ ab (o+k*2))) hlb).trans c0;have c1:=(hb.cell (p:=(VJ ab (o+k*2+1))) hlb).trans c1;have hent:=bH;have n_:=zo (HT.o.1.below hb) v;unfold Vl.val at n_;have HV:Hid _:=hv;subst had;have hadd:(VJ ab o).add (k*2)=(VJ ab (o+k*2)):=XJ _ _ _;clear hb hv hget hne hlb;go_wp2_with fail;refine n_.mono ?_;rintro e w2 ⟨rfl,hb2⟩;have Uv:=UQ (HR.o.2.trans (hb2.mono HR.o.2.size));clear hb2 c0 c1 n_ hent
    cases hp:Pz m v with
    | true=>
     have HP:Hid _:=hp;clear hp;go_wp2
     go_ret
     refine⟨k,rfl,Uv.o,?_⟩;rw[Xh (by omega:(0:Int)<=k)];exact(V8.2 ⟨v,ZK HV.o,HP.o⟩).symm
    | false=>
     have HP:Hid _:=hp;clear hp;go_wp2
     go_roundw
     case rel=>
      refine⟨k+1,Uu,VH,λi u hi hu=>?_,Uv.o⟩;by_cases e:i=k
      . subst e;have:=HV.o.symm.trans hu;injection this with this;rw[<- this];exact HP.o
      . exact HR.o.1 i u VH hu
     case measure=>simp[intOf]<;>omega
  . obtain rfl:k=n:=by omega
    clear hb;go_wp2
    go_ret
    refine⟨-1,rfl,HR.o.2,?_⟩
    have:args.any (Pz m)=false:=by
     rw[List.any_eq_false];intro v hv;obtain⟨i,hi⟩:=Yd hv;rw[HR.o.1 i v (by have:=(Z7.1 hi).1;rw[HN.o];exact this) hi];simp
    rw[this];rfl
def Ci (h:Ud w m K){ap:Option Addr}{cap:Nat}{args:List Vl}{ab:Nat}(W8:UH w (.slice ap args.length cap) args ab)(hab:args≠[]->ab<w.heap.size)(h3:args.length<=3):
 Calls prog 47 #[.slice ap args.length cap,.func (.func 46) #[VG K.b] #[]] w λe w'=>e=.returned (.bool (args.any (Pz m)))/\Below w.heap.size w w':=by
 have hi:=qc h W8 hab h3;clear h W8 hab h3;go_enter func47,ntmps47;go_wp2_with fail;refine hi.mono ?_;rintro e w1 ⟨r,rfl,hb,hd⟩
 have HD:Hid (decide (0<=r)=args.any (Pz m)/\Below w.heap.size w w1):=⟨hd,hb⟩
 clear hd hb hi;go_wp2
 go_ret
 exact⟨by rw[<- HD.o.1];rfl,HD.o.2⟩
def aaJ (h:Ud w m K):Calls prog 29 #[VG K.b] w λe w'=>e=.returned (.tuple #[VI (Go.RowKit.wrap64 (m.looks:Nat)),VI (Go.RowKit.wrap64 (K.UC:Nat))])/\Below w.heap.size w w':=by
 have c2:=h.hd.c2;have c2:=h.hd.c3;clear h;go_enter func29,ntmps29;go_wp2_with fail
 go_region
 go_wp2
 go_ret2
 exact⟨rfl,(ZR _ _).drew⟩
def F6 {fn:Func}{p k l:Tmp}(h:fn.results=#[.cell p 33,.tmp k,.tmp l]){tmps:Array Value}{z:Nat}(v0 v1 v u:Value)(hp:tmps.getD p undef=(VG z))(hk:tmps.getD k undef=v)(hl:tmps.getD l undef=u)(z0:w.cell? (VJ z 0)=some v0)(z1:w.cell? (VJ z 1)=some v1):
 (results fn tmps).run prog w=.ok (.tuple #[.agg #[v0,v1],v,u]) w:=by
 exact al2
def af8 (w:World)(m:Im)(K:Kd)(r:Vl×Int×Int×Im)(e:Ending)(w':World):Prop:=∃K',e=.returned (.tuple #[r.1.val,VI r.2.1,VI r.2.2.1])/\Step w w' m K r.2.2.2 K'
structure Sn (w w':World)(to:Vl):Prop where
 bel:Below w.heap.size w w'
 lt:w.heap.size+2<=w'.heap.size
 b0:w'.heap[w.heap.size]?=some (.cells #[.bool to.obj,VI to.n] 33)
 b1:w'.heap[w.heap.size+1]?=some (.cells #[.bool false,VI 0] 33)
variable {w1 w2 : World}
def Sn.below {to:Vl}(h:Sn w w1 to)(hb:Below w1.heap.size w1 w2):Sn w w2 to:=
 ⟨h.bel.trans (hb.mono h.bel.size),ZC h.lt hb.size,(hb.block _ (by have:=h.lt;omega)).trans h.b0,(hb.block _ (by have:=h.lt;omega)).trans h.b1⟩
def Sn.new (w:World)(to:Vl):Sn w ((w.alloc (.cells #[.bool to.obj,VI to.n] 33)).alloc (.cells #[.bool false,VI 0] 33)) to:=by
 refine⟨below2 _ _ _,Vy,?_,?_⟩
 . rw[ZV _ _ _ Vy];exact(Z4 w _).1
 . exact amN
variable {w' : World}
def Sn.err {to:Vl}(h:Sn w w' to)(hk:Ud w m K)(e:Int):af8 w m K (Vl.zero,0,e,m) (.returned (.tuple #[.agg #[.bool false,VI 0],VI 0,VI e])) ((w'.setCell (VJ (w.heap.size+1) 0) (.bool false)).setCell (VJ (w.heap.size+1) 1) (VI 0)):=by
 refine⟨K,rfl,Step.below hk ?_⟩;exact(h.bel.setCell IB _).setCell IB _
def Sn.z0 {to:Vl}(h:Sn w w' to):w'.cell? (VJ (w.heap.size+1) 0)=some (.bool false):=by simp only[World.cell?,h.b1];rfl
def Sn.z1 {to:Vl}(h:Sn w w' to):w'.cell? (VJ (w.heap.size+1) 1)=some (VI 0):=by simp only[World.cell?,h.b1];rfl
def Sn.v0 {to:Vl}(h:Sn w w' to):w'.cell? (VJ w.heap.size 0)=some (.bool to.obj):=by simp only[World.cell?,h.b0];rfl
def Sn.v1 {to:Vl}(h:Sn w w' to):w'.cell? (VJ w.heap.size 1)=some (VI to.n):=by simp only[World.cell?,h.b0];rfl
def a01 (s:Nat):(VJ s 1)≠(VJ s 0):=λe=>by injection e with _ e _;cases e
def Sn.ret {to:Vl}(h:Sn w w' to)(hk:Ud w m K)(e:Int){r:Vl×Int×Int×Im}(hr:r=(Vl.zero,0,e,m)){a:Act}(hd:a.defers=[])(h10:a.tmps.getD 10 undef=(VG (w.heap.size+1)))(h11:a.tmps.getD 11 undef=VI 0)(h12:a.tmps.getD 12 undef=VI e):
 bodyPost prog f18 (af8 w m K r) .ret a ((w'.setCell (VJ (w.heap.size+1) 0) (.bool false)).setCell (VJ (w.heap.size+1) 1) (VI 0)):=by
 refine ZQ (F6 rfl _ _ _ _ h10 h11 h12 ((VD (a01 _)).trans (Vr h.z0)) (Vr ((VD (λe=>a01 _ e.symm)).trans h.z1))) hd ?_;rw[hr];exact h.err hk e
def aah (h:Ud w m K)(to:Vl)(X_:TB to.n)(sel:ByteArray)(hs:sel.size<=140737488355328){ap:Option Addr}{cap:Nat}{args:List Vl}{ab:Nat}(W8:UH w (.slice ap args.length cap) args ab)(hab:args≠[]->ab<w.heap.size/\¬U2 m K ab)(hargs:∀v∈args,TB v.n)(fuel:Int):
 Calls prog 18 #[VG K.b,to.val,.string sel,.slice ap args.length cap,VI fuel] w (af8 w m K (m.Uf to sel args fuel)):=by
 obtain⟨W2,hW2⟩:∃W2,W2=(w.alloc (.cells #[.bool to.obj,VI to.n] 33)).alloc (.cells #[.bool false,VI 0] 33):=Vx;have da:Hid (Sn w W2 to):=by rw[hW2];exact Sn.new w to
 have HK:Hid _:=h
 have HA:Hid (UH w (.slice ap args.length cap) args ab/\(args≠[]->ab<w.heap.size/\¬U2 m K ab)):=⟨W8,hab⟩
 have HI:Hid (TB to.n/\∀v∈args,TB v.n):=⟨X_,hargs⟩
 obtain⟨r,hr⟩:∃r,r=m.Uf to sel args fuel:=Vx;rw[<- hr];have HR:Hid _:=hr;clear hr h W8 hab X_ hargs;obtain⟨na,hna⟩:∃na,na=args.length:=Vx;have HN:Hid _:=hna;rw[<- hna];clear hna;unfold Vl.val
 cases hsl:selector (bl sel) with
 | false=>
  have d_:=Qn sel W2 hs;rw[hsl]at d_
  have HE:Hid (r=(Vl.zero,0,1,m)):=by
   have hx:r=(Vl.zero,0,1,m):=by rw[HR.o];unfold Im.Uf;rw[ZU (.inl hsl)]
   exact hx
  clear hsl;go_enter func18,ntmps18;go_wp2_with fail;rw[<- hW2];clear hW2;refine d_.mono ?_;rintro e w3 ⟨rfl,hb3⟩;have RE:=da.o.below hb3;have H3:Hid _:=RE;have z0:=RE.z0;have z1:=RE.z1;have f1:∀o,w3.frozen? (VJ (w.heap.size+1) o)=false:=λo=>UL.free ⟨_,_,RE.b1⟩ o;clear d_ hb3 RE;go_wp2;exact H3.o.ret HK.o 1 HE.o rfl rfl rfl rfl
 | true=>
  have d_:=Qn sel W2 hs;rw[hsl]at d_
  have HL:Hid (selector (bl sel)=true/\sel.size<=8):=⟨hsl,Kq hsl⟩
  have Kp:=Kw hsl;clear hsl;obtain⟨no,hno⟩:∃no,no=U6 (bl sel):=Vx;have G':Hid _:=hno;rw[<- hno]at Kp;clear hno;go_enter func18,ntmps18;go_wp2_with fail;rw[<- hW2];clear hW2;refine d_.mono ?_;rintro e w3 ⟨rfl,hb3⟩;have H3:=UQ (da.o.below hb3);clear d_ hb3;go_wp2_with fail;refine(PE sel w3 HL.o.1).mono ?_;rw[<- G'.o];refine ahH ?_;intro w3 hb3 H3 z0 z1 f1 v0 v1;clear hb3;by_cases hbad:no≠na\/fuel<0\/3000<fuel
  . have HE:Hid (r=(Vl.zero,0,1,m)):=by
     have hx:r=(Vl.zero,0,1,m):=by
      rw[HR.o];unfold Im.Uf;rw[ZU (.inr (by rw[<- G'.o,<- HN.o];exact hbad))]
     exact hx
    by_cases h1:no=na
    . subst h1;by_cases h2:fuel<0
      . exact ahW
      . have h3:3000<fuel:=by omega
        exact ahW
    . have h1':¬((no:Int)=(na:Int)):=by omega
      clear hbad h1;go_wp2;exact H3.o.ret HK.o 1 HE.o rfl rfl rfl rfl
  . have h1:no=na:=by omega
    have h2:¬fuel<0:=VH;have h3:¬3000<fuel:=VH
    obtain⟨fu,rfl⟩:∃fu:Nat,fuel=(fu:Int):=⟨fuel.toNat,VH⟩
    subst h1;clear hbad;have hlk:=zo (HK.o.below H3.o.bel) to;unfold Vl.val at hlk;go_wp2_with fail;refine hlk.mono ?_;rintro e w3 ⟨rfl,hb3⟩;have H3:=UQ (H3.o.below hb3);have m3:=H3.o.z0;have gE:=H3.o.z1;have f15:∀o,w3.frozen? (VJ (w.heap.size+1) o)=false:=λo=>UL.free ⟨_,_,H3.o.b1⟩ o;clear hb3 hlk z0 z1 f1 v0 v1
    have W_:Hid (¬(selector (bl sel)=false\/U6 (bl sel)≠args.length\/(fu:Int)<0\/3000<(fu:Int))):=by
     have hx:¬(selector (bl sel)=false\/U6 (bl sel)≠args.length\/(fu:Int)<0\/3000<(fu:Int)):=by
      rw[HL.o.1,<- G'.o,<- HN.o];simp;omega
     exact hx
    cases FJ:Pz m to with
    | true=>
     have HE:Hid (r=(Vl.zero,0,4,m)):=by
      have hx:r=(Vl.zero,0,4,m):=by
       rw[HR.o];unfold Im.Uf;rw[ZX W_.o,ZU (by rw[WX];unfold Pz at FJ;rw[FJ];rfl)]
      exact hx
     clear FJ;go_wp2;exact H3.o.ret HK.o 4 HE.o rfl rfl rfl rfl
    | false=>
     have HT:Hid _:=FJ;have Ha:=Ci (HK.o.below H3.o.bel) (HA.o.1.same (λhn=>H3.o.bel.block ab (HA.o.2 hn).1)) (λhn=>ZY (HA.o.2 hn).1 H3.o.bel.size) (by rw[<- HN.o];exact Kp);rw[<- HN.o]at Ha;clear FJ;go_wp2_with fail;refine Ha.mono ?_;refine ahH ?_;intro w3 hb3 H3 z0 z1 f1 v0 v1;clear hb3 Ha m3 gE f15
     cases hlb:args.any (Pz m) with
     | true=>
      have HE:Hid (r=(Vl.zero,0,4,m)):=by
       have hx:r=(Vl.zero,0,4,m):=by
        rw[HR.o];unfold Im.Uf;rw[ZX W_.o,ZU (by rw[WX];unfold Pz at hlb;rw[hlb];simp)]
       exact hx
      clear hlb;go_wp2;exact H3.o.ret HK.o 4 HE.o rfl rfl rfl rfl
     | false=>
      obtain⟨R,hR⟩:∃R,R=runM (2*fu+64) (m.send fu (m.of to) to sel args []):=Vx
      have HE:Hid (r=((EK R).1,(EK R).2.1,0,(EK R).2.2)):=by
       have hx:r=((EK R).1,(EK R).2.1,0,(EK R).2.2):=by
        rw[HR.o];have hT:=HT.o;unfold Im.Uf;unfold Pz at hlb hT;rw[ZX W_.o,ZX (by rw[WX,hT,hlb];simp),Zp,<- hR];cases R<;>rfl
       exact hx
      have mA:∀v,TB v.n->Pz m v=false->TF m v:=λv h1 h2=>⟨h1,λho=>by
       unfold Pz at h2;rw[ho,Wp,Bool.not_eq_false']at h2
       exact h2⟩
      have hall:∀v∈args,TF m v:=λv hv=>mA v (HI.o.2 v hv) (by
       have:=List.any_eq_false.1 hlb v hv
       simpa using this)
      have oF:=qA (HK.o.below H3.o.bel) to (mA to HI.o.1 HT.o) sel (by have:=HL.o.2;omega) (HA.o.1.same (λhn=>H3.o.bel.block ab (HA.o.2 hn).1)) (λhn=>⟨ZY (HA.o.2 hn).1 H3.o.bel.size,(HA.o.2 hn).2⟩) (by rw[<- HN.o];exact Kp) hall (λ_=>by rw[<- HN.o];exact G'.o) fu VH R hR;rw[<- HN.o]at oF;unfold Vl.val at oF;clear hlb hR mA hall;go_wp2_with fail;refine oF.mono ?_;rintro e w3 ⟨K7,rfl,hst⟩;have d1:=(hst.Ut.block _ (by have:=H3.o.lt;omega) (λe=>by have:=HK.o.lt e;omega)).trans H3.o.b1;have m3:w3.cell? (VJ (w.heap.size+1) 0)=some (.bool false):=by simp only[World.cell?,d1];rfl
      have gE:w3.cell? (VJ (w.heap.size+1) 1)=some (VI 0):=by simp only[World.cell?,d1];rfl
      have f15:∀o,w3.frozen? (VJ (w.heap.size+1) o)=false:=λo=>UL.free ⟨_,_,d1⟩ o;have s6:=(Z5.1 d1).1;have HQ:=UQ ((Step.below HK.o H3.o.bel).trans hst)
      have dC:Hid (¬U2 (EK R).2.2 K7 (w.heap.size+1)):=by
       have hx:¬U2 (EK R).2.2 K7 (w.heap.size+1):=λe=>by
        rcases hst.foot _ e with e|e
        . have:=HK.o.lt e;omega
        . have:=H3.o.lt;omega
       exact hx
      clear oF hst d1 z0 z1 f1 v0 v1;obtain⟨og,d8⟩:∃og,og=EK R:=Vx;rw[<- d8]at HQ dC HE ⊢;clear d8;obtain⟨⟨vo,vn⟩,n,m'⟩:=og;unfold Vl.val;go_wp2;obtain⟨W2,hW2⟩:∃W2,W2=(w3.setCell (VJ (w.heap.size+1) 0) (.bool vo)).setCell (VJ (w.heap.size+1) 1) (VI vn):=Vx;have y0:W2.cell? (VJ (w.heap.size+1) 0)=some (.bool vo):=by rw[hW2];exact(VD (a01 _)).trans (Vr m3)
      have y1:W2.cell? (VJ (w.heap.size+1) 1)=some (VI vn):=by rw[hW2];exact Vr ((VD (λe=>a01 _ e.symm)).trans gE)
      have s6:w.heap.size+1<W2.heap.size:=by rw[hW2];simp[World.setCell];omega
      have hb3:Below W2.heap.size W2 (W2.alloc (.cells #[.bool vo,VI vn] 33)):=(ZR _ _).alloc UM _
      have vl:Step w W2 m K m' K7:=by
       rw[hW2];exact HQ.o.aside (S:=λk=>k=w.heap.size+1) (((Vt.refl _ (λk=>k=w.heap.size+1)).setCell (VJ (w.heap.size+1) 0) _ (λ_=>rfl)).setCell (VJ (w.heap.size+1) 1) _ (λ_=>rfl)) (λk e=>⟨VH,by rw[e];exact dC.o⟩) (λk hg=>HK.o.J7.lt hg)
      rw[<- hW2];refine ZQ (F6 rfl _ _ _ _ rfl rfl rfl ((hb3.cell (p:=(VJ (w.heap.size+1) 0)) s6).trans y0) ((hb3.cell (p:=(VJ (w.heap.size+1) 1)) s6).trans y1)) rfl ?_;rw[HE.o];exact⟨K7,rfl,vl.trans (Step.below vl.Ub hb3)⟩
end Go.Proofs.Rz
namespace Kn
open Go
instance (ws:List (W×Nat)) (args slots i:Nat):Decidable (SC ws args slots i):=by unfold SC TJ TG;infer_instance
end Kn
namespace Go.Proofs.Rz
open ChangeShapes WideShapes ChangeAt RowKit Kn Iz Tryz
structure At (w0:World)(b:Nat)(w:World)(m:Im)(K:Kd):Prop where
 Ub:Ud w m K
 lo:∀k,U2 m K k->w0.heap.size<=k
 bel:Below w0.heap.size w0 w
 b_:K.b=b
def At.step {w0 w w':World}{b:Nat}{m m':Im}{K K':Kd}(h:At w0 b w m K)(s:Step w w' m K m' K'):At w0 b w' m' K':=
 ⟨s.Ub,λk e=>by
  rcases s.foot k e with e|e
  . exact h.lo k e
  . have:=h.bel.size
    omega,h.bel.trans (s.Ut.below h.bel.size (λk _ e=>h.lo k e)),s.b.trans h.b_⟩
structure Bk (w:World)(m:Im)(K:Kd)(k:Nat)(cs:Array Value)(t:TypeId):Prop where
 blk:w.heap[k]?=some (.cells cs t)
 off:¬U2 m K k
def RZ (n:Int)(w:World):Calls prog 9 #[VI n] w λe w'=>e=.returned (VI n)/\w'=w:=by
 go_enter func9,ntmps9;go_wp2
 go_ret
 exact KP
variable {w0 w : World} {b : Nat} {m : Im} {K : Kd}
def At.TR (h:At w0 b w m K)(s t:ByteArray)(n:Int)(hs:s.size<=140737488355328):
 Calls prog 15 #[VG b,.string s,.string t,VI n] w λe w'=>e=.returned (VI (m.TR s t n).1)/\∃K',Step w w' m K (m.TR s t n).2 K':=by
 obtain rfl:=h.b_;exact bQ h.Ub s t n hs
def At.method (h:At w0 b w m K)(cn sel src:ByteArray)(hs1:sel.size<=140737488355328)(hs2:src.size<=140737488355328):
 Calls prog 17 #[VG b,.string cn,.string sel,.string src] w λe w'=>∃(r a:Int) (m':Im) (K':Kd),e=.returned (.tuple #[VI r,VI a])/\Ua m cn sel src r a m'/\Step w w' m K m' K':=by
 obtain rfl:=h.b_;exact kW h.Ub cn sel src hs1 hs2
def At.drop (h:At w0 b w m K)(cn sel:ByteArray):
 Calls prog 19 #[VG b,.string cn,.string sel] w λe w'=>e=.returned (VI (m.drop cn sel).1)/\∃K',Step w w' m K (m.drop cn sel).2 K':=by
 obtain rfl:=h.b_;exact pY h.Ub cn sel
def At.make (h:At w0 b w m K)(cn:ByteArray):
 Calls prog 16 #[VG b,.string cn] w λe w'=>e=.returned (.tuple #[(m.make cn).1.val,VI (m.make cn).2.1])/\∃K',Step w w' m K (m.make cn).2.2 K':=by
 obtain rfl:=h.b_;exact um h.Ub cn
def At.send (h:At w0 b w m K)(to:Vl)(X_:TB to.n)(sel:ByteArray)(hs:sel.size<=140737488355328){ap:Option Addr}{cap:Nat}{args:List Vl}{ab:Nat}(W8:UH w (.slice ap args.length cap) args ab)(hab:args≠[]->ab<w.heap.size/\¬U2 m K ab)(hargs:∀v∈args,TB v.n)(fuel:Int):
 Calls prog 18 #[VG b,to.val,.string sel,.slice ap args.length cap,VI fuel] w (af8 w m K (m.Uf to sel args fuel)):=by
 obtain rfl:=h.b_;exact aah h.Ub to X_ sel hs W8 hab hargs fuel
end Go.Proofs.Rz
namespace Go.Proofs.Rz
open ChangeShapes WideShapes ChangeAt RowKit Kn Iz Tryz
def afX (a0 a1:Int)(w:World)(h:¬Oh a0 a1):
 Calls prog 8 #[VI a0,VI a1] w λe w'=>e=.returned (.tuple #[.pointer none,VI 1])/\w'=w:=by
 by_cases h0:0<=a0
 . by_cases h1:a0<=6
   . by_cases h2:1<=a1
     . by_cases h3:a1<=64
       . have h4:(bits BinOp.and IntKind.i64 a1 (a1-1)==0)=false:=by
          simpa[Oh,h0,h1,h2,h3]using h
         exact qQ
       all_goals
        exact qQ
     all_goals
      exact qQ
   all_goals
    exact qQ
 all_goals
  exact qQ
end Go.Proofs.Rz
namespace Kn
open Go
structure NM where
 kind:Int
 s:ByteArray
 t:ByteArray
 u:ByteArray
 n:Int
 k:Int
 to:Vl
 ap:Option Addr
 cap:Nat
 args:List Vl
 ab:Nat
structure Sd where
 v:Vl
 s:ByteArray
 n:Int
 e:Int
 k:Int
def sdE (e:Int):Sd:=⟨Vl.zero,⟨#[]⟩,0,e,0⟩
end Kn
namespace Go.Proofs.Rz
open ChangeShapes WideShapes ChangeAt RowKit Kn Iz Tryz
def ae0 (m:Im)(o:NM)(d:Sd)(m':Im):Prop:=
 if o.kind=1 then d=sdE (m.TR o.s o.t o.n).1/\m'=(m.TR o.s o.t o.n).2
 else if o.kind=2 then ∃e a,Ua m o.s o.t o.u e a m'/\d=⟨Vl.zero,⟨#[]⟩,a,e,0⟩
 else if o.kind=3 then d=sdE (m.drop o.s o.t).1/\m'=(m.drop o.s o.t).2
 else if o.kind=4 then d=sdE (m.move o.s o.t).1/\m'=(m.move o.s o.t).2
 else if o.kind=5 then d=sdE (m.copy o.s o.t o.u).1/\m'=(m.copy o.s o.t o.u).2
 else if o.kind=6 then d=⟨(m.make o.s).1,⟨#[]⟩,0,(m.make o.s).2.1,0⟩/\m'=(m.make o.s).2.2
 else if o.kind=7 then d=sdE (m.be o.n o.s).1/\m'=(m.be o.n o.s).2
 else if o.kind=8 then d=⟨(m.slot o.n o.k).1,⟨#[]⟩,0,(m.slot o.n o.k).2,0⟩/\m'=m
 else if o.kind=9 then d=⟨Vl.zero,(m.nP o.n).1,0,(m.nP o.n).2,0⟩/\m'=m
 else if o.kind=11 then d=⟨(m.Uf o.to o.s o.args o.n).1,⟨#[]⟩,(m.Uf o.to o.s o.args o.n).2.1,(m.Uf o.to o.s o.args o.n).2.2.1,Go.RowKit.wrap64 ((m.Uf o.to o.s o.args o.n).2.2.2.looks:Nat)⟩/\m'=(m.Uf o.to o.s o.args o.n).2.2.2
 else d=sdE 0/\m'=m
def _root_.Kn.NM.val (o:NM):Value:=.agg #[VI o.kind,.string o.s,.string o.t,.string o.u,VI o.n,VI o.k,.bool o.to.obj,VI o.to.n,.slice o.ap o.args.length o.cap]
def _root_.Kn.Sd.val (d:Sd):Value:=.agg #[.bool d.v.obj,VI d.v.n,.string d.s,VI d.n,VI d.e,VI d.k]
structure OI (w:World)(o:NM):Prop where
 zs:o.s.size<=140737488355328
 zt:o.t.size<=140737488355328
 zu:o.u.size<=140737488355328
 to:TB o.to.n
 args:UH w (.slice o.ap o.args.length o.cap) o.args o.ab
 lt:o.args≠[]->o.ab<w.heap.size
 all:∀v∈o.args,TB v.n
def apY (w:World)(m:Im)(K:Kd)(o:NM)(e:Ending)(w':World):Prop:=∃(d:Sd) (m':Im) (K':Kd),e=.returned d.val/\ae0 m o d m'/\Step w w' m K m' K'
structure Cb (w w':World)(o:NM)(m':Im)(K':Kd)(v:Vl):Prop where
 b0:w'.heap[w.heap.size]?=some (.cells #[VI o.kind,.string o.s,.string o.t,.string o.u,VI o.n,VI o.k,.bool o.to.obj,VI o.to.n,.slice o.ap o.args.length o.cap] 36)
 b1:w'.heap[w.heap.size+1]?=some (.cells #[.bool false,VI 0,.string ⟨#[]⟩,VI 0,VI 0,VI 0] 42)
 b2:w'.heap[w.heap.size+1+1]?=some (.cells #[.bool v.obj,VI v.n] 33)
 off:∀k,w.heap.size<=k->k<=w.heap.size+2->¬U2 m' K' k
def ap6 (w:World)(o:NM):World:=((w.alloc (.cells #[VI o.kind,.string o.s,.string o.t,.string o.u,VI o.n,VI o.k,.bool o.to.obj,VI o.to.n,.slice o.ap o.args.length o.cap] 36)).alloc (.cells #[.bool false,VI 0,.string ⟨#[]⟩,VI 0,VI 0,VI 0] 42)).alloc (.cells #[.bool false,VI 0] 33)
def ap0 (w1:World)(z:Nat)(d:Sd):World:=(((((w1.setCell (VJ z 0) (.bool d.v.obj)).setCell (VJ z 1) (VI d.v.n)).setCell (VJ z 2) (.string d.s)).setCell (VJ z 3) (VI d.n)).setCell (VJ z 4) (VI d.e)).setCell (VJ z 5) (VI d.k)
section
variable {w0 w : World} {b : Nat} {m : Im} {K : Kd}
def At.move (h:At w0 b w m K)(cn an:ByteArray):
 Calls prog 31 #[VG b,.string cn,.string an] w λe w'=>e=.returned (VI (m.move cn an).1)/\∃K',Step w w' m K (m.move cn an).2 K':=by
 obtain rfl:=h.b_;exact move_any h.Ub cn an
def At.copy (h:At w0 b w m K)(cn sel to:ByteArray):
 Calls prog 32 #[VG b,.string cn,.string sel,.string to] w λe w'=>e=.returned (VI (m.copy cn sel to).1)/\∃K',Step w w' m K (m.copy cn sel to).2 K':=by
 obtain rfl:=h.b_;exact uj h.Ub cn sel to
def At.be (h:At w0 b w m K)(o:Int)(cn:ByteArray):
 Calls prog 33 #[VG b,VI o,.string cn] w λe w'=>e=.returned (VI (m.be o cn).1)/\∃K',Step w w' m K (m.be o cn).2 K':=by
 obtain rfl:=h.b_;exact acP h.Ub o cn
def At.slot (h:At w0 b w m K)(o j:Int):
 Calls prog 23 #[VG b,VI o,VI j] w λe w'=>e=.returned (.tuple #[(m.slot o j).1.val,VI (m.slot o j).2])/\∃K',Step w w' m K m K':=by
 obtain rfl:=h.b_
 exact(aev h.Ub o j).mono λe w' he=>⟨he.1,K,Step.below h.Ub he.2⟩
def At.of (h:At w0 b w m K)(o:Int):
 Calls prog 25 #[VG b,VI o] w λe w'=>e=.returned (.tuple #[.string (m.nP o).1,VI (m.nP o).2])/\∃K',Step w w' m K m K':=by
 obtain rfl:=h.b_
 exact(alE h.Ub o).mono λe w' he=>⟨he.1,K,by rw[he.2];exact Step.refl h.Ub⟩
end
end Go.Proofs.Rz
