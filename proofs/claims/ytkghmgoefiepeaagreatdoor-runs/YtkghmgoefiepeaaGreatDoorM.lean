import Derived.Lib.Strings
import Derived.Lib.BufferWrite
import Derived.Lib.UnsafeStr
import Derived.Test.YtkghmgoefiepeaaGreatDoorI
import Derived.Test.YtkghmgoefiepeaaGreatDoorJ
set_option linter.all false
set_option maxHeartbeats 4000000
set_option maxRecDepth 100000
namespace Go.Proofs.Rz
open ChangeShapes WideShapes ChangeAt RowKit Kn Tryz
def aQ:(prog.info? 5).map (λi=>(i.zero,i.size,i.bytes))=some (some (.int .u8 0),1,1):=VE
def nX:prog.cellsOf 5=1:=VE
def byte_size:(prog.info? 5).map (·.size)=some 1:=VE
def adR (n:Nat)(hn:n<=140737488355328)(w:World):(Instr.makeSlice 200 (VI (n:Int)) (VI (n:Int))).run prog w=.ok (.slice (some (VJ w.heap.size 0)) n n) (w.alloc (.cells (Array.replicate n (.int .u8 0)) 5)):=by
 obtain⟨i0,hi,h0,h1,h2⟩:=YQ aQ;have h:=VN (P:=prog) w 200 5 i0 _ underlying200 hi h0 .i64 .i64 (n:Int) (n:Int) VH VH (by rw[h2];omega) VH;rw[h,Zp,h1];show Result.ok _ (w.alloc (.cells (madeCells #[.int .u8 0] (n*1)) _))=_;rw[Dy,Nat.mul_one]
def P5 (w:World)(s:ByteArray):World:=(w.alloc (.cells (Array.replicate s.size (.int .u8 0)) 5)).setRow w.heap.size (Lib.byteCells s.data.toList).toArray
def Ll (w:World)(s:ByteArray):(P5 w s).heap[w.heap.size]?=some (.cells (Lib.byteCells s.data.toList).toArray 5 (0,0)):=VP _ _ _ _ _ (0,0) (Z4 w _).1
def EL (w:World)(s:ByteArray):Below w.heap.size w (P5 w s):=
 ((ZR _ w).alloc UM _).trans ⟨rfl,rfl,rfl,by simp[P5,World.setRow],λk hk=>setRow_other _ _ _ _ VH⟩
def kX (w:World)(s:ByteArray)(t1 t2:TypeId):(Builtin.copy_ #[200,t1] t2 #[.slice (some (VJ w.heap.size 0)) s.size s.size,.string s]).run prog (w.alloc (.cells (Array.replicate s.size (.int .u8 0)) 5))=.ok (goInt s.size) (P5 w s):=by
 have h:=Lib.run_copy_row_string (P:=prog) (w.alloc (.cells (Array.replicate s.size (.int .u8 0)) 5)) 200 t1 t2 5 w.heap.size 0 s.size s.size s (Array.replicate s.size (.int .u8 0)) 5 underlying200 byte_size (Z4 w _).1 UM Vy
 have e:((Array.replicate s.size (Value.int .u8 0)).toList.take 0++Lib.byteCells s.data.toList++(Array.replicate s.size (Value.int .u8 0)).toList.drop (0+s.size)).toArray=(Lib.byteCells s.data.toList).toArray:=by
  rw[List.take_zero,Yg,List.drop_of_length_le Vy,XR]
 rw[h,e];rfl
def text_of (w:World)(s:ByteArray)(t1 t2:TypeId)(h0:s.size≠0)(hs:s.size<=140737488355328):(Builtin.unsafeString_ #[201,t1] t2 #[VG w.heap.size,VI s.size]).run prog (P5 w s)=.ok (.string s) ((P5 w s).freeze (VJ w.heap.size 0) s.size):=by
 have hl:=(Lib.size_eq s).symm
 have h:=Lib.run_unsafeString_row (P:=prog) (P5 w s) 201 t1 t2 5 underlying201 nX w.heap.size (Lib.byteCells s.data.toList).toArray.size (by unfold World.shape?;rw[Ll]) s.data.toList
  (λe=>h0 (by rw[<- hl,e];rfl)) (by simp[Lib.byteCells_length]) VH
  (λj x hx=>Lib.cells_of_row (Ll w s) (Lib.byteCells s.data.toList).toArray.size j _ (by rw[XU (by simp[Lib.byteCells])];simp[Lib.byteCells,hx]))
 rw[hl]at h;exact h
def ade (s:ByteArray)(w:World)(hs:s.size<=140737488355328):
 Calls prog 74 #[.string s] w λe w'=>e=.returned (.string s)/\Below w.heap.size w w':=by
 by_cases h0:s.size=0
 . have hs:s=⟨#[]⟩:=by
    cases s with|mk a=>
    congr 1;exact WZ h0
   subst hs;go_enter func74,ntmps74;go_wp2
   go_ret
   exact⟨rfl,ZR _ _⟩
 . have t0:((s.size:Int)==0)=false:=ZF.2 VH;have hp:(0:Int)<(s.size:Int):=VH;have hmk:=adR s.size hs;have F2:=kX w s;have dy:=λt1 t2=>text_of w s t1 t2 h0 hs;go_enter func74,ntmps74;go_wp2
   go_ret
   exact⟨rfl,Lib.below_freeze (EL w s) (p:=(VJ w.heap.size 0)) UM _⟩
def clone_any (s:ByteArray)(w:World)(hs:s.size<=140737488355328):
 Calls prog 38 #[.string s] w λe w'=>e=.returned (.string s)/\Below w.heap.size w w':=by
 go_enter func38,ntmps38;go_wp2_with fail;refine(ade s w hs).mono ?_;rintro e w' ⟨rfl,hb⟩;go_wp2
 go_ret
 exact⟨rfl,hb⟩
end Go.Proofs.Rz
namespace Go.Proofs.Rz
open ChangeShapes WideShapes ChangeAt RowKit Kn Iz Tryz
def P8 (w:World)(mb:Nat)(l:List (ByteArray×Value))(h:SMap w mb l)(s:ByteArray):(Instr.lookup 55 (.map (some mb)) (.string s) false).run prog w=.ok ((l.lookup s).getD (.pointer none)) w:=
 MF h.str underlying55 underlying9 (zeroValue57 w) s
def dR (s t:ByteArray)(n:Int)(b:Nat)(w:World)(hs:s.size<=140737488355328)(h:className (bl s)=false\/n<0):
 Calls prog 15 #[VG b,.string s,.string t,VI n] w λe w'=>e=.returned (VI 1)/\Below w.heap.size w w':=by
 cases hc:className (bl s) with
 | false=>
  have HC:Hid _:=hc;clear hc h;go_enter func15,ntmps15;go_wp2_with fail;refine iM ?_;intro w1 hb1;go_wp2
  go_ret
  exact⟨rfl,hb1⟩
 | true=>
  have hn:n<0:=by rcases h with h|h;rw[hc]at h;cases h;exact h
  have HC:Hid _:=hc;clear hc h;go_enter func15,ntmps15;go_wp2_with fail;refine iM ?_;intro w1 hb1;go_wp2
  go_ret
  exact⟨rfl,hb1⟩
def bY (s t:ByteArray)(n:Int)(b mb:Nat)(l:List (ByteArray×Value))(w:World)(hs:s.size<=140737488355328)(hc:className (bl s)=true)(hn:0<=n)(h0:w.cell? (VJ b 0)=some (.map (some mb)))(hm:SMap w mb l)(r:Int)
 (hr:((∃p,l.lookup s=some (.pointer (some p)))/\r=3)\/(l.lookup s=none/\l.lookup t=none/\r=2)\/
  (∃a tot,l.lookup s=none/\l.lookup t=some (VG a)/\w.cell? (VJ a 3)=some (VI tot)/\0<=tot/\tot<=10/\((10-tot<n/\r=9)\/(n<=10-tot/\l.length=12/\r=10)))):
 Calls prog 15 #[VG b,.string s,.string t,VI n] w λe w'=>e=.returned (VI r)/\Below w.heap.size w w':=by
 have HC:Hid _:=hc;have HM:=UQ hm;have hbl:=ZE w (VJ b 0) h0;clear hc hm;rcases hr with⟨⟨p,hl⟩,rfl⟩|⟨hl,ht,rfl⟩|⟨a,tot,hl,ht,ha,ht0,ht0,ZD⟩
 . go_enter func15,ntmps15;go_wp2_with fail;refine iM ?_;intro w1 hb1;have c0:=(hb1.cell (p:=(VJ b 0)) hbl).trans h0;have hm1:=HM.o.same ala;have Pa:=P8 w1 mb l hm1 s;rw[hl]at Pa;simp only[YX]at Pa;clear hm1 h0 hl;go_wp2
   go_ret
   exact⟨rfl,hb1⟩
 . go_enter func15,ntmps15;go_wp2_with fail;refine iM ?_;intro w1 hb1;have c0:=(hb1.cell (p:=(VJ b 0)) hbl).trans h0;have hm1:=HM.o.same ala;have Pa:=P8 w1 mb l hm1 s;have Tl:=P8 w1 mb l hm1 t;rw[hl]at Pa;rw[ht]at Tl;simp only[V7]at Pa Tl;clear hm1 h0 hl ht;go_wp2
   go_ret
   exact⟨rfl,hb1⟩
 . have hal:=ZE w (VJ a 3) ha;rcases ZD with⟨hbig,rfl⟩|⟨hfit,hlen,rfl⟩
   . go_enter func15,ntmps15;go_wp2_with fail;refine akz ?_;intro w1 hb1 c0 ca hm1 Pa Tl;have hwr:IntKind.i64.wrap (10-tot)=10-tot:=Ar;clear hm1 h0 hl ht ha;go_wp2
     go_ret
     exact⟨rfl,hb1⟩
   . go_enter func15,ntmps15;go_wp2_with fail;refine akz ?_;intro w1 hb1 c0 ca hm1 Pa Tl;have L2:=GZ hm1.str;rw[hlen]at L2;have hwr:IntKind.i64.wrap (10-tot)=10-tot:=Ar;clear hm1 h0 hl ht ha;go_wp2
     go_ret
     exact⟨rfl,hb1⟩
def H9 (s t:ByteArray)(n tot:Int)(b mb a:Nat)(l:List (ByteArray×Value))(w:World)(hs:s.size<=140737488355328)(hc:className (bl s)=true)(hn:0<=n)(h0:w.cell? (VJ b 0)=some (.map (some mb)))(hm:SMap w mb l)
 (hl:l.lookup s=none) (ht:l.lookup t=some (VG a)) (ha:w.cell? (VJ a 3)=some (VI tot)) (ht0:0<=tot) (ht1:tot<=10) (hfit:n<=10-tot) (hlen:l.length<12):
 Calls prog 15 #[VG b,.string s,.string t,VI n] w λe w'=>e=.returned (VI 0)/\∃cm,w.heap.size<=cm/\SMap w' mb (put l s ((VG (cm+1))))/\
  w'.heap[cm]?=some (.map #[] 0)/\w'.heap[cm+1]?=some (.cells #[.string s,VI l.length,VG a,VI (tot+n),.map (some cm)] 101)/\Vt w w' (λk=>k=mb):=by
 have HC:Hid _:=hc;have HM:=UQ hm;have hbl:=ZE w (VJ b 0) h0;have hal:=ZE w (VJ a 3) ha;clear hc hm;go_enter func15,ntmps15;go_wp2_with fail;refine akz ?_;intro w1 hb1 c0 ca hm1 Pa Tl;have L2:=GZ hm1.str;have hl12:((l.length:Int)==12)=false:=Vo;have hwr:IntKind.i64.wrap (10-tot)=10-tot:=Ar;have Dr:IntKind.i64.wrap (tot+n)=tot+n:=Ar;have Q6:=UQ hm1;have bA:=ZY hbl hb1.size;have al1:=ZY hal hb1.size;have SM:Hid _:=hb1;clear hm1 h0 hl ht ha hb1;go_wp2_with fail;refine Uy ?_;refine ZT (S:=(λw'=>w'.cell? (VJ b 0)=some (.map (some mb))/\w'.cell? (VJ a 3)=some (VI tot))) VE UG (λhHeld=>?_);refine Ep ?_;refine afr ?_;refine Ur 9 ?_
 try simp only[Dr]
 refine Ul 2 λY_ Z_=>?_;go_simp;refine(clone_any s _ hs).mono ?_;rintro e w2 ⟨rfl,hb2⟩;have Q6:=UQ ((Q6.o.same (w':=w1.drew) rfl).same (hb2.block _ Q6.o.lt));have Uv:=UQ (RH hb2);have p7:=(hb2.cell (p:=(VJ b 0)) bA).trans c0;have ot:=(hb2.cell (p:=(VJ a 3)) al1).trans ca;clear hb2 c0 ca
 try go_wp2_with fail
 refine Z_.go λhHeld=>?_;clear Z_ Y_
 try refine UE ?_
 refine Ul 10 λY_ Z_=>?_;go_simp;refine(MI b mb l s (some (VJ a 0)) (tot+n) w2 p7 Q6.o).mono ?_;rintro e w1 ⟨rfl,hm1,hmp,hcl,hg3⟩;have c0:=(Z9 (a:=(VJ b 0)) (hg3.block b (ZE w2 (VJ b 0) p7) (λe=>by injection e with e;obtain⟨es,ck,h1,_⟩:=Q6.o;rw[<- e]at h1;simp[World.cell?,h1]at p7))).trans p7;have ca3:=(Z9 (a:=(VJ a 3)) (hg3.block a (ZE w2 (VJ a 3) ot) (λe=>by injection e with e;obtain⟨es,ck,h1,_⟩:=Q6.o;rw[<- e]at h1;simp[World.cell?,h1]at ot))).trans ot
 try go_wp2_with fail
 refine Z_.go λhHeld=>?_;clear Z_ Y_;refine Um ?_;go_wp2
 go_ret
 have hb1:=SM.o;have hb2:=Uv.o;exact⟨rfl,w2.heap.size,ZC hb1.size hb2.size,hm1,hmp,hcl,((Vt.of_below hb1 _).trans (Vt.of_below hb2 _)).trans (Vt.QY hg3)⟩
variable {w : World}
def dn {B:Nat}{e:TypeId}{v:Value}{ws:List (W×Nat)}(h:w.ownsRow B e 1 v ws.length (Qo ws)):∃p g cap,v=.slice p ws.length cap/\∀j x,ws[j]?=some x->p=some (VJ g 0)/\w.cell? (VJ g j)=some (VI (x.2:Nat)):=by
 have hc:=λg hg=>h.cells (g:=g) hg;rcases h.2 with⟨rfl,h0⟩|⟨g,cap,cur,rfl,hb,hg,hn,_⟩
 . refine⟨none,0,0,by rw[h0],λj x hx=>?_⟩;have:=(Z7.1 hx).1;omega
 . refine⟨some (VJ g 0),g,cap,rfl,λj x hx=>⟨rfl,?_⟩⟩;have:=hc g rfl j (VI (x.2:Nat)) (by simp[Qo,hx]);exact ac5
def kH {ws:List (W×Nat)}{args slots:Nat}{e i:Int}(h:ai2 ws args slots e i):(∃j,j<ws.length/\i=(j:Int)/\(e=1\/e=7)/\MN ws args slots e i)\/((∀j,j<ws.length->¬SC ws args slots j)/\e=0/\i=0):=by
 rcases h with⟨j,hj,rfl,hb,hn,h1,h7⟩|h
 . left;refine⟨j,hj,rfl,?_,.inl ⟨j,hj,rfl,hb,hn,h1,h7⟩⟩;by_cases ha:TJ ws args j
   . exact .inl (h1 ha)
   . exact .inr (h7 ha)
 . exact .inr h
structure aeQ (w w':World)(m g cap:Nat)(p:Option Addr)(ws:List (W×Nat))(pl:Nat->Nat):Prop where
 below:Below w.heap.size w w'
 mm:w'.heap[m]?=some (.cells #[.slice p ws.length cap,VI 0] 165)
 lo:w.heap.size<=m
 J7:1<=ws.length->w.heap.size<=g
 gm:1<=ws.length->g≠m
 at_:xB w' p g ws pl ws.length
 np:NC w w' ws pl ws.length
def aae (cn sel src:ByteArray)(b mb:Nat)(w:World)(c0:w.cell? (VJ b 0)=some (.map (some mb)))(lk:(Instr.lookup 55 (.map (some mb)) (.string cn) false).run prog w=.ok (.pointer none) w):
 Calls prog 17 #[VG b,.string cn,.string sel,.string src] w λe w'=>e=.returned (.tuple #[VI 2,VI 0])/\w'=w:=by
 go_enter func17,ntmps17;go_wp2
 go_ret2
 exact KP
def aeo (n:Nat)(cn sel src:ByteArray)(w:World)(b mb c:Nat)(R:World->Prop)(hn:n<=10)(hs1:sel.size<=140737488355328)(hs2:src.size<=140737488355328)
 (c0:w.cell? (VJ b 0)=some (.map (some mb))) (lk:(Instr.lookup 55 (.map (some mb)) (.string cn) false).run prog w=.ok (VG c) w) (hcs:w.cell? (VJ c 3)=some (VI (n:Nat)))
 (hg0:0<w.heap.size) (hg1:2<w.heap.size) (hg2:1<w.heap.size) (hE:Qc w) (g_:U7 w) (U':UR w)
 (give:∀(w':World) (m g cap:Nat) (p:Option Addr) (ws:List (W×Nat)) (pl:Nat->Nat),(Vh (bl src)).1=ws->Ti (bl sel) (bl src) n 0 0->aeQ w w' m g cap p ws pl->
  Calls prog 44 #[VG b,VG c,.string sel,VG m] w' λe w''=>e=.returned (.tuple #[])/\R w''):
 Calls prog 17 #[VG b,.string cn,.string sel,.string src] w λe w'=>∃r a:Int,e=.returned (.tuple #[VI r,VI a])/\Ti (bl sel) (bl src) n r a/\((r≠0/\Below w.heap.size w w')\/(r=0/\R w')):=by
 have HG:Hid (Qc w/\U7 w/\UR w):=⟨hE,g_,U'⟩
 have hcl:=ZE w (VJ c 3) hcs;clear hE g_ U';go_enter func17,ntmps17;go_wp2_with fail;refine(Qn sel w hs1).mono ?_;rintro e w1 ⟨rfl,hb1⟩;clear c0 lk;cases U_:selector (bl sel)
 . go_wp2
   go_ret2
   exact⟨1,0,rfl,.inl ⟨U_,rfl,rfl⟩,.inl ⟨VH,hb1⟩⟩
 . by_cases Rc:120<src.size
   . go_wp2
     go_ret2
     exact⟨5,0,rfl,.inr (.inl ⟨U_,by rw[VB];exact Rc,rfl,rfl⟩),.inl ⟨VH,hb1⟩⟩
   . go_wp2_with fail;refine(clone_any src _ hs2).mono ?_;rintro e w1 ⟨rfl,hb2⟩;have hbW:=hb1.trans (hb2.mono hb1.size);go_wp2_with fail;refine(AP src w1 VH (ZY hg1 hbW.size) (ZY hg2 hbW.size) ?_ ?_).mono ?_
     . exact HG.o.2.1.below hg1 hbW
     . exact HG.o.2.2.below hg2 hbW
     rintro e w1 ⟨vw,vs,rfl,hown,hb1⟩;have ME:=hbW.trans (hb1.mono hbW.size);have Nx:=ZY hg0 ME.size;have rm:=UQ (HG.o.1.below hg0 ME);have hz2:=hbW.size;clear hb2 hb1 hbW;rcases zK (bl src) with hw|⟨j,hj,hw⟩
     . rw[hw];have hown':=hown hw;have hwl:=Ic (bl src);have zg:=UQ (Jb (bl src));have fS:=UQ ((by omega:src.size<=120));have nr:Hid _:=hw;obtain⟨ws,hws⟩:∃ws,(Vh (bl src)).1=ws:=Vx;have Al:Hid _:=hws;rw[hws]at hown' hwl zg;clear hws hw hown Rc;obtain⟨p,g,cap,rfl,hat,xd⟩:=afF hown'.1;have hst:=hown'.2;have HST:Hid (w1.ownsRow _ 3 1 vs ws.length (Qo ws)):=hst;have HK:Hid _:=hat
       have fq:Hid (1<=ws.length->UL w1 g/\w.heap.size<=g):=by
        have hx1:1<=ws.length->UL w1 g/\w.heap.size<=g:=λh=>⟨(xd h).1,ZC hz2 (xd h).2⟩
        exact hx1
       clear xd;obtain⟨ps,gs,cs,rfl,ST⟩:=dn hst;have cH:Hid _:=ST;clear ST;clear hst hat hown';obtain⟨q3,q3,q3,qa⟩:=Nu U_;obtain⟨ar,har⟩:∃ar,U6 (bl sel)=ar:=Vx;have jz:Hid _:=har;rw[har]at qa;have VM:Hid _:=ME;have k2:=(ME.cell (p:=(VJ c 3)) hcl).trans hcs;have M0:=ZY hcl ME.size;have qs:Hid _:=k2;clear hcs ME;go_wp2_with fail;refine Uy ?_;refine ZT (S:=(λw'=>w'.cell? (VJ c 3)=some (VI (n:Nat)))) VE UG (λhHeld=>?_);refine Ep ?_;refine aa7 ?_;refine tC ?_;refine Ul 2 λY_ Z_=>?_;go_simp;refine(PE sel _ U_).mono ?_;rintro e w1 ⟨rfl,hb⟩;rw[har];have hb1:=RH hb;clear k2 hb;have k2:=(hb1.cell (p:=(VJ c 3)) M0).trans qs.o
       try go_wp2_with fail
       refine Z_.go λhHeld=>?_;clear Z_ Y_
       try refine UE ?_
       refine Ul 7 λY_ Z_=>?_;go_simp;refine(GU ws p g cap ar n w1 hwl qa hn (HK.o.below UM hb1) zg.o (ZY Nx hb1.size) (rm.o.below Nx hb1)).mono ?_;rintro e w1 ⟨er,i,rfl,yW,hb⟩;have hb2:=hb1.trans (hb.mono hb1.size);clear k2 hb;have k2:=(hb2.cell (p:=(VJ c 3)) M0).trans qs.o
       try go_wp2_with fail
       refine Z_.go λhHeld=>?_;clear Z_ Y_
       try refine UE ?_
       refine Uh 8 ?_;refine dX ?_;refine uZ ?_;refine Nr ?_;clear hHeld;clear hHeld;clear hHeld;have jt:=UQ (VM.o.trans (hb2.mono VM.o.size))
       have HM:Hid (∀e' i' zz a',MN ws ar n zz i'->((∃j x,i'=((j:Nat):Int)/\ws[j]?=some x/\e'=zz/\a'=((x.2:Nat):Int))\/(i'=-1/\e'=0/\a'=0))->Ti (bl sel) (bl src) n e' a'):=by
        have hx1:∀e' i' zz a',MN ws ar n zz i'->((∃j x,i'=((j:Nat):Int)/\ws[j]?=some x/\e'=zz/\a'=((x.2:Nat):Int))\/(i'=-1/\e'=0/\a'=0))->Ti (bl sel) (bl src) n e' a':=λe' i' zz a' hf hh=>
         .inr (.inr (.inr ⟨U_,by rw[VB];exact fS.o,nr.o,zz,i',by rw[Al.o,jz.o];exact hf,by rw[Al.o];exact hh⟩))
        exact hx1
       rcases kH yW with⟨j,hj,rfl,aqk,hfit⟩|⟨hno,rfl,rfl⟩
       . obtain⟨x,hx⟩:∃x,ws[j]?=some x:=⟨_,Z8 hj⟩
         obtain⟨rfl,hcs⟩:=cH.o j x hx;have Kh:=(HST.o.lt gs rfl).2;have k5:=(hb2.cell (p:=(VJ gs j)) Kh).trans hcs;have tn:(er != 0)=true:=Vo;have FE:(j:Int)<(ws.length:Int):=VH;have Jx:=UQ hfit;have HX:Hid _:=hx;clear yW hfit hx hcs;go_wp2_with fail
         go_quiet (fail)
         go_wp2
         go_ret2
         exact⟨er,x.2,rfl,HM.o er j er x.2 Jx.o alD,.inl ⟨VH,jt.o.drewN' _⟩⟩
       . have G':=UQ hno;clear yW hno;go_wp2_with fail;refine(Bj ws p g cap w1 hwl (HK.o.below UM hb2) (fJ zg.o G'.o) (ZY Nx hb2.size) (rm.o.below Nx hb2)).mono ?_;rintro e w1 ⟨r,rfl,If,hb⟩;have Pw:=hb2.trans (hb.mono hb2.size);have jt:=UQ (VM.o.trans (Pw.mono VM.o.size));have Jx:Hid (MN ws ar n 6 r):=.inr ⟨G'.o,rfl,If⟩;clear hb If k2;rcases sG Jx.o with rfl|⟨j,hj,rfl⟩
         . go_wp2_with fail;refine(clone_any sel _ hs1).mono ?_;rintro e w1 ⟨rfl,eS⟩;have Lg:=Pw.trans (eS.mono Pw.size);have VM:=UQ (VM.o.trans (Lg.mono VM.o.size));have qs:=UQ (HK.o.below UM Lg)
           have rq:Hid (1<=ws.length->UL w1 g/\w.heap.size<=g):=by
            have hx1:1<=ws.length->UL w1 g/\w.heap.size<=g:=λh=>⟨(fq.o h).1.same (Lg.block g (fq.o h).1.lt),(fq.o h).2⟩
            exact hx1
           have rm:=UQ (rm.o.below Nx Lg);have Nx:=ZY Nx Lg.size;clear eS Lg Pw hb2 hb1;go_wp2_with fail;refine(Ad ws p g cap w1 hwl qs.o (λh=>(rq.o h).1) zg.o Nx (λh e=>by have:=(rq.o h).2;omega) rm.o).mono ?_;rintro e w1 ⟨m,pl,rfl,cN,r7,tI,Ek,r8⟩;have hz2:=VM.o.size
           have HN:Hid (aeQ w w1 m g cap p ws pl):=by
            have hx1:aeQ w w1 m g cap p ws pl:=⟨VM.o.trans (r8.below hz2 (λk _ h=>by rw[h.1];exact(rq.o h.2).2)),cN,ZC hz2 r7,λh=>(rq.o h).2,λh e=>by have:=(rq.o h).1.lt;omega,tI,⟨λi x hi hx hs=>⟨(Ek.mem i x hi hx hs).1,ZC hz2 (Ek.mem i x hi hx hs).2⟩,Ek.inj⟩⟩
            exact hx1
           have HZ:=UQ (HM.o 0 (-1) 6 0 Jx.o (.inr vg));clear cN r7 tI Ek r8;go_wp2_with fail;refine(give w1 m g cap p ws pl Al.o HZ.o HN.o).mono ?_;rintro e w1 ⟨rfl,hR⟩;go_wp2
           go_ret2
           exact⟨0,0,rfl,HZ.o,.inr ⟨rfl,hR⟩⟩
         . obtain⟨x,hx⟩:∃x,ws[j]?=some x:=⟨_,Z8 hj⟩
           obtain⟨rfl,hcs⟩:=cH.o j x hx;have Kh:=(HST.o.lt gs rfl).2;have k2:=(Pw.cell (p:=(VJ gs j)) Kh).trans hcs;have FE:(j:Int)<(ws.length:Int):=VH;have HX:Hid _:=hx;clear hx hcs;go_wp2_with fail
           go_quiet (fail)
           go_wp2
           go_ret2
           exact⟨6,x.2,rfl,HM.o 6 j 6 x.2 Jx.o alD,.inl ⟨VH,jt.o.drewN' _⟩⟩
     . rw[hw];clear hown;go_wp2
       go_ret2
       exact⟨5,j,rfl,.inr (.inr (.inl ⟨U_,G8,by rw[hw];omega,rfl,by rw[hw]⟩)),.inl ⟨VH,ME⟩⟩
end Go.Proofs.Rz
namespace Kn
open Go
theorem Fq {α:Type}{ab yz:Nat->Option Nat}{ow yo:Nat->Option α}{n:Nat}(h1:∀c,c<n->yz c=ab c)(h2:∀c,c<n->yo c=ow c)(h3:∀c a,c<n->ab c=some a->a<n):∀(f:Nat) (c:Nat),c<n->UJ yz yo f (some c)=UJ ab ow f (some c)
 | 0,_,_=>rfl
 | f+1,c,hc=>by
  have hu:∀(a:Nat->Option Nat) (o:Nat->Option α),UJ a o (f+1) (some c)=match o c with
   | some x=>some (c,x)
   | none=>UJ a o f (a c):=λ_ _=>rfl
  rw[hu yz yo,hu ab ow,h2 c hc]
  cases ho:ow c with
  | some y=>rfl
  | none=>
   simp only;rw[h1 c hc]
   cases ha:ab c with
   | none=>cases f<;>rfl
   | some a=>exact Fq h1 h2 h3 f a (h3 c a hc ha)
end Kn
namespace Go.Proofs.Rz
open ChangeShapes WideShapes ChangeAt RowKit Kn Iz Tryz
variable {m : Im}
def fH (hm:U3 m){c d:Nat}(h:Up m.ab c d):c<m.kl.length->d<m.kl.length:=by
 induction h with
 | refl c=>exact id
 | step ha _ ih=>exact λ_=>ih (CS hm ha)
def Ans (m:Im)(cb:Nat->Nat)(mid:Nat->ByteArray->Option Nat)(r:U1):Prop:=
 ∃c,c<m.kl.length/\r.fr=some (VJ (cb c) 0)/\r.hm=Vq ((UJ m.ab (λc=>mid c r.sel) (m.kl.length+1) (some c)).map (λx=>cb x.1))/\r.mt=Vq ((UJ m.ab (λc=>mid c r.sel) (m.kl.length+1) (some c)).map (·.2))
def Ans.aop {cb:Nat->Nat}{mid:Nat->ByteArray->Option Nat}{r:U1}(hm:U3 m)(h:Ans m cb mid r):akV m cb r:=by
 obtain⟨c,hc,h1,h2,_⟩:=h;refine⟨⟨c,hc,h1⟩,(UJ m.ab (λc=>mid c r.sel) (m.kl.length+1) (some c)).map (·.1),λx hx=>?_,akN⟩;exact ak0
variable {m' : Im}
def Ans.ow {cb:Nat->Nat}{mid mid':Nat->ByteArray->Option Nat}{c0:Nat}{sel:ByteArray}{r:U1}(hm:U3 m)(h:Ans m cb mid r)(hl:SI m cb c0 sel r=false)(hab:m'.ab=m.ab)(hlen:m'.kl.length=m.kl.length)(hmid:∀c s,¬(c=c0/\s=sel)->mid' c s=mid c s):Ans m' cb mid' r:=by
 obtain⟨c,hc,h1,h2,h3⟩:=h
 have key:UJ m'.ab (λc=>mid' c r.sel) (m'.kl.length+1) (some c)=UJ m.ab (λc=>mid c r.sel) (m.kl.length+1) (some c):=by
  rw[hab,hlen];by_cases hs:r.sel=sel
  . refine uS (c0:=c0) (λd hd=>hmid d r.sel (λe=>hd e.1)) _ _ (λF _ Qf=>?_)
    have:abL m cb c0 r:=by
     refine⟨c,(UJ m.ab (λc=>mid c r.sel) (m.kl.length+1) (some c)).map (·.1),hc,λx hx=>?_,h1,akN,Qf.1,λx hx=>?_⟩
     . exact ak0
     . obtain⟨⟨d,k⟩,e1,e2⟩:=Yl.1 hx;subst e2;exact Qf.2 d k e1
    unfold SI Hg at hl;rw[show decide (r.sel=sel)=true from by simp[hs],Wp,@V6 _ (Classical.propDecidable _)]at hl;exact hl this
  . exact YV (λo=>UJ m.ab o (m.kl.length+1) (some c)) (funext λd=>hmid d r.sel (λe=>hs e.2))
 exact⟨c,by rw[hlen];exact hc,h1,by rw[key];exact h2,by rw[key];exact h3⟩
def Ans.ab {cb:Nat->Nat}{mid:Nat->ByteArray->Option Nat}{c0:Nat}{r:U1}(hm:U3 m)(h:Ans m cb mid r)(hl:Tj m cb c0 r=false)(hab:∀c,c≠c0->m'.ab c=m.ab c)(hlen:m'.kl.length=m.kl.length)(hinj:∀c d,c<m.kl.length->d<m.kl.length->cb c=cb d->c=d)(hc0:c0<m.kl.length):Ans m' cb mid r:=by
 obtain⟨c,hc,h1,h2,h3⟩:=h
 have key:UJ m'.ab (λc=>mid c r.sel) (m'.kl.length+1) (some c)=UJ m.ab (λc=>mid c r.sel) (m.kl.length+1) (some c):=by
  rw[hlen];refine rY hab _ _ (λQf=>?_)
  have hcb:abL m cb c0 r:=by
   refine⟨c,(UJ m.ab (λc=>mid c r.sel) (m.kl.length+1) (some c)).map (·.1),hc,λx hx=>?_,h1,akN,Qf.1.1,λx hx=>?_⟩
   . exact ak0
   . obtain⟨⟨d,k⟩,e1,e2⟩:=Yl.1 hx;subst e2;exact Qf.1.2 d k e1
  have hne:¬r.hm=some (VJ (cb c0) 0):=λe=>by
   rw[h2]at e
   cases hcl:UJ m.ab (λc=>mid c r.sel) (m.kl.length+1) (some c) with
   | none=>rw[hcl]at e;cases e
   | some x=>
    rw[hcl]at e;injection e with e;injection e with e _ _;have hlt:=fH hm (PI _ _ x.1 x.2 hcl).1 hc;have he:=hinj x.1 c0 hlt hc0 e;exact Qf.2 x.2 (by rw[hcl,<- he])
  unfold Tj Hg at hl;have ht:=@Xh _ (Classical.propDecidable _) hcb;rw[ht,Wp,show decide (r.hm=some (VJ (cb c0) 0))=false from XQ hne]at hl;cases hl
 exact⟨c,by rw[hlen];exact hc,h1,by rw[key];exact h2,by rw[key];exact h3⟩
def Ans.more {cb cb':Nat->Nat}{mid mid':Nat->ByteArray->Option Nat}{r:U1}(hm:U3 m)(hm':U3 m')(h:Ans m cb mid r)(hab:∀c,c<m.kl.length->m'.ab c=m.ab c)(hlen:m.kl.length<=m'.kl.length)(hcb:∀c,c<m.kl.length->cb' c=cb c)(hmid:∀c s,c<m.kl.length->mid' c s=mid c s):Ans m' cb' mid' r:=by
 obtain⟨c,hc,h1,h2,h3⟩:=h;obtain⟨rk,hr1,hr1⟩:=Io hm'
 have key:UJ m'.ab (λc=>mid' c r.sel) (m'.kl.length+1) (some c)=UJ m.ab (λc=>mid c r.sel) (m.kl.length+1) (some c):=by
  obtain⟨rk0,hr1,mB⟩:=Io hm
  have e1:UJ m'.ab (λc=>mid' c r.sel) (m'.kl.length+1) (some c)=UJ m.ab (λc=>mid c r.sel) (m'.kl.length+1) (some c):=
   Fq (n:=m.kl.length) hab (λd hd=>hmid d r.sel hd) (λd a _ ha=>CS hm ha) _ c hc
  rw[e1];exact DC mB _ _ c (by have:=hr1 c;omega) (by have:=hr1 c;omega)
 have hcl:(UJ m.ab (λc=>mid c r.sel) (m.kl.length+1) (some c)).map (λx=>cb' x.1)=(UJ m.ab (λc=>mid c r.sel) (m.kl.length+1) (some c)).map (λx=>cb x.1):=by
  cases hx:UJ m.ab (λc=>mid c r.sel) (m.kl.length+1) (some c) with
  | none=>rfl
  | some x=>
   have hlt:=fH hm (PI _ _ x.1 x.2 hx).1 hc;simp[hcb x.1 hlt]
 exact⟨c,VH,by rw[hcb c hc];exact h1,by rw[key,hcl];exact h2,by rw[key];exact h3⟩
def Gl (k:Nat):Prop:=k=0\/k=2\/k=1
structure Qv (w:World):Prop where
 l0:0<w.heap.size
 l1:2<w.heap.size
 l2:1<w.heap.size
 e:Qc w
 p:U7 w
 h:UR w
variable {w : World}
def Qv.lt (h:Qv w){k:Nat}(hk:Gl k):k<w.heap.size:=by
 rcases hk with e|e|e<;>subst e
 . exact h.l0
 . exact h.l1
 . exact h.l2
variable {w' : World}
def Qv.same (h:Qv w)(hs:w.heap.size<=w'.heap.size)(hk:∀k,Gl k->w'.heap[k]?=w.heap[k]?):Qv w':=by
 have he:=hk 0 NP;have hp:=hk 2 oG;have hh:=hk 1 (.inr JQ);refine⟨ZY h.l0 hs,ZY h.l1 hs,ZY h.l2 hs,λa b c d e f hx=>?_,λi v hv=>(Z9 (a:=(VJ _ i)) hp).trans (h.p i v hv),λi v hv=>(Z9 (a:=(VJ _ i)) hh).trans (h.h i v hv)⟩;have h1:=h.e a b c d e f hx;exact⟨(Z9 he).trans h1.c0,(Z9 he).trans h1.c1,(Z9 he).trans h1.c2,(Z9 he).trans h1.c3,(Z9 he).trans h1.c4⟩
def Qv.Ut {S:Nat->Prop}(h:Qv w)(hc:Vt w w' S)(hS:∀k,Gl k->¬S k):Qv w':=h.same hc.size (λk hk=>hc.block k (h.lt hk) (hS k hk))
def ER (cb ob:Nat->Nat):Nat->List Ob->List Value
 | _,[]=>[]
 | i,o::r=>(VG (cb o.cls))::.slice (some (VJ (ob i) 0)) o.slots.length o.slots.length::ER cb ob (i+1) r
theorem xR (cb ob:Nat->Nat):∀(l:List Ob) (k i:Nat) (o:Ob),l[i]?=some o->(ER cb ob k l)[i*2]?=some ((VG (cb o.cls)))/\(ER cb ob k l)[i*2+1]?=some (.slice (some (VJ (ob (k+i)) 0)) o.slots.length o.slots.length)
 | [],k,i,o,h=>MO
 | x::r,k,0,o,h=>by
  simp at h;subst h;exact KP
 | x::r,k,i+1,o,h=>by
  have:=xR cb ob r (k+1) i o Nv;rw[show (i+1)*2=i*2+1+1 from VH,show k+(i+1)=k+1+i from VH];simpa[ER]using this
theorem Kv {cb cb' ob ob':Nat->Nat}:∀(l l':List Ob) (k:Nat),l'.length=l.length->(∀i o o',l[i]?=some o->l'[i]?=some o'->cb' o'.cls=cb o.cls/\ob' (k+i)=ob (k+i)/\o'.slots.length=o.slots.length)->ER cb' ob' k l'=ER cb ob k l
 | [],[],_,_,_=>rfl
 | [],_::_,_,h,_=>MO
 | _::_,[],_,h,_=>MO
 | x::r,x'::r',k,h,hx=>by
  obtain⟨h1,h2,h3⟩:=hx 0 x x' rfl rfl
  have:=Kv (cb:=cb) (cb':=cb') (ob:=ob) (ob':=ob') r r' (k+1) Nv (λi o o' ho ho'=>by
   have:=hx (i+1) o o' (by simpa using ho) (by simpa using ho');rw[show k+1+i=k+(i+1) from VH]
   exact this)
  simp only[Yt]at h2;simp[ER,h1,h2,h3,this]
theorem qE (cb ob:Nat->Nat):∀(l:List Ob) (k:Nat) (o:Ob),ER cb ob k (l++[o])=ER cb ob k l++[VG (cb o.cls),.slice (some (VJ (ob (k+l.length)) 0)) o.slots.length o.slots.length]
 | [],k,o=>rfl
 | x::r,k,o=>by
  have:=qE cb ob r (k+1) o;simp only[YR,ER,this,ZI];rw[show k+1+r.length=k+(r.length+1) from VH]
theorem iE (cb ob:Nat->Nat):∀(l:List Ob) (k i:Nat) (o o':Ob),l[i]?=some o->o'.slots.length=o.slots.length->ER cb ob k (l.set i o')=(ER cb ob k l).set (i*2) ((VG (cb o'.cls)))
 | [],_,_,_,_,h,_=>MO
 | x::r,k,0,o,o',h,hs=>by
  simp at h;subst h;simp[ER,hs]
 | x::r,k,i+1,o,o',h,hs=>by
  have:=iE cb ob r (k+1) i o o' Nv hs;rw[show (i+1)*2=i*2+1+1 from VH];simp[ER,this]
structure OQ (w:World)(cb ob:Nat->Nat)(v:Value)(obs:List Ob):Prop where
 own:w.ownsRow 0 105 2 v obs.length (ER cb ob 0 obs)
 at_:∀i o,obs[i]?=some o->w.heap[ob i]?=some (.cells (vcs o.slots).toArray 33)
 inj:∀i j,i<obs.length->j<obs.length->ob i=ob j->i=j
 nil:obs=[]->v=.slice none 0 0
def KF (ob:Nat->Nat)(v:Value)(n:Nat)(k:Nat):Prop:=v.ownBlock=some k\/∃i,i<n/\k=ob i
def OQ.lt {cb ob:Nat->Nat}{v:Value}{obs:List Ob}(h:OQ w cb ob v obs){k:Nat}(hk:KF ob v obs.length k):k<w.heap.size:=by
 rcases hk with e|⟨i,hi,rfl⟩
 . exact(h.own.lt k e).2
 . exact(Z5.1 (h.at_ i _ (Z8 hi))).1
def OQ.same {cb ob:Nat->Nat}{v:Value}{obs:List Ob}(h:OQ w cb ob v obs)(hk:∀k,KF ob v obs.length k->w'.heap[k]?=w.heap[k]?):OQ w' cb ob v obs:=by
 refine⟨⟨h.own.1,?_⟩,λi o ho=>(hk _ (.inr ⟨i,(Z7.1 ho).1,rfl⟩)).trans (h.at_ i o ho),h.inj,h.nil⟩;rcases h.own.2 with e|⟨g,cap,cur,e,h1,h2,h3⟩
 . exact .inl e
 . exact .inr ⟨g,cap,cur,e,h1,(hk g (.inl Sv)).trans h2,h3⟩
def OQ.kind {cb ob:Nat->Nat}{v:Value}{obs:List Ob}(h:OQ w cb ob v obs){k:Nat}(hk:KF ob v obs.length k):∃cs,w.heap[k]?=some (.cells cs 105)\/w.heap[k]?=some (.cells cs 33):=by
 rcases hk with e|⟨i,hi,rfl⟩
 . rcases h.own.2 with⟨e1,_⟩|⟨g,cap,cur,e1,h1,h1,h3⟩
   . rw[e1]at e;cases e
   . rw[e1]at e;simp[Value.ownBlock]at e;subst e;exact⟨cur,.inl h1⟩
 . exact⟨_,.inr (h.at_ i _ (Z8 hi))⟩
structure Kd where
 b:Nat
 mb:Nat
 cb:Nat->Nat
 cm:Nat->Nat
 lc:List (ByteArray×Value)
 lm:Nat->List (ByteArray×Value)
 mid:Nat->ByteArray->Option Nat
 UC:Nat
 k:Kc
 ov:Value
 ob:Nat->Nat
def Kd.np (K:Kd):Nat:=K.k.np
def o8 (m:Im)(K:Kd)(s:ByteArray)(r:U1):Prop:=r.sel=s/\Ans m K.cb K.mid r
def SrI (m:Im)(K:Kd)(r:U1):Prop:=Ans m K.cb K.mid r\/r=noRow
def U2 (m:Im)(K:Kd)(k:Nat):Prop:=k=K.b\/k=K.mb\/(∃c,c<m.kl.length/\(k=K.cb c\/k=K.cm c))\/Td K.k k\/KF K.ob K.ov m.obs.length k\/∃j,K.k.Mk j/\1<=(K.k.md j).ws.length/\k=(K.k.md j).g
structure Apart (m:Im)(K:Kd):Prop where
 Bc:K.mb≠K.k.sb
 Bo:∀s,K.k.l.lookup s≠some (.map (some K.mb))
 zF:∀c,c<m.kl.length->K.cm c≠K.mb
 IQ:∀c,c<m.kl.length->K.cm c≠K.k.sb
 yQ:∀c s,c<m.kl.length->K.k.l.lookup s≠some (.map (some (K.cm c)))
 DU:∀c d,c<m.kl.length->d<m.kl.length->K.cm c=K.cm d->c=d
structure BG (w:World)(m:Im)(K:Kd):Prop where
 c0:w.cell? (VJ K.b 0)=some (.map (some K.mb))
 c1:w.cell? (VJ K.b 1)=some K.ov
 c2:w.cell? (VJ K.b 2)=some (VI (Go.RowKit.wrap64 (m.looks:Nat)))
 c3:w.cell? (VJ K.b 3)=some (VI (Go.RowKit.wrap64 (K.UC:Nat)))
 c4:w.cell? (VJ K.b 4)=some (VI (K.np:Nat))
structure Ud (w:World)(m:Im)(K:Kd):Prop where
 ok:U3 m
 Uc:Qr w K.b K.k (λ_=>False) (o8 m K) (SrI m K)
 hd:BG w m K
 np6:K.np<=6
 cll:K.UC<=m.looks
 lc:SMap w K.mb K.lc
 iW:∀s,K.lc.lookup s=(m.cls s).map (λc=>(VG (K.cb c)))
 lcn:K.lc.length=m.kl.length
 cls:Cls w m K.cb K.cm
 lm:∀c,c<m.kl.length->SMap w (K.cm c) (K.lm c)
 mid:∀c s,c<m.kl.length->(K.lm c).lookup s=(K.mid c s).map (λk=>(VG k))
 own:∀c s,m.own c s=(K.mid c s).map (λk=>(K.k.md k).ws)
 yZ:∀c s k,K.mid c s=some k->K.k.Mk k
 ap:Apart m K
 obs:OQ w K.cb K.ob K.ov m.obs
 J7:Qv w
 gl:∀k,U2 m K k->¬Gl k
variable {K : Kd}
def Ud.lt (h:Ud w m K){k:Nat}(hk:U2 m K k):k<w.heap.size:=by
 rcases hk with e|e|⟨c,hc,e|e⟩|e|e|⟨j,hj,h1,e⟩
 . subst e;exact h.Uc.tab.Vb.lt
 . subst e;exact h.lc.lt
 . subst e;exact(h.cls.Vb hc).lt
 . subst e;exact(h.lm c hc).lt
 . exact h.Uc.lt e
 . exact h.obs.lt e
 . subst e;exact((h.Uc.mt j hj).LV.Vb h1).lt
def BG.same (h:BG w m K)(e:w'.heap[K.b]?=w.heap[K.b]?):BG w' m K:=
 ⟨(Z9 e).trans h.c0,(Z9 e).trans h.c1,(Z9 e).trans h.c2,(Z9 e).trans h.c3,(Z9 e).trans h.c4⟩
def BG.hd (h:BG w m K)(e:UK w w' K.b):BG w' m K:=
 ⟨(e.cell 0 VH).trans h.c0,(e.cell 1 VH).trans h.c1,(e.cell 2 VH).trans h.c2,(e.cell 3 VH).trans h.c3,(e.cell 4 VH).trans h.c4⟩
def Ud.same (h:Ud w m K)(hk:∀k,U2 m K k->w'.heap[k]?=w.heap[k]?)(hg:Qv w'):Ud w' m K:=by
 have hb:=hk K.b NP
 exact⟨h.ok,h.Uc.same hb (λk e=>hk k adf) (λk e h1=>hk _ (.inr (.inr (.inr (.inr (.inr ⟨k,e,h1,rfl⟩)))))),h.hd.same hb,h.np6,h.cll,h.lc.same (hk _ oG),h.iW,h.lcn,
  h.cls.same (λc hc=>hk _ (.inr (.inr (.inl ⟨c,hc,.inl rfl⟩)))),λc hc=>(h.lm c hc).same (hk _ (.inr (.inr (.inl ⟨c,hc,.inr rfl⟩)))),h.mid,h.own,h.yZ,h.ap,h.obs.same (λk e=>hk k mM),hg,h.gl⟩
def Ud.Ut {S:Nat->Prop}(h:Ud w m K)(hc:Vt w w' S)(hS:∀k,U2 m K k->¬S k)(hg:∀k,Gl k->¬S k):Ud w' m K:=h.same (λk e=>hc.block k (h.lt e) (hS k e)) (h.J7.Ut hc hg)
def Ud.below (h:Ud w m K)(hb:Below w.heap.size w w'):Ud w' m K:=h.Ut (Vt.of_below hb (λ_=>False)) (λ_ _ e=>e) (λ_ _ e=>e)
def Ud.drew (h:Ud w m K):Ud w.drew m K:=h.same Ji (h.J7.same UM Ji)
structure Step (w w':World)(m:Im)(K:Kd)(m':Im)(K':Kd):Prop where
 Ub:Ud w' m' K'
 b:K'.b=K.b
 np:K'.np=K.np
 Ut:Vt w w' (U2 m K)
 foot:∀k,U2 m' K' k->U2 m K k\/w.heap.size<=k
 len:m.kl.length<=m'.kl.length
 cb:∀c,c<m.kl.length->K'.cb c=K.cb c
 md:∀k,K.k.Mk k->K'.k.Mk k/\K'.k.md k=K.k.md k
variable {w1 w2 : World}
def Step.trans {m m1 m2:Im}{K K1 K2:Kd}(h:Step w w1 m K m1 K1)(h':Step w1 w2 m1 K1 m2 K2):Step w w2 m K m2 K2:=
 ⟨h'.Ub,h'.b.trans h.b,h'.np.trans h.np,h.Ut.then h'.Ut (λk hk e=>by rcases h.foot k e with e|e;exact e;omega),λk e=>by
  rcases h'.foot k e with e|e
  . exact h.foot k e
  . have:=h.Ut.size
    exact .inr VH,ZC h.len h'.len,λc hc=>(h'.cb c (ZY hc h.len)).trans (h.cb c hc),λk hk=>⟨(h'.md k (h.md k hk).1).1,(h'.md k (h.md k hk).1).2.trans (h.md k hk).2⟩⟩
def Step.below (h:Ud w m K)(hb:Below w.heap.size w w'):Step w w' m K m K:=
 ⟨h.below hb,rfl,rfl,Vt.of_below hb _,λk e=>.inl e,ZN _,λ_ _=>rfl,λ_ hk=>yg⟩
def Step.refl (h:Ud w m K):Step w w m K m K:=Step.below h (ZR _ _)
def Ud.look (h:Ud w m K)(s:ByteArray):(Instr.lookup 55 (.map (some K.mb)) (.string s) false).run prog w=.ok (.pointer (Vq ((m.cls s).map K.cb))) w:=by
 rw[P8 w K.mb K.lc h.lc,h.iW s];cases m.cls s<;>rfl
def OO {s:ByteArray}{c:Nat}(h:m.cls s=some c):c<m.kl.length:=by
 obtain⟨k,hk,_⟩:=RJ h;exact(Z7.1 hk).1
def Ud.iK (h:Ud w m K){c:Nat}(hc:c<m.kl.length)(s:ByteArray):(Instr.lookup 99 (.map (some (K.cm c))) (.string s) false).run prog w=.ok (.pointer (Vq (K.mid c s))) w:=by
 rw[Je w (K.cm c) (K.lm c) (h.lm c hc),h.mid c s hc];cases K.mid c s<;>rfl
end Go.Proofs.Rz
namespace Kn
open Go
structure Nk (m m':Im)(c0:Nat)(sel:ByteArray)(x:Option (List (W×Nat))):Prop where
 len:m'.kl.length=m.kl.length
 kl:∀(c:Nat) (k:Kl),m.kl[c]?=some k->∃k':Kl,m'.kl[c]?=some k'/\k'.name=k.name/\k'.above=k.above/\k'.tot=k.tot
 own:∀c s,m'.own c s=if c=c0/\s=sel then x else m.own c s
 looks:m'.looks=m.looks
 obs:m'.obs=m.obs
variable {m m' : Im}
def Nk.ab {c0:Nat}{sel:ByteArray}{x:Option (List (W×Nat))}(h:Nk m m' c0 sel x):m'.ab=m.ab:=by
 funext c;unfold Im.ab
 cases hk:m.kl[c]? with
 | none=>
  have h1:=WA.1 hk;have:=WA.2 (by rw[h.len];exact h1);rw[this]
 | some k=>
  obtain⟨k',h1,_,h2,_⟩:=h.kl c k hk;rw[h1];exact h2
theorem NY {α:Type}(f:α->ByteArray)(s:ByteArray):∀(l l':List α),l'.length=l.length->(∀(c:Nat) (k:α),l[c]?=some k->∃k':α,l'[c]?=some k'/\f k'=f k)->l'.findIdx? (λk=>f k==s)=l.findIdx? (λk=>f k==s)
 | [],[],_,_=>rfl
 | [],_::_,h,_=>MO
 | _::_,[],h,_=>MO
 | x::r,x'::r',h,hx=>by
  obtain⟨k',e1,e2⟩:=hx 0 x rfl;simp at e1;subst e1;have:=NY f s r r' Nv (λc k hk=>by simpa using hx (c+1) k (by simpa using hk));simp only[WC,e2,this]
def Nk.cls {c0:Nat}{sel:ByteArray}{x:Option (List (W×Nat))}(h:Nk m m' c0 sel x)(s:ByteArray):m'.cls s=m.cls s:=
 NY Kl.name s _ _ h.len (λc k hk=>by obtain⟨k',h1,h2,_⟩:=h.kl c k hk;exact⟨k',h1,h2⟩)
def gX {c0:Nat}(hc:c0<m.kl.length)(f:Kl->Kl)(c:Nat)(s:ByteArray):(m.UY c0 f).own c s=if c=c0 then (m.kl[c0]?.bind (λk=>(f k).own s)) else m.own c s:=by
 unfold Im.own;rw[SL];by_cases e:c=c0
 . subst e;simp[Option.bind_map,Function.comp_def]
 . have e':¬c0=c:=λh=>e h.symm;simp[e,e']
def afU (k:Kl)(x:Mt)(s:ByteArray):(k.put x).own s=if s=x.sel then some x.ws else k.own s:=by
 unfold Kl.put Kl.own;simp only;rw[List.find?_append];by_cases e:s=x.sel
 . subst e
   have:(k.ms.filter (λy=>!(y.sel==x.sel))).find? (λy=>y.sel==x.sel)=none:=by
    rw[Xp];intro y hy;simp only[XM]at hy;simpa using hy.2
   rw[this];simp[Tq]
 . rw[ZX e]
   have h1:([x]:List Mt).find? (λy=>y.sel==s)=none:=by
    simp[List.find?_cons,(Vf x.sel s).2 JR]
   rw[h1,Option.or_none];congr 1;rw[List.find?_filter];congr 1;funext y
   cases hy:(y.sel==s) with
   | false=>simp
   | true=>
    have:=(SK y.sel s).1 hy;rw[this,(Vf s x.sel).2 e];rfl
def acp (k:Kl)(sel s:ByteArray):(k.drop sel).own s=if s=sel then none else k.own s:=by
 unfold Kl.drop Kl.own;simp only;rw[List.find?_filter];by_cases e:s=sel
 . subst e;rw[ZU rfl]
   have:k.ms.find? (λy=>decide (!(y.sel==s))&&(y.sel==s))=none:=by
    rw[Xp];intro y _;cases hy:(y.sel==s)<;>simp
   simp only[Option.map_eq_none_iff];rw[Xp];intro y _;cases hy:(y.sel==s)<;>simp
 . rw[ZX e];congr 1;congr 1;funext y
   cases hy:(y.sel==s) with
   | false=>simp
   | true=>
    have:=(SK y.sel s).1 hy;rw[this,(Vf s sel).2 e];rfl
def F9 {c0:Nat}(hc:c0<m.kl.length)(x:Mt):Nk m (m.UY c0 (·.put x)) c0 x.sel (some x.ws):=by
 refine⟨O6 _ _ _,λc k hk=>?_,λc s=>?_,rfl,rfl⟩
 . exact ant
 . rw[gX hc];by_cases e:c=c0
   . subst e;rw[ZU rfl];unfold Im.own;rw[Z8 hc];simp only[YA,afU,true_and]
   . rw[ZX e,ZX (λh=>e h.1)]
def wF {c0:Nat}(hc:c0<m.kl.length)(sel:ByteArray):Nk m (m.UY c0 (·.drop sel)) c0 sel none:=by
 refine⟨O6 _ _ _,λc k hk=>?_,λc s=>?_,rfl,rfl⟩
 . exact ant
 . rw[gX hc];by_cases e:c=c0
   . subst e;rw[ZU rfl];unfold Im.own;rw[Z8 hc];simp only[YA,acp,true_and]
   . rw[ZX e,ZX (λh=>e h.1)]
end Kn
namespace Go.Proofs.Rz
open ChangeShapes WideShapes ChangeAt RowKit Kn Iz Tryz
variable {w : World}
variable {m : Im}
variable {K : Kd}
def Ud.sF (h:Ud w m K):(∀s r,o8 m K s r->Nw m K.cb r/\r.sel=s)/\∀r,SrI m K r->Nw m K.cb r:=
 ⟨λs r hr=>⟨.inl (hr.2.aop h.ok),hr.1⟩,λr hr=>by rcases hr with hr|hr;exact .inl (hr.aop h.ok);exact .inr hr⟩
def Kd.meth (K:Kd)(c0:Nat)(sel:ByteArray)(x:Option Nat)(Hx:List (ByteArray×Value))(kc:Kc):Kd:=
 {K with lm:=λc=>if c=c0 then Hx else K.lm c,mid:=λc s=>if c=c0/\s=sel then x else K.mid c s,k:=kc}
structure Grew (N:Nat)(K kc:Kc):Prop where
 np:kc.np=K.np
 sb:kc.sb=K.sb
 n:kc.n=K.n
 l:∀s ib,kc.l.lookup s=some (.map (some ib))->K.l.lookup s=some (.map (some ib))\/N<=ib
 blk:∀k,Td kc k->Td K k\/N<=k
 g:∀j,kc.Mk j->1<=(kc.md j).ws.length->(K.Mk j/\kc.md j=K.md j)\/N<=(kc.md j).g
 md:∀k,K.Mk k->kc.Mk k/\kc.md k=K.md k
def Grew.gW {N:Nat}{K:Kc}{l:List (ByteArray×Value)}{ps:Nat->List Nat}{pm:Nat->Mm}{R:Nat->U1}(h:Kept N K l pm):Grew N K {K with l:=l,ps:=ps,pm:=pm,R:=R}:=
 ⟨rfl,rfl,rfl,h.l,λk hk=>Td.old (K:=K) (ps:=ps) (R:=R) hk h.l h.arr,λj hj _=>.inl ⟨hj,rfl⟩,λk hk=>yg⟩
variable {w' : World}
variable {m' : Im}
def Ud.jB (h:Ud w m K){c0:Nat}{sel:ByteArray}{x:Option Nat}{Hx:List (ByteArray×Value)}{kc:Kc}(hc0:c0<m.kl.length)(hm':U3 m')(ho:Nk m m' c0 sel (x.map (λk=>(kc.md k).ws)))
 (E':Qr w' K.b kc (λ_=>False) (λs r=>o8 m K s r/\SI m K.cb c0 sel r=false) (λr=>(SrI m K r/\SI m K.cb c0 sel r=false)\/r=noRow)) (hgr:Grew w.heap.size K.k kc) (hx:∀k,x=some k->kc.Mk k)
 (hlm:SMap w' (K.cm c0) Hx) (hlk:∀s,Hx.lookup s=if s=sel then x.map (λk=>(VG k)) else (K.lm c0).lookup s) (hch:Vt w w' (λj=>j=K.b\/j=K.cm c0\/Td K.k j)) (hd:UK w w' K.b):
 Step w w' m K m' (K.meth c0 sel x Hx kc):=by
 have hmid:∀c s,¬(c=c0/\s=sel)->(if c=c0/\s=sel then x else K.mid c s)=K.mid c s:=λc s e=>ZX e;have Ms:∀r,Ans m K.cb K.mid r->SI m K.cb c0 sel r=false->Ans m' K.cb (K.meth c0 sel x Hx kc).mid r:=λr hr hl=>hr.ow h.ok hl ho.ab ho.len hmid
 have hcb:∀c,c<m.kl.length->¬(K.cb c=K.b\/K.cb c=K.cm c0\/Td K.k (K.cb c)):=λc hc e=>by
  rcases e with e|e|e
  . exact(h.Uc.vI h.cls hc).2 e
  . exact UA (h.cls.Vb hc) (h.lm c0 hc0) e
  . exact(h.Uc.vI h.cls hc).1 e
 have hcm:∀c,c<m.kl.length->c≠c0->¬(K.cm c=K.b\/K.cm c=K.cm c0\/Td K.k (K.cm c)):=λc hc hne e=>by
  obtain⟨es,ck,hx,_⟩:=id (h.lm c hc);have hn:=h.Uc.dO hx (h.ap.IQ c hc) aga;rcases e with e|e|e
  . exact hn.2 e
  . exact hne (h.ap.DU c c0 hc hc0 e)
  . exact hn.1 e
 have hmb:¬(K.mb=K.b\/K.mb=K.cm c0\/Td K.k K.mb):=λe=>by
  obtain⟨es,ck,hx,_⟩:=id h.lc;have hn:=h.Uc.dO hx h.ap.Bc h.ap.Bo;rcases e with e|e|e
  . exact hn.2 e
  . exact h.ap.zF c0 hc0 e.symm
  . exact hn.1 e
 have Ra:∀k,KF K.ob K.ov m.obs.length k->¬(k=K.b\/k=K.cm c0\/Td K.k k):=λk hk e=>by
  obtain⟨cs,hcs⟩:=h.obs.kind hk;have XX:UL w k:=by rcases hcs with e|e<;>exact⟨_,_,e⟩
  rcases e with e|e|e
  . exact anl
  . exact UA XX (h.lm c0 hc0) e
  . rcases hcs with hc|hc
    . exact h.Uc.other hc Vz Vz Vz e
    . exact h.Uc.other hc Vz Vz Vz e
 have V':∀k,U2 m' (K.meth c0 sel x Hx kc) k->U2 m K k\/w.heap.size<=k:=λk e=>by
  rcases e with e|e|⟨c,hc,e⟩|e|e|⟨j,hj,h1,e⟩
  . exact .inl (.inl e)
  . exact .inl vJ
  . exact .inl (.inr (.inr (.inl ⟨c,adY,e⟩)))
  . exact ac2
  . rw[ho.obs]at e;exact .inl mM
  . rcases hgr.g j hj h1 with⟨h2,h3⟩|h2
    . have h1':1<=(K.k.md j).ws.length:=by rw[<- h3];exact h1
      have e':k=(K.k.md j).g:=by rw[<- h3];exact e
      exact .inl (.inr (.inr (.inr (.inr (.inr ⟨j,h2,h1',e'⟩)))))
    . exact .inr (by rw[e];exact h2)
 have Wa:Vt w w' (U2 m K):=hch.mono (λk _ e=>by
  rcases e with e|e|e
  . exact .inl e
  . exact .inr (.inr (.inl ⟨c0,hc0,.inr e⟩))
  . exact .inr EP)
 have AW:=h.J7.Ut Wa dY;have Pr:(K.meth c0 sel x Hx kc).np=K.np:=hgr.np;refine⟨⟨hm',E'.weaken (λs r hr=>⟨hr.1.1,Ms r hr.1.2 hr.2⟩) (λr hr=>?_),?_,Pr ▸ h.np6,?_,h.lc.same (hch.block _ h.lc.lt hmb),λs=>?_,?_,?_,λc hc=>?_,λc s hc=>?_,λc s=>?_,λc s k hk=>?_,?_,?_,AW,λk hk hg=>?_⟩,rfl,Pr,Wa,V',by rw[ho.len];exact ZN _,λ_ _=>rfl,hgr.md⟩
 . exact ajQ
 . have:=h.hd.hd hd;exact⟨this.c0,this.c1,by rw[ho.looks];exact this.c2,this.c3,by rw[Pr];exact this.c4⟩
 . rw[ho.looks];exact h.cll
 . rw[ho.cls s];exact h.iW s
 . rw[ho.len];exact h.lcn
 . refine⟨λc k hk=>?_,λc d hc hd=>h.cls.inj c d adY (by rw[<- ho.len];exact hd)⟩;have hc:c<m.kl.length:=by rw[<- ho.len];exact(Z7.1 hk).1
   obtain⟨k',h1,h2,h3,h4⟩:=ho.kl c _ (Z8 hc);rw[hk]at h1;injection h1 with h1;subst h1;rw[h2,h3,h4];exact(hch.block _ (h.cls.Vb hc).lt (hcb c hc)).trans (h.cls.at_ c _ (Z8 hc))
 . have hc':c<m.kl.length:=by rw[<- ho.len];exact hc
   by_cases e:c=c0
   . subst e;show SMap w' (K.cm c) (if c=c then Hx else K.lm c);rw[ZU rfl];exact hlm
   . show SMap w' (K.cm c) (if c=c0 then Hx else K.lm c);rw[ZX e];exact(h.lm c hc').same (hch.block _ (h.lm c hc').lt (hcm c hc' e))
 . have hc':c<m.kl.length:=by rw[<- ho.len];exact hc
   show (if c=c0 then Hx else K.lm c).lookup s=(if c=c0/\s=sel then x else K.mid c s).map _;by_cases e:c=c0
   . subst e;rw[ZU rfl,hlk s];by_cases e2:s=sel
     . rw[ZU e2,ZU ⟨rfl,e2⟩]
     . rw[ZX e2,ZX (λh=>e2 h.2)];exact h.mid c s hc'
   . rw[ZX e,ZX (λh=>e h.1)];exact h.mid c s hc'
 . show m'.own c s=(if c=c0/\s=sel then x else K.mid c s).map (λk=>(kc.md k).ws);rw[ho.own c s];by_cases e:c=c0/\s=sel
   . rw[ZU e,ZU e]
   . rw[ZX e,ZX e,h.own c s]
     cases hk:K.mid c s with
     | none=>rfl
     | some k=>simp only[ZG];rw[(hgr.md k (h.yZ c s k hk)).2]
 . have hk':(if c=c0/\s=sel then x else K.mid c s)=some k:=hk;by_cases e:c=c0/\s=sel
   . rw[ZU e]at hk';exact hx k hk'
   . rw[ZX e]at hk';exact(hgr.md k (h.yZ c s k hk')).1
 . have hnew:∀k s,k<w.heap.size->K.k.l.lookup s≠some (.map (some k))->kc.l.lookup s≠some (.map (some k)):=λk s hk hn e=>by
    rcases hgr.l s k e with e|e
    . exact hn e
    . omega
   refine⟨?_,λs=>hnew _ s h.lc.lt (h.ap.Bo s),λc hc=>h.ap.zF c adY,λc hc=>?_,λc s hc=>?_,λc d hc hd=>h.ap.DU c d adY (by rw[<- ho.len];exact hd)⟩
   . show K.mb≠kc.sb;rw[hgr.sb];exact h.ap.Bc
   . show K.cm c≠kc.sb;rw[hgr.sb];exact h.ap.IQ c adY
   . have hc':c<m.kl.length:=by rw[<- ho.len];exact hc
     exact hnew _ s (h.lm c hc').lt (h.ap.yQ c s hc')
 . rw[ho.obs];exact h.obs.same (λk hk=>hch.block k (h.obs.lt hk) (Ra k hk))
 . exact zx
def Ud.rG (h:Ud w m K){c:Nat}{s:ByteArray}(e:K.mid c s=none):m.own c s=none:=by rw[h.own,e];rfl
def Ud.Oz (h:Ud w m K){c k:Nat}{s:ByteArray}(e:K.mid c s=some k):m.own c s=some (K.k.md k).ws:=by rw[h.own,e];rfl
def pY (h:Ud w m K)(cn sel:ByteArray):
 Calls prog 19 #[VG K.b,.string cn,.string sel] w λe w'=>e=.returned (VI (m.drop cn sel).1)/\∃K',Step w w' m K (m.drop cn sel).2 K':=by
 have lk:=h.look cn;have c0:=h.hd.c0
 cases hcl:m.cls cn with
 | none=>
  have hdr:m.drop cn sel=(2,m):=by unfold Im.drop;rw[hcl]
  rw[hdr];rw[hcl]at lk;simp only[Zm,Vq]at lk;have HS:=UQ (Step.refl h);clear h hdr hcl;go_enter func19,ntmps19;go_wp2
  go_ret
  exact Ou
 | some c=>
  have hc:=OO hcl;rw[hcl]at lk;simp only[ZG,Vq]at lk;have c0:=h.cls.meth hc;have Tl:=h.iK hc sel
  cases Vn:K.mid c sel with
  | none=>
   have hdr:m.drop cn sel=(4,m):=by unfold Im.drop;rw[hcl];simp only;rw[h.rG Vn]
   rw[hdr];rw[Vn]at Tl;simp only[Zm,Vq]at Tl;have HS:=UQ (Step.refl h);clear h hdr hcl;go_enter func19,ntmps19;go_wp2
   go_ret
   exact Ou
  | some k=>
   have hdr:m.drop cn sel=(0,m.UY c (·.drop sel)):=by unfold Im.drop;rw[hcl];simp only;rw[h.Oz Vn]
   have hok:=(yw h.ok cn sel).1;rw[hdr]at hok ⊢;rw[Vn]at Tl;simp only[ZG,Vq]at Tl
   have hcall:Calls prog 49 #[VG K.b,VG (K.cb c),.string sel] w λe w'=>e=.returned (.tuple #[])/\∃K',Step w w' m K (m.UY c (·.drop sel)) K':=by
    refine(xE h.Uc m K.cb K.cm c k sel (K.lm c) h.ok hc h.cls (h.lm c hc) (h.ap.IQ c hc) aga (h.yZ c sel k Vn) (by rw[h.mid c sel hc,Vn];rfl) h.sF.1 h.sF.2).mono ?_;rintro e w' ⟨rfl,l,ps,pm,R,E',hsm,Z2,hch,hd⟩;exact⟨rfl,_,h.jB (x:=none) hc hok (wF hc sel) E' (Grew.gW Z2) (λk e=>EO) hsm (λs=>by rw[Na];rfl) hch hd⟩
   clear h hdr hcl hok;go_enter func19,ntmps19;go_wp2_with fail;refine hcall.mono ?_;rintro e w' ⟨rfl,hS⟩;go_wp2
   go_ret
   exact⟨rfl,hS⟩
def JG (ws:List (Kn.W×Nat))(k:Nat)(x:Kn.W×Nat)(hx:ws[k]?=some x):greatest (ws.take (k+1))=if x.1.k=103\/x.1.k=112 then max (greatest (ws.take k)) (x.1.n.toNat+1) else greatest (ws.take k):=by
 unfold greatest;rw[Yc,hx,Option.toList_some,Wy];rfl
theorem qh {ws:List (Kn.W×Nat)}(h:∀(i:Nat) (x:Kn.W×Nat),ws[i]?=some x->(x.1.k=103\/x.1.k=112)->x.1.n<10):∀k,k<=ws.length->greatest (ws.take k)<=10
 | 0,_=>by simp[greatest]
 | k+1,hk=>by
  obtain⟨x,hx⟩:∃x,ws[k]?=some x:=⟨_,Z8 VH⟩
  rw[JG ws k x hx];have ih:=qh h k VH;by_cases e:x.1.k=103\/x.1.k=112
  . rw[ZU e];have:=h k x hx e;omega
  . rw[ZX e];exact ih
def mV (L:List (Nat×ByteArray))(k0:Nat)(d:Md)(w:World)(hm:ML w L k0 d)(hs:∀(i:Nat) (x:Kn.W×Nat),d.ws[i]?=some x->(x.1.k=103\/x.1.k=112)->0<=x.1.n/\x.1.n<10)(hf:∀(i:Nat) (x:Kn.W×Nat),d.ws[i]?=some x->Pv x.1):
 Calls prog 67 #[VG k0] w λe w'=>e=.returned (VI (greatest d.ws:Nat))/\Below w.heap.size w w':=by
 obtain⟨n0,hb⟩:=hm.blk;have m0:w.cell? (VJ k0 0)=some (.slice d.p d.ws.length d.cap):=by simp only[World.cell?,hb];rfl
 have hn:=hm.len;have HM:=UQ hm.LV;have HS:Hid _:=hs;have HF:Hid _:=hf;clear hm hs hf hb;obtain⟨ws,p,g,cap,pl⟩:=d;simp only at m0 hn HM HS HF ⊢;go_enter func67,ntmps67;go_wp2
 go_loopw [3,11] (λt i wr=>∃k:Nat,i=VI k/\k<=ws.length/\t=VI (greatest (ws.take k):Nat)/\Below w.heap.size w wr) (λ_ i _=>ws.length-(intOf i).toNat)
 case atStart=>exact⟨0,rfl,VH,rfl,ZR _ _⟩
 case round=>
  obtain⟨k,rfl,hk,rfl,L_⟩:=hrel;by_cases hkn:k<ws.length
  . refine BH ?_;intro x hx;have hm:=HM.o;obtain rfl:p=some (VJ g 0):=hm.head VH;have ra:=(hm.Vb VH).lt;have hwr:=hm.same (L_.block g ra);refine aa9 ?_;intro c0 c1 c2 c3 c4 c5;obtain⟨q,hq⟩:∃q,(if k<ws.length/\UO x.1=true then some (VJ (pl k) 0) else none)=q:=Vx;rw[hq]at c5;have hgr:=JG ws k x hx;have ym:=HS.o k x hx;obtain⟨t,l,sd,jp,st,he⟩:=vM x.1.k x.1.n (HF.o k x hx).kind;have hsl:=he.slot;have HB:Hid _:=L_;have hsz:=L_.size;have hcall:=NQ (kindOf x.1.k) x.1.n (VF x.1.a) (VF x.1.sel) (VF x.1.b) (wr.alloc (.cells #[VI (kindOf x.1.k:Nat),VI x.1.n,.string (VF x.1.a),.string (VF x.1.sel),.string (VF x.1.b),.pointer q] 146)) (q:=q);have hz:=(Z4 wr (.cells #[VI (kindOf x.1.k:Nat),VI x.1.n,.string (VF x.1.a),.string (VF x.1.sel),.string (VF x.1.b),.pointer q] 146)).1;clear hm hwr L_ he hq m0 ra
    cases DM:Jt (kindOf x.1.k) with
    | false=>
     rw[DM]at hcall;have hno:¬(x.1.k=103\/x.1.k=112):=λe=>by have:=hsl.2 e;rw[DM]at this;cases this
     rw[ZX hno]at hgr;have HG:Hid _:=hgr;clear ym hsl DM hno hgr hx;go_wp2_with fail;refine hcall.mono ?_;rintro e w2 ⟨rfl,hb2⟩;have Uv:=UQ ((HB.o.alloc hsz _).trans (hb2.mono Vo));clear hb2 hcall c0 c1 c2 c3 c4 c5;go_wp2
     go_roundw
     case rel=>exact⟨k+1,Uu,VH,by rw[HG.o],Uv.o⟩
     case measure=>simp[intOf]<;>omega
    | true=>
     rw[DM]at hcall;have GD:=hsl.1 DM;rw[ZU GD]at hgr;obtain⟨hn0,sX⟩:=ym GD
     obtain⟨xn,F4⟩:∃xn:Nat,x.1.n=(xn:Int):=⟨x.1.n.toNat,VH⟩
     rw[F4]at hgr hcall hz sX;rw[Zp]at hgr;have HG:Hid _:=hgr;rw[F4]at c1;clear ym hsl DM GD hgr hx hn0 F4;go_wp2_with fail;refine hcall.mono ?_;rintro e w2 ⟨rfl,hb2⟩;have Uv:=UQ ((HB.o.alloc hsz _).trans (hb2.mono Vo))
     have z1:w2.cell? (VJ wr.heap.size 1)=some (VI (xn:Nat)):=by
      refine(hb2.cell (p:=(VJ wr.heap.size 1)) Vy).trans ?_;simp only[World.cell?,hz];rfl
     clear hb2 hcall c0 c1 c2 c3 c4 c5;go_wp2
     go_roundw
     case rel=>exact⟨k+1,Uu,VH,by rw[HG.o];congr 1;split<;>omega,Uv.o⟩
     case measure=>simp[intOf]<;>omega
  . obtain rfl:k=ws.length:=by omega
    rw[Yv];go_wp2
    go_ret
    exact⟨rfl,L_⟩
def abV (h:Ud w m K){t k:Nat}(ht:t<m.kl.length)(hk:K.k.Mk k)(sel:ByteArray)(hok:U3 (m.UY t (·.put ⟨sel,(K.k.md k).ws⟩))):
 Calls prog 44 #[VG K.b,VG (K.cb t),.string sel,VG k] w λe w'=>e=.returned (.tuple #[])/\∃K',Step w w' m K (m.UY t (·.put ⟨sel,(K.k.md k).ws⟩)) K':=by
 refine(ru h.Uc m K.cb K.cm t k sel (K.lm t) (K.mid t sel) h.ok ht h.cls (h.lm t ht) (h.ap.IQ t ht) (λs=>h.ap.yQ t s ht) hk (.inl (λ_ e=>e)) (h.mid t sel ht) (λk0 e=>h.yZ t sel k0 e) h.sF.1 h.sF.2).mono ?_;rintro e w' ⟨rfl,l,ps,pm,R,E',hsm,Z2,hch,hd⟩;exact⟨rfl,_,h.jB (sel:=sel) (x:=some k) (kc:={K.k with l:=l,ps:=ps,pm:=pm,R:=R}) ht hok (F9 ht ⟨sel,(K.k.md k).ws⟩) E' (Grew.gW Z2) (λk' e=>by injection e with e;subst e;exact hk) hsm (λs=>by rw[S9];rfl) hch hd⟩
def Ud.aeS (h:Ud w m K){c:Nat}{s:ByteArray}{ws:List (Kn.W×Nat)}(ho:m.own c s=some ws):(∀(i:Nat) (x:Kn.W×Nat),ws[i]?=some x->(x.1.k=103\/x.1.k=112)->0<=x.1.n/\x.1.n<10)/\∀(i:Nat) (x:Kn.W×Nat),ws[i]?=some x->Pv x.1:=by
 obtain⟨_,hg⟩:=IZ h.ok ho;refine⟨λi x hx e=>⟨(hg.shp i x hx).low (by rcases e with e|e;exact .inr (.inl e);exact .inr (.inr e)),?_⟩,hg.fine⟩;have hi:=(Z7.1 hx).1;have hn:=hg.num i hi;have hw:EG ws i=x.1:=ql
 have htot:m.tot c<=10:=by
  obtain⟨k,_,hk,_⟩:=Kn.Oz ho;rw[Nl hk];exact h.ok.tot c k hk
 apply Zt;intro hlt;refine hn (.inr ?_);unfold TG;rw[hw];exact⟨e,VH⟩
def acQ (h:Ud w m K)(cn sel to:ByteArray)(hsz:sel.size<=140737488355328):
 Calls prog 32 #[VG K.b,.string cn,.string sel,.string to] w λe w'=>e=.returned (VI (m.copy cn sel to).1)/\∃K',Step w w' m K (m.copy cn sel to).2 K':=by
 refine ajc ?_;intro lk RB c0 HS
 cases hcl:m.cls cn with
 | none=>
  have hdr:m.copy cn sel to=(2,m):=by unfold Im.copy;rw[hcl]
  rw[hdr];obtain⟨v,hv⟩:∃v,Vq ((m.cls to).map K.cb)=v:=Vx;rw[hcl]at lk;simp only[Zm,Vq]at lk;rw[hv]at RB;clear h hdr hcl hv;go_enter func32,ntmps32;go_wp2_with fail
  go_region
  go_wp2
  go_ret
  exact Ou
 | some c=>
  have hc:=OO hcl;rw[hcl]at lk;simp only[ZG,Vq]at lk
  cases y':m.cls to with
  | none=>
   have hdr:m.copy cn sel to=(2,m):=by unfold Im.copy;rw[hcl,y']
   rw[hdr];rw[y']at RB;simp only[Zm,Vq]at RB;clear h hdr hcl y';go_enter func32,ntmps32;go_wp2_with fail
   go_region
   go_wp2
   go_ret
   exact Ou
  | some t=>
   have ht:=OO y';rw[y']at RB;simp only[ZG,Vq]at RB;have c4:=h.cls.meth hc;have Tl:=h.drew.iK hc sel
   cases Vn:K.mid c sel with
   | none=>
    have hdr:m.copy cn sel to=(4,m):=aot;rw[hdr];rw[Vn]at Tl;simp only[Zm,Vq]at Tl;clear h hdr hcl;go_enter func32,ntmps32;go_wp2_with fail
    go_region
    go_wp2
    go_ret
    exact Ou
   | some k=>
    rw[Vn]at Tl;simp only[ZG,Vq]at Tl;have how:=h.Oz Vn;have hsl:=h.aeS how;have hmk:=h.yZ c sel k Vn;have F2:m.copy cn sel to=if m.tot t<greatest (K.k.md k).ws then (7,m) else (0,m.UY t (·.put ⟨sel,(K.k.md k).ws⟩)):=by unfold Im.copy;rw[hcl,y'];simp only;rw[how]
    have hok:=(xC h.ok cn sel to).1
    have Ks:w.cell? (VJ (K.cb t) 3)=some (VI (m.tot t:Nat)):=by
     have:=h.cls.at_ t _ (Z8 ht);rw[Nl (Z8 ht)];refine FK ?_;rfl
    have htl:=ZE w (VJ (K.cb t) 3) Ks;have HH:Hid _:=h
    have HK:Hid (K.k.Mk k/\t<m.kl.length):=⟨hmk,ht⟩
    have R2:∀W:World,Below w.heap.size w W->Calls prog 67 #[VG k] W λe w'=>e=.returned (VI (greatest (K.k.md k).ws:Nat))/\Below W.heap.size W w':=λW hW=>mV K.k.L k (K.k.md k) W ((h.below hW).Uc.mt k hmk) hsl.1 hsl.2;have Iv:=R2 w.drew.drew uq;obtain⟨cr,hcr⟩:∃cr,m.copy cn sel to=cr:=Vx;rw[hcr]at hok F2 ⊢;clear h hcl y' Vn hmk hsl how R2 hcr;go_enter func32,ntmps32;go_wp2_with fail
    go_region
    go_wp2_with fail;clear c0 c4 lk RB Tl;refine Uy ?_;refine ZT (S:=(λw'=>w'.cell? (VJ (K.cb t) 3)=some (VI (m.tot t:Nat)))) VE UG (λhHeld=>?_);refine Uh 0 ?_;refine Uh 2 ?_;refine aa7 ?_;refine Ur 5 ?_;refine Ul 1 λY_ Z_=>?_;go_simp;refine Iv.mono ?_;rintro e w2 ⟨rfl,hb2⟩;have ia:=(hb2.cell (p:=(VJ (K.cb t) 3)) htl).trans Ks
    try go_wp2_with fail
    refine Z_.go λhHeld=>?_;clear Z_ Y_
    try refine UE ?_
    refine Ur 6 ?_;refine Nr ?_;clear hHeld;clear hHeld
    have HB:Hid (Below w.heap.size w w2):=by
     have hx1:=RH (RH hb2);exact hx1
    clear hb2 Iv Ks;by_cases hlt:m.tot t<greatest (K.k.md k).ws
    . rw[ZU hlt]at F2;subst F2;clear hok;go_wp2
      go_ret
      exact⟨rfl,K,Step.below HH.o HB.o⟩
    . rw[ZX hlt]at F2;subst F2;have HO:Hid _:=hok;clear hok;go_wp2_with fail;refine(clone_any sel _ hsz).mono ?_;rintro e w2 ⟨rfl,hb2⟩;have VM:=UQ (HB.o.trans (hb2.mono HB.o.size));have hcall:=abV (HH.o.below VM.o) HK.o.2 HK.o.1 sel HO.o;clear hb2;go_wp2_with fail;refine hcall.mono ?_;rintro e w2 ⟨rfl,K',hS⟩
      have cx:Hid (∃K',Step w w2 m K (m.UY t (·.put ⟨sel,(K.k.md k).ws⟩)) K'):=by
       have hx1:∃K',Step w w2 m K (m.UY t (·.put ⟨sel,(K.k.md k).ws⟩)) K':=⟨K',(Step.below HH.o VM.o).trans hS⟩
       exact hx1
      clear hS hcall;go_wp2
      go_ret
      exact⟨rfl,cx.o⟩
end Go.Proofs.Rz
namespace Kn
open Go
variable {m m' : Im}
def aal (hl:m'.kl.length=m.kl.length)(hk:∀(c:Nat) (k:Kl),m.kl[c]?=some k->∃k':Kl,m'.kl[c]?=some k'/\k'.name=k.name)(s:ByteArray):m'.cls s=m.cls s:=NY Kl.name s _ _ hl hk
def xZ (h:U3 m){s:ByteArray}{c:Nat}(hc:m.cls s=some c):(c=0↔s=⟨#[65,110,121]⟩)/\(c=1↔s=⟨#[73,110,116]⟩):=by
 obtain⟨k,hk,hn⟩:=RJ hc;obtain⟨ms0,h0⟩:=h.any;obtain⟨ms0,h1⟩:=h.int;refine⟨⟨λe=>?_,λe=>?_⟩,⟨λe=>?_,λe=>?_⟩⟩
 . subst e;rw[h0]at hk;injection hk with hk;rw[<- hn,<- hk]
 . exact h.once c 0 k _ hk h0 (by rw[hn,e])
 . subst e;rw[h1]at hk;injection hk with hk;rw[<- hn,<- hk]
 . exact h.once c 1 k _ hk h1 (by rw[hn,e])
end Kn
namespace Go.Proofs.Rz
open ChangeShapes WideShapes ChangeAt RowKit Kn Iz Tryz
variable {w : World}
variable {m : Im}
variable {K : Kd}
def Ud.Jd (h:Ud w m K){k:Nat}(e:k=K.b\/Vm K.k.L K.k.pm k):U2 m K k:=by
 rcases e with e|e
 . exact .inl e
 . exact .inr aoN
def Ud.Ko (h:Ud w m K):(∀c,c<m.kl.length->¬(K.cb c=K.b\/Vm K.k.L K.k.pm (K.cb c)))/\(∀c,c<m.kl.length->¬(K.cm c=K.b\/Vm K.k.L K.k.pm (K.cm c)))/\¬(K.mb=K.b\/Vm K.k.L K.k.pm K.mb)/\∀k,KF K.ob K.ov m.obs.length k->¬(k=K.b\/Vm K.k.L K.k.pm k):=by
 refine⟨λc hc e=>?_,λc hc e=>?_,λe=>?_,λk hk e=>?_⟩
 . rcases e with e|e
   . exact(h.Uc.vI h.cls hc).2 e
   . exact(h.Uc.vI h.cls hc).1 EP
 . obtain⟨es,ck,hx,_⟩:=id (h.lm c hc);have hn:=h.Uc.dO hx (h.ap.IQ c hc) aga;rcases e with e|e
   . exact hn.2 e
   . exact hn.1 EP
 . obtain⟨es,ck,hx,_⟩:=id h.lc;have hn:=h.Uc.dO hx h.ap.Bc h.ap.Bo;rcases e with e|e
   . exact hn.2 e
   . exact hn.1 EP
 . obtain⟨cs,hcs⟩:=h.obs.kind hk;rcases e with e|e
   . exact anl
   . rcases hcs with hc|hc
     . exact h.Uc.other hc Vz Vz Vz EP
     . exact h.Uc.other hc Vz Vz Vz EP
def Grew.adl {N:Nat}{K:Kc}{pm:Nat->Mm}{R:Nat->U1}(h:∀p q,(pm p).arr=some q->(K.pm p).arr=some q):Grew N K {K with pm:=pm,R:=R}:=
 ⟨rfl,rfl,rfl,λs ib e=>.inl e,λk hk=>Td.old (K:=K) (l:=K.l) (ps:=K.ps) (R:=R) hk (λs ib e=>.inl e) (λp q e=>.inl (h p q e)),λj hj _=>.inl ⟨hj,rfl⟩,λk hk=>yg⟩
variable {w' : World}
def Ud.forgot (h:Ud w m K){pm:Nat->Mm}{R:Nat->U1}(E':Qr w' K.b {K.k with pm:=pm,R:=R} (λ_=>False) (o8 m K) (SrI m K)) (ha:∀p q,(pm p).arr=some q->(K.k.pm p).arr=some q) (hch:Vt w w' (λk=>k=K.b\/Vm K.k.L K.k.pm k)) (hd:UK w w' K.b):
 Step w w' m K m {K with k:={K.k with pm:=pm,R:=R} }:=by
 obtain⟨n1,n2,n3,n4⟩:=h.Ko;have hgr:Grew w.heap.size K.k {K.k with pm:=pm,R:=R}:=Grew.adl ha
 have V':∀k,U2 m {K with k:={K.k with pm:=pm,R:=R} } k->U2 m K k\/w.heap.size<=k:=λk e=>by
  rcases e with e|e|e|e|e|e
  . exact .inl (.inl e)
  . exact .inl vJ
  . exact .inl EP
  . exact ac2
  . exact .inl mM
  . exact .inl aaN
 have Wa:Vt w w' (U2 m K):=hch.mono (λk _ e=>h.Jd e);have hh:=h.hd.hd hd;refine⟨⟨h.ok,E',⟨hh.c0,hh.c1,hh.c2,hh.c3,hh.c4⟩,h.np6,h.cll,h.lc.same (hch.block _ h.lc.lt n3),h.iW,h.lcn,h.cls.Ut hch n1,λc hc=>(h.lm c hc).same (hch.block _ (h.lm c hc).lt (n2 c hc)),h.mid,h.own,h.yZ,agD,h.obs.same (λk hk=>hch.block k (h.obs.lt hk) (n4 k hk)),h.J7.Ut Wa dY,λk hk hg=>?_⟩,rfl,rfl,Wa,V',ZN _,λ_ _=>rfl,λk hk=>yg⟩;exact zx
def flush_any (h:Ud w m K)(sel:ByteArray)(hsz:sel.size<=140737488355328):
 Calls prog 14 #[VG K.b,.string sel] w λe w'=>e=.returned (VI (Q7 sel))/\∃K',Step w w' m K m K':=by
 by_cases he:sel=⟨#[]⟩
 . have hcall:Calls prog 35 #[VG K.b] w λe w'=>e=.returned (.tuple #[])/\∃K',Step w w' m K m K':=by
    refine(AB h.Uc JQ).mono ?_;rintro e w' ⟨rfl,pm,R,E',ha,hch,hd⟩;exact⟨rfl,_,h.forgot E' ha hch hd⟩
   have D4:Q7 sel=0:=by unfold Q7;rw[ZX];exact λe=>e.1 he
   rw[D4];subst he;clear h D4;go_enter func14,ntmps14;go_wp2_with fail;refine hcall.mono ?_;rintro e w' ⟨rfl,hS⟩;go_wp2
   go_ret
   exact⟨rfl,hS⟩
 . refine ahN ?_;intro hne UB;have HH:Hid _:=h;have HN:Hid _:=he;clear h he;go_enter func14,ntmps14;go_wp2_with fail;refine(Qn sel w hsz).mono ?_;rintro e w1 ⟨rfl,hb1⟩;have HB:Hid _:=hb1;clear hb1
   cases hs:selector (bl sel) with
   | false=>
    have fi:Hid (Q7 sel=1):=by
     have hx1:Q7 sel=1:=by unfold Q7;rw[ZU];exact⟨HN.o,hs⟩
     exact hx1
    clear hs;go_wp2
    go_ret
    exact⟨by rw[fi.o];rfl,K,Step.below HH.o HB.o⟩
   | true=>
    have fi:Hid (Q7 sel=0):=by
     have hx1:Q7 sel=0:=by unfold Q7;rw[ZX];rw[hs];exact λe=>by cases e.2
     exact hx1
    have hcall:Calls prog 36 #[VG K.b,.string sel] w1 λe w'=>e=.returned (.tuple #[])/\∃K',Step w w' m K m K':=by
     have h1:=HH.o.below HB.o;refine(AA h1.Uc JQ sel).mono ?_;rintro e w' ⟨rfl,pm,R,E',ha,hch,hd⟩;exact⟨rfl,_,(Step.below HH.o HB.o).trans (h1.forgot E' ha hch hd)⟩
    clear hs;go_wp2_with fail;refine hcall.mono ?_;rintro e w' ⟨rfl,hS⟩;go_wp2
    go_ret
    exact⟨by rw[fi.o];rfl,hS⟩
def CO (m:Im)(c a d:Nat)(k:Kl)(hk:m.kl[d]?=some k):(m.UY c (λk=>{k with above:=some a})).kl[d]?=some (if c=d then {k with above:=some a} else k):=by
 rw[SL,hk];by_cases e:c=d
 . rw[ZU e,ZU e];rfl
 . rw[ZX e,ZX e]
def nT (m:Im)(c a d:Nat)(s:ByteArray):(m.UY c (λk=>{k with above:=some a})).own d s=m.own d s:=by
 unfold Im.own;rw[SL];by_cases e:c=d
 . rw[ZU e];cases m.kl[d]?<;>rfl
 . rw[ZX e]
def bG (m:Im)(c a d:Nat)(hd:d≠c):(m.UY c (λk=>{k with above:=some a})).ab d=m.ab d:=by
 unfold Im.ab;rw[SL,ZX (λe=>hd e.symm)]
def Qr.apA {b:Nat}{K:Kc}{X:Nat->Prop}{Sd:ByteArray->U1->Prop}{Sr:U1->Prop}(h:Qr w b K X Sd Sr){cb cm:Nat->Nat}(hcl:Cls w m cb cm){c:Nat}(hc:c<m.kl.length){j:Nat}(hj:K.Mk j)(h1:1<=(K.md j).ws.length):(K.md j).g≠cb c:=λe=>by
 obtain⟨x,hx⟩:∃x,(K.md j).ws[0]?=some x:=⟨_,Z8 VH⟩
 have h0:=(h.mt j hj).LV.c5 0 x hx;have h2:=hcl.at_ c _ (Z8 hc);rw[e]at h0;simp only[World.cell?,h2]at h0;simp at h0
def Ud.moved {w w3:World}(h:Ud w m K){c a:Nat}(hc:c<m.kl.length)(ha:a<m.kl.length)(hm':U3 (m.UY c (λk=>{k with above:=some a}))) {pm:Nat->Mm}{R:Nat->U1}
 (E':Qr w3 K.b {K.k with pm:=pm,R:=R} (λ_=>False) (λs r=>o8 m K s r/\Tj m K.cb c r=false) (λr=>(SrI m K r/\Tj m K.cb c r=false)\/r=noRow)) (har:∀p q,(pm p).arr=some q->(K.k.pm p).arr=some q) (hch:Vt w w3 (λk=>k=K.b\/Vm K.k.L K.k.pm k)) (hd:UK w w3 K.b):
 Step w (w3.setCell (VJ (K.cb c) 2) ((VG (K.cb a)))) m K (m.UY c (λk=>{k with above:=some a})) {K with k:={K.k with pm:=pm,R:=R} }:=by
 obtain⟨n1,n2,n3,n4⟩:=h.Ko;have M0:=h.cls.Ut hch n1;have hgr:Grew w.heap.size K.k {K.k with pm:=pm,R:=R}:=Grew.adl har;have B_:∀j,j≠K.cb c->(w3.setCell (VJ (K.cb c) 2) ((VG (K.cb a)))).heap[j]?=w3.heap[j]?:=λj hj=>ZW _ _ _ _ hj;have hlen:(m.UY c (λk=>{k with above:=some a})).kl.length=m.kl.length:=O6 _ _ _;have Ms:∀r,Ans m K.cb K.mid r->Tj m K.cb c r=false->Ans (m.UY c (λk=>{k with above:=some a})) K.cb K.mid r:=λr hr hl=>hr.ab h.ok hl (λd hd=>bG m c a d hd) hlen h.cls.inj hc;have fv:=aal hlen (λd k hk=>⟨_,CO m c a d k hk,by by_cases e:c=d<;>simp[e]⟩)
 have V':∀k,U2 (m.UY c (λk=>{k with above:=some a})) {K with k:={K.k with pm:=pm,R:=R} } k->U2 m K k\/w.heap.size<=k:=λk e=>by
  rcases e with e|e|⟨d,hd,e⟩|e|e|e
  . exact .inl (.inl e)
  . exact .inl vJ
  . exact .inl (.inr (.inr (.inl ⟨d,xq,e⟩)))
  . exact ac2
  . exact .inl mM
  . exact .inl aaN
 have Wa:Vt w (w3.setCell (VJ (K.cb c) 2) ((VG (K.cb a)))) (U2 m K):=(hch.mono (λk _ e=>h.Jd e)).setCell _ _ (λ_=>.inr (.inr (.inl ⟨c,hc,.inl rfl⟩)));have Ww:=(h.Uc.vI h.cls hc).2;have hh:=h.hd.hd hd;have hh':∀o,(w3.setCell (VJ (K.cb c) 2) ((VG (K.cb a)))).cell? (VJ K.b o)=w3.cell? (VJ K.b o):=λo=>Z9 (a:=(VJ K.b o)) (B_ K.b Ww.symm);have BE:∀k l,SMap w3 k l->(w3.setCell (VJ (K.cb c) 2) ((VG (K.cb a)))).heap[k]?=w3.heap[k]?:=λk l hs=>B_ k (λe=>UA (M0.Vb hc) hs e.symm);have tF:=h.lc.same (hch.block _ h.lc.lt n3);have rI:∀d,d<m.kl.length->SMap w3 (K.cm d) (K.lm d):=λd hd=>(h.lm d hd).same (hch.block _ (h.lm d hd).lt (n2 d hd))
 have GQ:=
  E'.same (B_ _ Ww.symm) (λk e=>B_ k (λe'=>(E'.vI M0 hc).1 (by rw[<- e'];exact e))) (λk hk h1=>B_ _ (E'.apA M0 hc hk h1))
 refine⟨⟨hm',GQ.weaken (λs r hr=>⟨hr.1.1,Ms r hr.1.2 hr.2⟩) (λr hr=>?_),⟨(hh' 0).trans hh.c0,(hh' 1).trans hh.c1,(hh' 2).trans hh.c2,(hh' 3).trans hh.c3,(hh' 4).trans hh.c4⟩,h.np6,h.cll,tF.same (BE _ _ tF),λs=>by rw[fv s];exact h.iW s,by rw[hlen];exact h.lcn,?_,λd hd=>(rI d xq).same (BE _ _ (rI d xq)),λd s hd=>h.mid d s xq,λd s=>by rw[nT];exact h.own d s,h.yZ,?_,?_,h.J7.Ut Wa dY,λk hk hg=>?_⟩,rfl,rfl,Wa,V',by rw[hlen];exact ZN _,λ_ _=>rfl,λk hk=>yg⟩
 . exact ajQ
 . refine⟨λd k hk=>?_,λd e hd he=>h.cls.inj d e xq (by rw[<- hlen];exact he)⟩;have hd':d<m.kl.length:=by rw[<- hlen];exact(Z7.1 hk).1
   have hx:=Z8 hd';rw[CO m c a d _ hx]at hk;injection hk with hk;have h3:=M0.at_ d _ hx;by_cases e:c=d
   . subst e;rw[ZU rfl]at hk;rw[<- hk];simp only[World.setCell,Zz,ZU,h3];rfl
   . rw[ZX e]at hk;rw[<- hk];exact(B_ _ (λe'=>e (h.cls.inj d c hd' hc e').symm)).trans h3
 . exact⟨h.ap.Bc,h.ap.Bo,λd hd=>h.ap.zF d xq,λd hd=>h.ap.IQ d xq,λd s hd=>h.ap.yQ d s xq,λd e hd he=>h.ap.DU d e xq (by rw[<- hlen];exact he)⟩
 . refine h.obs.same (λk hk=>(B_ k (λe=>?_)).trans (hch.block k (h.obs.lt hk) (n4 k hk)));obtain⟨cs,hcs⟩:=h.obs.kind hk;have h1:=h.cls.at_ c _ (Z8 hc);rw[<- e]at h1;rcases hcs with hx|hx
   . exact aiK
   . exact aiK
 . exact zx
def vO {s:ByteArray}{a:Array UInt8}(h:¬s=⟨a⟩):¬s.toList=a.toList:=λe=>h (by
 rw[ZL]at e;cases s;congr 1
 exact Wh.1 e)
def Cls.tot {cb cm:Nat->Nat}(h:Cls w m cb cm){c:Nat}(hc:c<m.kl.length):w.cell? (VJ (cb c) 3)=some (VI (m.tot c:Nat)):=by
 have:=h.at_ c _ (Z8 hc);rw[Nl (Z8 hc)];refine FK ?_;rfl
def mP (h:U3 m)(c:Nat):m.tot c<=10:=by
 by_cases hc:c<m.kl.length
 . rw[Nl (Z8 hc)];exact h.tot c _ (Z8 hc)
 . unfold Im.tot;rw[Y8 VH];simp
def O9 (h:Ud w m K):Step w w.drew m K m K:=Step.below h uq
def move_any (h:Ud w m K)(cn an:ByteArray):
 Calls prog 31 #[VG K.b,.string cn,.string an] w λe w'=>e=.returned (VI (m.move cn an).1)/\∃K',Step w w' m K (m.move cn an).2 K':=by
 have lk:=h.drew.look cn;have RB:=h.drew.look an;have c0:=h.hd.c0;have HS:=UQ (O9 h);obtain⟨mr,hmr⟩:∃mr,m.move cn an=mr:=Vx;have hok:=(xA h.ok cn an).1;rw[hmr]at hok ⊢
 cases hcl:m.cls cn with
 | none=>
  have hdr:mr=(2,m):=by rw[<- hmr];unfold Im.move;rw[hcl]
  subst hdr;obtain⟨v,hv⟩:∃v,Vq ((m.cls an).map K.cb)=v:=Vx;rw[hcl]at lk;simp only[Zm,Vq]at lk;rw[hv]at RB;clear h hmr hcl hv hok;go_enter func31,ntmps31;go_wp2_with fail
  go_region
  go_wp2
  go_ret
  exact Ou
 | some c=>
  have hc:=OO hcl;rw[hcl]at lk;simp only[ZG,Vq]at lk
  cases y':m.cls an with
  | none=>
   have hdr:mr=(2,m):=by rw[<- hmr];unfold Im.move;rw[hcl,y']
   subst hdr;rw[y']at RB;simp only[Zm,Vq]at RB;clear h hmr hcl y' hok;go_enter func31,ntmps31;go_wp2_with fail
   go_region
   go_wp2
   go_ret
   exact Ou
  | some a=>
   have ha:=OO y';rw[y']at RB;simp only[ZG,Vq]at RB;obtain⟨t0,t1⟩:=xZ h.ok hcl;by_cases hc2:c<2
   . have hdr:mr=(2,m):=by rw[<- hmr];unfold Im.move;rw[hcl,y'];simp only;rw[ZU hc2]
     subst hdr;have hor:c=0\/c=1:=VH;rcases hor with e|e
     . have he:=t0.1 e;subst he;clear h hmr hcl y' t0 t1 hok;go_enter func31,ntmps31;go_wp2_with fail
       go_region
       go_wp2
       go_ret
       exact Ou
     . have he:=t1.1 e;subst he;clear h hmr hcl y' t0 t1 hok;go_enter func31,ntmps31;go_wp2_with fail
       go_region
       go_wp2
       go_ret
       exact Ou
   . have n0:(cn.toList==[65,110,121])=false:=ZF.2 (vO (λe=>hc2 (by have:=t0.2 e;omega)));have n0:(cn.toList==[73,110,116])=false:=ZF.2 (vO (λe=>hc2 (by have:=t1.2 e;omega)));have hbl:=J9 m K.cb K.cm (some a) c w.drew h.ok h.drew.cls (λx hx=>by injection hx with hx;omega) hc;simp only[ZG,Vq]at hbl
     have hmv:mr=if m.under c (m.kl.length+1) (some a)=true then (8,m) else if m.tot a≠m.tot ((m.kl[c]?.bind (·.above)).getD 0) then (9,m) else (0,m.UY c (λk=>{k with above:=some a})):=by
      rw[<- hmr];unfold Im.move;rw[hcl,y'];simp only;rw[ZX hc2]
     obtain⟨p,hp⟩:∃p,m.ab c=some p:=by
      obtain⟨p,hp,_⟩:=h.ok.up c _ (Z8 hc) VH;exact⟨p,by unfold Im.ab;rw[Z8 hc];exact hp⟩
     have hpl:=CS h.ok hp
     have cW:(m.kl[c]?.bind (·.above)).getD 0=p:=by
      have:m.kl[c]?.bind (·.above)=some p:=hp;rw[this];rfl
     rw[cW]at hmv;have a3:=h.cls.tot ha;have p3:=h.cls.tot hpl;have c2:w.cell? (VJ (K.cb c) 2)=some ((VG (K.cb p))):=by rw[h.cls.above hc,hp];rfl
     obtain⟨u,hu⟩:∃u,m.under c (m.kl.length+1) (some a)=u:=Vx;rw[hu]at hbl hmv
     have HH:Hid (Ud w m K/\c<m.kl.length/\a<m.kl.length):=⟨h,hc,ha⟩
     clear h hmr hcl y' t0 t1 cW hp hu
     cases u with
     | true=>
      rw[ZU rfl]at hmv;subst hmv;clear hok;go_enter func31,ntmps31;go_wp2_with fail
      go_region
      go_wp2_with fail;refine hbl.mono ?_;rintro e w' ⟨rfl,rfl⟩;go_wp2
      go_ret
      exact Ou
     | false=>
      rw[ZX Vy]at hmv;by_cases hne:m.tot a≠m.tot p
      . rw[ZU hne]at hmv;subst hmv;have hnb:((m.tot a:Int) != (m.tot p:Int))=true:=Vo;clear hok;go_enter func31,ntmps31;go_wp2_with fail
        go_region
        go_wp2_with fail;refine hbl.mono ?_;rintro e w' ⟨rfl,rfl⟩;go_wp2_with fail
        go_region
        go_wp2
        go_ret
        exact⟨rfl,K,(HS.o.trans (O9 HH.o.1.drew))⟩
      . rw[ZX hne]at hmv;subst hmv;have heq:m.tot a=m.tot p:=VH;rw[heq]at a3
        have hcall:Calls prog 66 #[VG K.b,VG (K.cb c)] w.drew.drew λe w'=>e=.returned (.tuple #[])/\w'.cell? (VJ (K.cb c) 2)=some ((VG (K.cb p)))/\(∀o,w'.frozen? (VJ (K.cb c) o)=false)/\∃K',Step w (w'.setCell (VJ (K.cb c) 2) ((VG (K.cb a)))) m K (m.UY c (λk=>{k with above:=some a})) K':=by
         obtain⟨h,hc,ha⟩:=HH.o;have h2:=h.drew.drew;have hwd:w.drew.drew.cell? (VJ (K.cb c) 2)=some ((VG (K.cb p))):=c2;refine(ak h2.Uc m K.cb K.cm c h.ok hc h2.cls (λs r hr=>(h2.sF.1 s r hr).1) h2.sF.2).mono ?_;rintro e w' ⟨rfl,pm,R,E',har,hch,hd⟩;have hblk:=hch.block _ (h2.cls.Vb hc).lt (h2.Ko.1 c hc);exact⟨rfl,(Z9 (a:=(VJ (K.cb c) 2)) hblk).trans hwd,λo=>((h2.cls.Vb hc).same hblk).free o,_,((O9 h).trans (O9 h.drew)).trans (h2.moved hc ha hok E' har hch hd)⟩
        clear hok;go_enter func31,ntmps31;go_wp2_with fail
        go_region
        go_wp2_with fail;refine hbl.mono ?_;rintro e w' ⟨rfl,rfl⟩;go_wp2_with fail
        go_region
        go_wp2_with fail;refine hcall.mono ?_;rintro e w3 ⟨rfl,hc3,hf3,hS⟩;have FA:Hid _:=hS;clear hcall hbl lk RB c0 a3 p3 c2 hS;go_wp2
        go_ret
        exact⟨rfl,FA.o⟩
def newL (ws:List (Kn.W×Nat))(pl:Nat->Nat):List (Nat×ByteArray):=(List.range ws.length).filterMap (λi=>(ws[i]?).bind (λx=>if UO x.1=true then some (pl i,VF x.1.sel) else none))
def IE {ws:List (Kn.W×Nat)}{pl:Nat->Nat}{q:Nat}{s:ByteArray}:(q,s)∈newL ws pl↔∃i x,ws[i]?=some x/\UO x.1=true/\q=pl i/\s=VF x.1.sel:=by
 unfold newL;rw[List.mem_filterMap];constructor
 . rintro⟨i,_,h⟩;obtain⟨x,hx,h⟩:=X0.1 h;by_cases e:UO x.1=true
   . rw[ZU e]at h;injection h with h;injection h with h1 h2;exact⟨i,x,hx,e,h1.symm,h2.symm⟩
   . rw[ZX e]at h;cases h
 . rintro⟨i,x,hx,e,rfl,rfl⟩;exact⟨i,YD.2 (Z7.1 hx).1,by rw[hx];simp[e]⟩
def afW {ws:List (Kn.W×Nat)}{pl:Nat->Nat}(h:∀i j x y,i<ws.length->j<ws.length->ws[i]?=some x->ws[j]?=some y->UO x.1=true->UO y.1=true->pl i=pl j->i=j):((newL ws pl).map (·.1)).Nodup:=by
 unfold newL List.Nodup;rw[List.pairwise_map,List.pairwise_filterMap];refine List.Pairwise.imp_of_mem (R:=(·≠·)) (λ{a a'} ha ha' hne b hb b' hb' e=>hne ?_) List.nodup_range;obtain⟨x,hx,Od⟩:=X0.1 hb;obtain⟨y,hy,hby⟩:=X0.1 hb';by_cases ex:UO x.1=true
 . by_cases ey:UO y.1=true
   . rw[ZU ex]at Od;rw[ZU ey]at hby;injection Od with Od;injection hby with hby;subst Od hby;exact h a a' x y (YD.1 ha) (YD.1 ha') hx hy ex ey e
   . rw[ZX ey]at hby;cases hby
 . rw[ZX ex]at Od;cases Od
noncomputable def Kc.Ov (K:Kc) (N mb:Nat) (d:Md):Kc:=
 {K with L:=K.L++newL d.ws d.pl,pm:=λk=>if N<=k then .no else K.pm k,Mk:=λk=>K.Mk k\/k=mb,md:=λk=>if k=mb then d else K.md k}
def apq (d:Md)(q:Nat):Prop:=∃i x,d.ws[i]?=some x/\UO x.1=true/\q=d.pl i
def ML.more {L L':List (Nat×ByteArray)}{k:Nat}{d:Md}(h:ML w L k d):ML w (L++L') k d:=⟨h.blk,h.LV,h.len,λi x hx hs=>Ya _ (h.Ru i x hx hs)⟩
def Qr.Ov {b:Nat}{K:Kc}{Sd:ByteArray->U1->Prop}{Sr:U1->Prop}(h:Qr w b K (λ_=>False) Sd Sr){mb g cap:Nat}{p:Option Addr}{ws:List (Kn.W×Nat)}{pl:Nat->Nat}(hn:aeQ w w' mb g cap p ws pl)(hl:ws.length<=40):
 Qr w' b (K.Ov w.heap.size mb ⟨ws,p,g,cap,pl⟩) (apq ⟨ws,p,g,cap,pl⟩) Sd Sr:=by
 have h':=h.below hn.below;have hold:∀q s,(q,s)∈K.L->q<w.heap.size:=λq s hq=>(h.Ru.Vb hq).lt
 have S8:∀q s,(q,s)∈K.L->(K.Ov w.heap.size mb ⟨ws,p,g,cap,pl⟩).pm q=K.pm q:=λq s hq=>by
  show (if w.heap.size<=q then Mm.no else K.pm q)=K.pm q;rw[ZX (by have:=hold q s hq;omega)]
 have hnew:∀q s,(q,s)∈newL ws pl->zS w' q/\w.heap.size<=q:=λq s hq=>by
  obtain⟨i,x,hx,hs,rfl,rfl⟩:=IE.1 hq;exact hn.np.mem i x (Z7.1 hx).1 hx hs
 have Ln:∀q s,(q,s)∈newL ws pl->(K.Ov w.heap.size mb ⟨ws,p,g,cap,pl⟩).pm q=.no:=λq s hq=>by
  show (if w.heap.size<=q then Mm.no else K.pm q)=.no;rw[ZU (hnew q s hq).2]
 have hmem:∀q s,(q,s)∈(K.Ov w.heap.size mb ⟨ws,p,g,cap,pl⟩).L->(q,s)∈K.L\/(q,s)∈newL ws pl:=λq s hq=>YT.1 hq
 have hblk:∀k,Vm (K.Ov w.heap.size mb ⟨ws,p,g,cap,pl⟩).L (K.Ov w.heap.size mb ⟨ws,p,g,cap,pl⟩).pm k->Vm K.L K.pm k\/∃s,(k,s)∈newL ws pl:=by
  rintro k ⟨q,s,hq,e⟩;rcases hmem q s hq with hq|hq
  . rw[S8 q s hq]at e;exact .inl ⟨q,s,hq,e⟩
  . rcases e with e|e
    . exact .inr ⟨s,by rw[e];exact hq⟩
    . rw[Ln q s hq]at e;cases e
 refine⟨h'.img,h'.b5,h'.snd,⟨h.Ru.b6,?_,λq s hq=>?_,λq s hq=>?_,λq s r hq hr=>?_,λq s q' s' a hq hq' ha ha'=>?_⟩,λs q hr=>Ya _ (h.reg s q hr),λq s hq=>?_,h'.tab,h.rows,λk hk=>?_,λk hk h1 e=>?_⟩
 . show ((K.L++newL ws pl).map (·.1)).Nodup;rw[VU];refine Xi.2 ⟨h.Ru.nd,afW (λi j x y hi hj hx hy hs1 hs2 e=>hn.np.inj i j x y hi hj hx hy hs1 hs2 e),λa ha c hc=>?_⟩;obtain⟨⟨a',s⟩,ha',rfl⟩:=Zy.1 ha;obtain⟨⟨c',t⟩,hc',rfl⟩:=Zy.1 hc;have h1:=hold a' s ha';have h2:=(hnew c' t hc').2;simp only;omega
 . rcases hmem q s hq with hq|hq
   . rw[S8 q s hq];exact h'.Ru.at_ q s hq
   . rw[Ln q s hq];exact(hnew q s hq).1
 . rcases hmem q s hq with hq|hq
   . rw[S8 q s hq];exact h'.Ru.ok q s hq
   . rw[Ln q s hq];exact⟨trivial,oV⟩
 . rcases hmem q s hq with hq|hq
   . rw[S8 q s hq]at hr;exact h.Ru.rows q s r hq hr
   . rw[Ln q s hq]at hr;cases hr
 . rcases hmem q s hq with hq|hq
   . rcases hmem q' s' hq' with hq'|hq'
     . rw[S8 q s hq]at ha;rw[S8 q' s' hq']at ha';exact h.Ru.arr q s q' s' a hq hq' ha ha'
     . rw[Ln q' s' hq']at ha';cases ha'
   . rw[Ln q s hq]at ha;cases ha
 . rcases hmem q s hq with hq|hq
   . rcases h.told q s hq with e|e|e
     . exact .inl e
     . exact .inr (.inl (by rw[S8 q s hq];exact e))
     . exact e.elim
   . obtain⟨i,x,hx,hs,e,_⟩:=IE.1 hq;exact .inr (.inr ⟨i,x,hx,hs,e⟩)
 . by_cases e:k=mb
   . subst e;show ML w' (K.L++newL ws pl) k (if k=k then ⟨ws,p,g,cap,pl⟩ else K.md k);rw[ZU rfl];exact⟨⟨0,hn.mm⟩,hn.at_,hl,λi x hx hs=>List.mem_append_right _ (IE.2 ⟨i,x,hx,hs,rfl,rfl⟩)⟩
   . show ML w' (K.L++newL ws pl) k (if k=mb then ⟨ws,p,g,cap,pl⟩ else K.md k);rw[ZX e];rcases hk with hk|hk
     . exact(h'.mt k hk).more
     . exact absurd hk e
 . by_cases ek:k=mb
   . have Wm:(K.Ov w.heap.size mb ⟨ws,p,g,cap,pl⟩).md k=⟨ws,p,g,cap,pl⟩:=by
      show (if k=mb then (⟨ws,p,g,cap,pl⟩:Md) else K.md k)=_;rw[ZU ek]
     rw[Wm]at h1 e;simp only at h1 e;have hg:=hn.J7 h1;rcases hblk g e with e|⟨s,e⟩
     . have:=h.Ru.lt g e;omega
     . have E_:=(hnew g s e).1
       obtain⟨x,hx⟩:∃x,ws[0]?=some x:=⟨_,Z8 VH⟩
       have h0:=hn.at_.c0 0 x hx;unfold zS at E_;simp only[World.cell?,Yu,E_]at h0;cases h0
   . have Wm:(K.Ov w.heap.size mb ⟨ws,p,g,cap,pl⟩).md k=K.md k:=by
      show (if k=mb then (⟨ws,p,g,cap,pl⟩:Md) else K.md k)=_;rw[ZX ek]
     rw[Wm]at h1 e;have hk':K.Mk k:=by rcases hk with hk|hk;exact hk;exact absurd hk ek
     rcases hblk _ e with e|⟨s,e⟩
     . exact h.gq k hk' h1 e
     . have h2:=(hnew _ s e).2;have h1:=((h.mt k hk').LV.Vb h1).lt;omega
def uG (h:Ud w m K){c mb g cap:Nat}{p:Option Addr}{ws:List (Kn.W×Nat)}{pl:Nat->Nat}(hc:c<m.kl.length)(hn:aeQ w w' mb g cap p ws pl)(hl:ws.length<=40)(sel:ByteArray)(hok:U3 (m.UY c (·.put ⟨sel,ws⟩))):
 Calls prog 44 #[VG K.b,VG (K.cb c),.string sel,VG mb] w' λe w''=>e=.returned (.tuple #[])/\∃K',Step w w'' m K (m.UY c (·.put ⟨sel,ws⟩)) K':=by
 have h':=h.below hn.below;have E':=h.Uc.Ov hn hl
 have Wm:(K.k.Ov w.heap.size mb ⟨ws,p,g,cap,pl⟩).md mb=⟨ws,p,g,cap,pl⟩:=by
  show (if mb=mb then (⟨ws,p,g,cap,pl⟩:Md) else K.k.md mb)=_;rw[ZU rfl]
 have tO:∀k,K.k.Mk k->(K.k.Ov w.heap.size mb ⟨ws,p,g,cap,pl⟩).Mk k/\(K.k.Ov w.heap.size mb ⟨ws,p,g,cap,pl⟩).md k=K.k.md k:=λk hk=>by
  refine⟨.inl hk,?_⟩;have:=(h.Uc.mt k hk).Vb.lt;have:=hn.lo;show (if k=mb then (⟨ws,p,g,cap,pl⟩:Md) else K.k.md k)=_;rw[ZX VH]
 have m1:w'.cell? (VJ mb 1)=some (VI 0):=by simp only[World.cell?,hn.mm];rfl
 refine(ru E' m K.cb K.cm c mb sel (K.lm c) (K.mid c sel) h.ok hc h'.cls (h'.lm c hc) (h.ap.IQ c hc) aga JQ (.inr ⟨m1,λq hq=>?_⟩) (h.mid c sel hc) (λk0 e=>.inl (h.yZ c sel k0 e)) h.sF.1 h.sF.2).mono ?_
 . rw[Wm];exact hq
 rintro e w'' ⟨rfl,l,ps,pm,R,GQ,hsm,Z2,hch,hd⟩;have hsz:=hn.below.size
 have Q0:∀k,Td (K.k.Ov w.heap.size mb ⟨ws,p,g,cap,pl⟩) k->Td K.k k\/w.heap.size<=k:=by
  rintro k (e|e|⟨q,s,hq,e⟩|e|e)
  . exact .inl (.inl e)
  . exact .inl vJ
  . rcases YT.1 hq with hq|hq
    . have hlt:=(h.Uc.Ru.Vb hq).lt
      have vL:(K.k.Ov w.heap.size mb ⟨ws,p,g,cap,pl⟩).pm q=K.k.pm q:=by
       show (if w.heap.size<=q then Mm.no else K.k.pm q)=K.k.pm q;rw[ZX VH]
      rw[vL]at e;exact .inl (.inr (.inr (.inl ⟨q,s,hq,e⟩)))
    . obtain⟨i,x,hx,hs,rfl,rfl⟩:=IE.1 hq;have hlo:=(hn.np.mem i x (Z7.1 hx).1 hx hs).2;rcases e with e|e
      . exact .inr (by rw[e];exact hlo)
      . have vL:(K.k.Ov w.heap.size mb ⟨ws,p,g,cap,pl⟩).pm (pl i)=.no:=by
         show (if w.heap.size<=pl i then Mm.no else K.k.pm (pl i))=.no;rw[ZU hlo]
        rw[show (Md.pl ⟨ws,p,g,cap,pl⟩ i)=pl i from rfl,vL]at e;cases e
  . exact .inl aeg
  . exact .inr (by rw[e];exact hn.lo)
 have hgr:Grew w.heap.size K.k {K.k.Ov w.heap.size mb ⟨ws,p,g,cap,pl⟩ with l:=l,ps:=ps,pm:=pm,R:=R}:=by
  refine⟨rfl,rfl,rfl,λs ib e=>?_,λk hk=>?_,λj hj h1=>?_,tO⟩
  . rcases Z2.l s ib e with e|e
    . exact .inl e
    . exact .inr VH
  . rcases Td.old (K:=K.k.Ov w.heap.size mb ⟨ws,p,g,cap,pl⟩) (N:=w'.heap.size) (ps:=ps) (R:=R) hk Z2.l Z2.arr with e|e
    . exact Q0 k e
    . exact .inr VH
  . rcases hj with hj|hj
    . exact .inl ⟨hj,(tO j hj).2⟩
    . subst hj;right;have h1':1<=((K.k.Ov w.heap.size j ⟨ws,p,g,cap,pl⟩).md j).ws.length:=h1;rw[Wm]at h1';show w.heap.size<=((K.k.Ov w.heap.size j ⟨ws,p,g,cap,pl⟩).md j).g;rw[Wm];exact hn.J7 h1'
 refine⟨rfl,_,h.jB (sel:=sel) (x:=some mb) (kc:={K.k.Ov w.heap.size mb ⟨ws,p,g,cap,pl⟩ with l:=l,ps:=ps,pm:=pm,R:=R}) hc hok ?_ GQ hgr (λk e=>by injection e with e;subst e;exact .inr rfl) hsm (λs=>by rw[S9];rfl) ?_ ((UK.of_block (hn.below.block _ h.Uc.tab.Vb.lt)).trans hd)⟩
 . have:=F9 hc (m:=m) ⟨sel,ws⟩
   have e2:(some mb).map (λk=>(({K.k.Ov w.heap.size mb ⟨ws,p,g,cap,pl⟩ with l:=l,ps:=ps,pm:=pm,R:=R}:Kc).md k).ws)=some ws:=by
    show some (((K.k.Ov w.heap.size mb ⟨ws,p,g,cap,pl⟩).md mb).ws)=some ws;rw[Wm]
   rw[e2];exact this
 . refine(Vt.of_below hn.below _).then hch (λj hj e=>?_);rcases e with e|e|e
   . exact .inl e
   . exact .inr (.inl e)
   . rcases Q0 j e with e|e
     . exact .inr (.inr e)
     . omega
def kW (h:Ud w m K)(cn sel src:ByteArray)(hs1:sel.size<=140737488355328)(hs2:src.size<=140737488355328):
 Calls prog 17 #[VG K.b,.string cn,.string sel,.string src] w λe w'=>∃(r a:Int) (m':Im) (K':Kd),e=.returned (.tuple #[VI r,VI a])/\Ua m cn sel src r a m'/\Step w w' m K m' K':=by
 have lk:=h.look cn
 cases hcl:m.cls cn with
 | none=>
  rw[hcl]at lk;simp only[Zm,Vq]at lk;refine(aae cn sel src K.b K.mb w h.hd.c0 lk).mono ?_;rintro e w' ⟨rfl,rfl⟩;exact⟨2,0,m,K,rfl,by unfold Ua;rw[hcl];exact vg,Step.refl h⟩
 | some c=>
  have hc:=OO hcl;rw[hcl]at lk;simp only[ZG,Vq]at lk;refine(aeo (m.tot c) cn sel src w K.b K.mb (K.cb c) (λw'=>∃K',Step w w' m K (m.UY c (·.put ⟨sel,(Vh (bl src)).1⟩)) K') (mP h.ok c) hs1 hs2 h.hd.c0 lk (h.cls.tot hc) h.J7.l0 h.J7.l1 h.J7.l2 h.J7.e h.J7.p h.J7.h ?_).mono ?_
  . intro w' mb g cap p ws pl hws Vn hn;have hr:Ua m cn sel src 0 0 (m.UY c (·.put ⟨sel,(Vh (bl src)).1⟩)):=al9;have hok:=(jc h.ok hr).1;have hlen:=Ic (bl src);rw[hws]at hok hlen ⊢;exact uG h hc hn hlen sel hok
  . rintro e w' ⟨r,a,rfl,Vn,⟨hr,hb⟩|⟨rfl,K',hS⟩⟩
    . exact⟨r,a,m,K,rfl,by unfold Ua;rw[hcl];exact⟨Vn,by rw[ZX hr]⟩,Step.below h hb⟩
    . exact⟨0,a,_,K',rfl,al9,hS⟩
end Go.Proofs.Rz
