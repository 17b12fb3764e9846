import Derived.Deep.AppendLies
import Derived.Test.YtkghmgoefiepeaaGreatDoorN
set_option linter.all false
set_option maxHeartbeats 4000000
set_option maxRecDepth 100000
namespace Go.Proofs.Rz
open ChangeShapes WideShapes ChangeAt RowKit Kn Iz Tryz
variable {w : World}
variable {m : Im}
variable {K : Kd}
def aj (h:Ud w m K)(p:Nat)(s:ByteArray):
 Calls prog 136 #[VG K.b,VG p,.agg #[.pointer none,.string s]] w λe w'=>e=.returned (EX K none)/\∃K',Step w w' m K {m with looks:=m.looks+1} K':=by
 have c2:=h.hd.c2;have dk:∀o,w.frozen? (VJ K.b o)=false:=λo=>h.Uc.tab.Vb.free o;have hbl:=h.Uc.tab.Vb.lt;have HL:=UQ h.looked;clear h;go_enter func136,ntmps136;go_wp2;rw[LQ];obtain⟨W0,hW0⟩:∃W0,W0=w.setCell (VJ K.b 2) (VI (Go.RowKit.wrap64 ((m.looks+1:Nat):Int))):=Vx;have hz:W0.heap.size=w.heap.size:=by rw[hW0];simp[World.setCell]
 rw[<- hW0]at HL ⊢;refine ZQ (RD (z:=w.heap.size+1) results136 (.pointer none) (.pointer none) rfl ?_ ?_) rfl ⟨rfl,K,HL.o.trans (Step.below HL.o.Ub (below2 _ _ _))⟩
 . exact Ug _ _ _ _ 0 (by simp[hz])
 . exact Ug _ _ _ _ 1 (by simp[hz])
def adN {w W1 W3 W4 W5:World}{m m1:Im}{K K4:Kd}{z:Nat}(h:Ud w m K)(h1:Step w W1 m K m1 K)(hm1:m1.kl=m.kl/\m1.obs=m.obs)(j_:Below W1.heap.size W1 W3)(hz1:W1.heap.size<=z)(hz3:z<W3.heap.size)(h4:Step W3 W4 m1 K m1 K4)(hc5:Vt W4 W5 (λk=>k=z)):Step W1 W5 m1 K m1 K4:=by
 refine ajU ?_;intro hft hgl;have hs1:=h1.Ut.size;have J1:=(Step.below h1.Ub j_).trans h4
 exact J1.aside hc5 (λk e=>⟨VH,λe'=>by
  rcases h4.foot k e' with e1|e1
  . have:=hft k e1;omega
  . omega⟩) (λk hk=>by have:=hgl k hk;omega)
def set2 {z:Nat}{a b x y:Value}{t:TypeId}(h:w.heap[z]?=some (.cells #[a,b] t)):((w.setCell (VJ z 0) x).setCell (VJ z 1) y).heap[z]?=some (.cells #[x,y] t):=by
 have h1:(w.setCell (VJ z 0) x).heap[z]?=some (.cells #[x,b] t):=by
  exact uX
 simp only[World.setCell,Zz,ZU]at h1 ⊢;rw[h1];rfl
def acz {w W1 W3 W4 W5 W6:World}{m m1:Im}{K K4:Kd}{p z:Nat}{s:ByteArray}{mm:Mm}{r:U1}(h:Ud w m K)(h1:Step w W1 m K m1 K)(Rv:w.heap.size+2<=W1.heap.size)(hm1:m1.kl=m.kl/\m1.obs=m.obs)(j_:Below W1.heap.size W1 W3)(hz1:W1.heap.size<=z)(hz3:z<W3.heap.size)(h4:Step W3 W4 m1 K m1 K4)
 (eL:K4.k.L=K.k.L) (yk:K4.k.pm=K.k.pm) (hc5:Vt W4 W5 (λk=>k=z)) (hp:(p,s)∈K.k.L) (hl:Lrn K4.np (K.k.pm p) r mm) (hr:o8 m1 K4 s r) (hok:mm.Ok W6) (hq:∀q,mm.arr=some q->(K.k.pm p).arr=some q\/W5.heap.size<=q) (hch:Vt W5 W6 (λk=>(K.k.pm p).arr=some k)) (v0 v1:Value):
 ∃K',Step w (((W6.setCell (VJ p 0) mm.val).setCell (VJ (w.heap.size+1) 0) v0).setCell (VJ (w.heap.size+1) 1) v1) m K m1 K':=by
 refine ajU ?_;intro hft hgl;have J1:=(Step.below h1.Ub j_).trans h4
 have J1:=J1.aside hc5 (λk e=>⟨VH,λe'=>by
  rcases h4.foot k e' with e1|e1
  . have:=hft k e1;omega
  . omega⟩) (λk hk=>by have:=hgl k hk;omega)
 have Lz:(p,s)∈K4.k.L:=by rw[eL];exact hp
 have hpw:=J1.Ub.Uc.lt (.inr (.inr (.inl ⟨p,s,Lz,.inl rfl⟩)):Td K4.k p)
 have zr:∀q,mm.arr=some q->q≠p:=λq e e'=>by
  rcases hq q e with e1|e1
  . have ha:=J1.Ub.Uc.Ru.at_ p s Lz;obtain⟨cur,V_⟩:=J1.Ub.Uc.Ru.Qz Lz (q:=q) (by rw[yk];exact e1);exact ajt
  . omega
 have hlr:=J1.Ub.learnt (p:=p) (s:=s) (r:=r) (mm:=mm) (w3:=W6) Lz (by rw[yk];exact hl) hr hok (by rw[yk];exact hq) zr (by rw[yk];exact hch);have J1:=J1.trans hlr
 have hf:∀k,k=w.heap.size+1->w.heap.size<=k/\¬U2 m1 (K4.learnt p mm) k:=λk e=>⟨VH,λe'=>by
  rcases J1.foot k e' with e1|e1
  . have:=hft k e1;omega
  . omega⟩
 have hfin:=(h1.trans J1).aside (S:=λk=>k=w.heap.size+1) (((Vt.refl _ (λk=>k=w.heap.size+1)).setCell (VJ (w.heap.size+1) 0) v0 (λ_=>rfl)).setCell (VJ (w.heap.size+1) 1) v1 (λ_=>rfl)) hf hgl;exact⟨_,hfin⟩
def o8.jy (h:Ud w m K){s:ByteArray}{r:U1}(hr:o8 m K s r):uT w r:=h.jy (.inl hr.2)
def Ef (M : Mm) (T fR fL : Nat) (P0 : Value) (hv : M.val = .iface T P0) (yy : M.pay = P0) (dj : M.wE = fR) (eA : M.kP = fL) (hm1 : ∀ W, (method 365 T P0 "kin/kin.recall").run Tryz.prog W = .ok (fR, P0) W) (hm2 : ∀ W, (method 365 T P0 "kin/kin.learn").run Tryz.prog W = .ok (fL, P0) W) (hc1 : ∀ a W, (callFunc fR a).run Tryz.prog W = .ok (.enter fR a) W) (hc2 : ∀ a W, (callFunc fL a).run Tryz.prog W = .ok (.enter fL a) W) (h : Ud w m K) {p : Nat} {s : ByteArray} (hp : (p, s) ∈ K.k.L) {c : Nat} (hc : c < m.kl.length) (hs : s.size ≤ 1000) (hmm : K.k.pm p = M) :
 Calls prog 136 #[VG K.b,VG p,.agg #[VG (K.cb c),.string s]] w λe w'=>e=.returned (EX K (K.says m s (some c)))/\∃K',Step w w' m K {m with looks:=m.looks+1} K':=by
 have c2:=h.hd.c2;have dk:∀o,w.frozen? (VJ K.b o)=false:=λo=>h.Uc.tab.Vb.free o;have hbl:=h.Uc.tab.Vb.lt;obtain⟨W1,hW1⟩:∃W1,W1=((w.setCell (VJ K.b 2) (VI (Go.RowKit.wrap64 ((m.looks+1:Nat):Int)))).alloc (.cells #[VG (K.cb c),.string s] 59)).alloc (.cells #[.pointer none,.pointer none] 62):=Vx;have h1:Step w W1 m K {m with looks:=m.looks+1} K:=by rw[hW1];exact h.looked.trans (Step.below h.looked.Ub (below2 _ _ _))
 have hsz0:(w.setCell (VJ K.b 2) (VI (Go.RowKit.wrap64 ((m.looks+1:Nat):Int)))).heap.size=w.heap.size:=zb4;have Rv:w.heap.size+2<=W1.heap.size:=abp
 have nz:W1.heap[w.heap.size]?=some (.cells #[VG (K.cb c),.string s] 59):=by
  rw[hW1,ZV _ _ _ zb4];have:=(Z4 (w.setCell (VJ K.b 2) (VI (Go.RowKit.wrap64 ((m.looks+1:Nat):Int)))) (.cells #[VG (K.cb c),.string s] 59)).1;rw[hsz0]at this;exact this
 have c2:W1.heap[w.heap.size+1]?=some (.cells #[.pointer none,.pointer none] 62):=by
  rw[hW1];have:=(Z4 ((w.setCell (VJ K.b 2) (VI (Go.RowKit.wrap64 ((m.looks+1:Nat):Int)))).alloc (.cells #[VG (K.cb c),.string s] 59)) (.cells #[.pointer none,.pointer none] 62)).1;rw[ZJ,hsz0]at this;exact this
 have qT:W1.cell? (VJ w.heap.size 0)=some ((VG (K.cb c))):=by simp only[World.cell?,nz];rfl
 have pg:W1.cell? (VJ w.heap.size 1)=some (.string s):=by simp only[World.cell?,nz];rfl
 have hpl:=h1.Ub.Uc.Ru
 have qd:W1.cell? (VJ p 0)=some (.iface T P0):=by
  have:=hpl.at_ p s hp;rw[hmm,hv]at this;refine FK ?_;rfl
 have tM:=h.Uc.lt (.inr akC:Td K.k p);have CA:=(hpl.ok p s hp).1;have hlen:=(hpl.ok p s hp).2;have hrows:=λr (hr:r∈(K.k.pm p).rows)=>hpl.rows p s r hp hr;have Pr:=h.np6;rw[hmm]at CA hlen hrows;have harr:∀q,M.arr=some q->q<W1.heap.size:=λq e=>h1.Ub.Uc.lt (.inr (.inr (.inl ⟨p,s,hp,.inr (by rw[hmm];exact e)⟩)):Td K.k q)
 have hrc:∀W,Below W1.heap.size W1 W->Calls prog M.wE #[M.pay,.agg #[VG (K.cb c),.string s]] W λe w'=>∃h m k,e=.returned (.tuple #[.agg #[.pointer h,.pointer m],.bool k])/\
  (k=true->∃r∈M.rows,r.fr=some (VJ (K.cb c) 0)/\r.sel=s/\h=r.hm/\m=r.mt)/\Below W.heap.size W w':=λW hW=>dK _ _ s W (CA.keep (λq e=>hW.block q (harr q e))) (ZC hlen Pr) (λr hr=>o8.jy (h1.Ub.below hW) (hrows r hr)) ((h1.Ub.below hW).cls.Vb hc)
 simp only[dj,yy,U1.val]at hrc;have H1:Hid _:=h1;have HH:Hid _:=h
 have Wg:Hid (M.kP=fL/\M.pay=P0/\M.val=.iface T P0):=⟨eA,yy,hv⟩
 clear eA dj yy hv
 have yp:Hid (K.k.pm p=M/\∀r∈M.rows,o8 m K s r):=⟨hmm,hrows⟩
 have N6:Hid (M.Ok W1/\M.rows.length<=K.np/\∀q,M.arr=some q->q<W1.heap.size):=⟨CA,hlen,harr⟩
 refine ahg ?_;intro hBa hBb;clear h h1 hpl CA hlen hrows nz hmm harr;go_enter func136,ntmps136;go_wp2_with fail;rw[LQ,<- hW1];clear hW1;refine Uy ?_;refine ZT (S:=(λw'=>w'.cell? (VJ w.heap.size 0)=some ((VG (K.cb c)))/\w'.cell? (VJ w.heap.size 1)=some (.string s)/\w'.cell? (VJ p 0)=some (.iface T P0))) VE UG (λhHeld=>?_);refine pJ ?_;refine Ur 4 ?_;refine Zv (rs:=[5,9]) VE Vy ?_;refine(ZO (o:=_) rfl (λY_ Z_=>?Ab1) (ZO (o:=_) rfl (λY_ Z_=>?Ab2) ZA))
 case' Ab1=>
  go_simp;refine(hrc _ hBa).mono ?_;rintro e w2 ⟨hh,mt,kk,rfl,hk,hb2⟩;have RC:=(hb2.cell (p:=(VJ w.heap.size 0)) EJ).trans qT;have RR:=(hb2.cell (p:=(VJ w.heap.size 1)) EJ).trans pg;have pM:=(hb2.cell (p:=(VJ p 0)) (by show p<W1.heap.size;omega)).trans qd
  try go_wp2_with fail
  refine Z_.go λhHeld=>?_;clear Z_ Y_
  try refine UE ?_
  have UT:=RH hb2;have hkk:Hid _:=hk;clear hb2 hk hrc;refine Uh 6 ?_;refine Uh 7 ?_;refine Ur 8 ?_;refine Ul 9 λY_ Z_=>?_;refine Vg ?_;intro hHeld;clear Z_ Y_
  try refine UE ?_
  refine Fe ?_;intro hHeld;refine La ?_;refine Nr ?_;obtain⟨W3,hW1⟩:∃W3,W3=w2.alloc (.cells #[.pointer hh,.pointer mt] 62):=Vx;obtain⟨z,hzz⟩:∃z,z=w2.heap.size:=Vx;rw[<- hW1,<- hzz];have j_:Below W1.heap.size W1 W3:=by rw[hW1];exact UT.alloc UT.size _
  have hzb:W3.heap[z]?=some (.cells #[.pointer hh,.pointer mt] 62):=jv;have hz1:W1.heap.size<=z:=by rw[hzz];exact UT.size
  clear hzz hW1 UT RC RR pM
 case' Ab2=>
  refine Vg ?_;intro hHeld;clear Z_ Y_
  try refine UE ?_
  refine Ul 5 λY_ Z_=>?_;go_simp;refine(hrc _ hBb).mono ?_;rintro e w2 ⟨hh,mt,kk,rfl,hk,hb2⟩;have hb3:Below W1.heap.size (W1.alloc (.cells #[.pointer none,.pointer none] 62)).drew w2:=hb2.mono Vy;have UT:=hBb.trans hb3;have RC:=(UT.cell (p:=(VJ w.heap.size 0)) EJ).trans qT;have RR:=(UT.cell (p:=(VJ w.heap.size 1)) EJ).trans pg;have pM:=(UT.cell (p:=(VJ p 0)) (by show p<W1.heap.size;omega)).trans qd;have LO:=(hb2.block _ Vy).trans (Z4 _ _).1
  try go_wp2_with fail
  refine Z_.go λhHeld=>?_;clear Z_ Y_
  try refine UE ?_
  refine amK ?_;intro u0 u1 uf;have hkk:Hid _:=hk;have Z1:¬W1.heap.size=w.heap.size:=VH;have Te:¬W1.heap.size=p:=VH;clear hb2 hk hrc hb3;refine Uh 6 ?_;refine Uh 7 ?_;refine Ur 8 ?_;refine Fe ?_;intro hHeld;refine La ?_;refine Nr ?_;obtain⟨W3,hW1⟩:∃W3,W3=(w2.setCell (VJ W1.heap.size 0) (.pointer hh)).setCell (VJ W1.heap.size 1) (.pointer mt):=Vx;obtain⟨z,hzz⟩:∃z,z=W1.heap.size:=Vx;rw[<- hW1,<- hzz];have j_:Below W1.heap.size W1 W3:=by rw[hW1];exact(UT.setCell UM _).setCell UM _
  have hzb:W3.heap[z]?=some (.cells #[.pointer hh,.pointer mt] 62):=abJ;have hz1:W1.heap.size<=z:=VH;clear hzz hW1 UT RC RR pM LO u0 u1 uf Z1 Te
 all_goals
  have RC:=(j_.cell (p:=(VJ w.heap.size 0)) EJ).trans qT;have RR:=(j_.cell (p:=(VJ w.heap.size 1)) EJ).trans pg;have c13:=(j_.block _ VH).trans c2;have f0:W3.cell? (VJ (w.heap.size+1) 0)=some (.pointer none):=by simp only[World.cell?,c13];rfl
  have f1:W3.cell? (VJ (w.heap.size+1) 1)=some (.pointer none):=by simp only[World.cell?,c13];rfl
  have ff:∀o,W3.frozen? (VJ (w.heap.size+1) o)=false:=λo=>UL.free ⟨_,_,c13⟩ o;have z0:W3.cell? (VJ z 0)=some (.pointer hh):=by simp only[World.cell?,hzb];rfl
  have z1:W3.cell? (VJ z 1)=some (.pointer mt):=by simp only[World.cell?,hzb];rfl
  have hz3:=(Z5.1 hzb).1;have iX:¬w.heap.size=z:=VH;have gw:¬w.heap.size+1=z:=VH;have bq:¬p=z:=VH;have ap5:¬p=w.heap.size:=VH;have ce:¬p=K.b:=λe=>HH.o.Uc.bn (by rw[<- e];exact .inr akC);have Rv:w.heap.size+2<=W3.heap.size:=VH;have VM:Hid _:=j_;have wt:Hid _:=hzb;have xL:Hid _:=c13;clear j_ hzb c13 qT pg c2
  cases kk with
  | true=>
   obtain⟨r,Cg,e1,e2,e3,e4⟩:=hkk.o rfl;have hval:Value.agg #[.pointer r.hm,.pointer r.mt]=EX K (K.says m s (some c)):=by rw[<- e2];exact HH.o.ab5 hc (yp.o.2 r Cg).2 e1
   subst e3 e4;have HV:Hid _:=hval;clear hval e1 e2 Cg;go_wp2;have hs3:=H1.o.trans (Step.below H1.o.Ub VM.o);have hfin:=hs3.aside (S:=λk=>k=w.heap.size+1) (((Vt.refl _ (λk=>k=w.heap.size+1)).setCell (VJ (w.heap.size+1) 0) (.pointer r.hm) (λ_=>rfl)).setCell (VJ (w.heap.size+1) 1) (.pointer r.mt) (λ_=>rfl)) (λk e=>⟨VH,λe'=>by have:=HH.o.lt (k:=k) e';omega⟩) (λk hk=>HH.o.J7.lt hk);refine ZQ (RD (z:=w.heap.size+1) results136 (.pointer r.hm) (.pointer r.mt) rfl ?_ ?_) rfl ⟨YV Ending.returned HV.o,K,hfin⟩
   . exact(VD PO).trans (Vr f0)
   . exact Vr aj9
  | false=>
   have Mf:=rJ (H1.o.Ub.below VM.o) (Nat.lt_succ_of_le HH.o.cll) hc s hs;have n_:EX K (K.says {m with looks:=m.looks+1} s (some c))=EX K (K.says m s (some c)):=rfl;rw[n_]at Mf;unfold EX at Mf;obtain⟨va,PA⟩:∃va,va=Vq ((K.says m s (some c)).map (λx=>K.cb x.1)):=Vx;obtain⟨vb,hvb⟩:∃vb,vb=Vq ((K.says m s (some c)).map (·.2)):=Vx;rw[<- PA,<- hvb]at Mf
   have pC:Hid (va=Vq ((K.says m s (some c)).map (λx=>K.cb x.1))/\vb=Vq ((K.says m s (some c)).map (·.2))):=⟨PA,hvb⟩
   clear PA hvb n_;go_wp2_with fail;refine Mf.mono ?_;rintro e W1 ⟨rfl,K4,h4,ev,uE,eL,yk⟩;have hft:∀k,U2 {m with looks:=m.looks+1} K k->k<w.heap.size:=λk e=>HH.o.lt (k:=k) e;have So:=(h4.Ut.block z hz3 (λe=>by have:=hft _ e;omega)).trans wt.o;have Fw:=(h4.Ut.block _ VH (λe=>by have:=hft _ e;omega)).trans xL.o;have yv:∀o,W1.cell? (VJ w.heap.size o)=W3.cell? (VJ w.heap.size o):=λo=>Z9 (a:=(VJ w.heap.size o)) (h4.Ut.block _ ac1 (λe=>by have:=hft _ e;simp only at this;omega));have y0:=(yv 0).trans RC;have y1:=(yv 1).trans RR;have g0:W1.cell? (VJ z 0)=some (.pointer hh):=by simp only[World.cell?,So];rfl
   have g1:W1.cell? (VJ z 1)=some (.pointer mt):=by simp only[World.cell?,So];rfl
   have gf:∀o,W1.frozen? (VJ z o)=false:=λo=>UL.free ⟨_,_,So⟩ o;have Rv:=h4.Ut.size
   have H4:Hid (Step W3 W1 {m with looks:=m.looks+1} K {m with looks:=m.looks+1} K4/\K4.cb=K.cb/\K4.mid=K.mid/\K4.k.L=K.k.L/\K4.k.pm=K.k.pm):=⟨h4,ev,uE,eL,yk⟩
   have eB:Hid (W1.heap[z]?=some (.cells #[.pointer hh,.pointer mt] 62)/\W1.heap[w.heap.size+1]?=some (.cells #[.pointer none,.pointer none] 62)):=⟨So,Fw⟩
   clear h4 hft yv So Fw RC RR f0 f1 ff z0 z1 Mf ev uE eL yk;go_wp2_with fail;obtain⟨W3,hW1⟩:∃W3,W3=(W1.setCell (VJ z 0) (.pointer va)).setCell (VJ z 1) (.pointer vb):=Vx;rw[<- hW1];have hc5:Vt W1 W3 (λk=>k=z):=ajP;have h4:=adN HH.o H1.o KP VM.o hz1 hz3 H4.o.1 hc5;have So:W3.heap[z]?=some (.cells #[.pointer va,.pointer vb] 62):=by rw[hW1];exact set2 eB.o.1
   have Fw:=(hc5.block _ VH gw).trans eB.o.2;have yv:∀o,W3.cell? (VJ w.heap.size o)=W1.cell? (VJ w.heap.size o):=λo=>Z9 (a:=(VJ w.heap.size o)) (hc5.block _ EJ iX);have x0:=(yv 0).trans y0;have x1:=(yv 1).trans y1;have g0:W3.cell? (VJ z 0)=some (.pointer va):=by simp only[World.cell?,So];rfl
   have g1:W3.cell? (VJ z 1)=some (.pointer vb):=by simp only[World.cell?,So];rfl
   have Lz:(p,s)∈K4.k.L:=by rw[H4.o.2.2.2.1];exact hp
   have ij:K4.k.pm p=M:=by rw[H4.o.2.2.2.2];exact yp.o.1
   have Gc:=h4.Ub.Uc.Ru.at_ p s Lz;have Rs:=h4.Ub.Uc.Ru.ok p s Lz;rw[ij]at Gc Rs;rw[Wg.o.2.2]at Gc;have qd:W3.cell? (VJ p 0)=some (.iface T P0):=by simp only[World.cell?,Gc];rfl
   have gL:K4.k.np=K.np:=H4.o.1.np;rw[gL]at Rs;have c2:W3.cell? (VJ K.b 4)=some (VI (K.np:Nat)):=by have:=h4.Ub.hd.c4;rw[h4.b,h4.np]at this;exact this
   have hlr:=aeE M ⟨some (VJ (K.cb c) 0),s,va,vb⟩ K.np W3.drew (Rs.1.keep Ji) Rs.2 Pr;simp only[Wg.o.1,Wg.o.2.1,U1.val]at hlr;have Rv:=hc5.size;have iA:K.b<W3.heap.size:=VH;have tM:p<W3.heap.size:=VH;have rn:z<W3.heap.size:=VH
   have J2:∀q,M.arr=some q->q≠w.heap.size/\q≠z/\q≠K.b/\q≠p/\q≠w.heap.size+1:=λq e=>by
    have h1:=N6.o.2.2 q e;have eR:Td K.k q:=.inr (.inr (.inl ⟨p,s,hp,.inr (by rw[yp.o.1];exact e)⟩));have h1:=HH.o.Uc.lt eR;refine⟨VH,VH,λe'=>HH.o.Uc.bn (by rw[<- e'];exact eR),λe'=>?_,VH⟩;have ha:=HH.o.Uc.Ru.at_ p s hp;obtain⟨cur,V_⟩:=HH.o.Uc.Ru.Qz hp (q:=q) (by rw[yp.o.1];exact e);exact ajt
   have t5:Hid (W3.heap[w.heap.size+1]?=some (.cells #[.pointer none,.pointer none] 62)/\W3.heap[p]?=some (.cells #[(.iface T P0)] 198)/\W3.heap[z]?=some (.cells #[.pointer va,.pointer vb] 62)):=⟨Fw,Gc,So⟩
   have xL:Hid _:=hc5;clear hW1 h4 So Fw yv Gc Rs y0 y1 gf hc5;refine Uy ?_;refine ZT (S:=(λw'=>w'.cell? (VJ w.heap.size 0)=some ((VG (K.cb c)))/\w'.cell? (VJ w.heap.size 1)=some (.string s)/\w'.cell? (VJ z 0)=some (.pointer va)/\w'.cell? (VJ z 1)=some (.pointer vb)/\w'.cell? (VJ K.b 4)=some (VI (K.np:Nat)))) VE UG (λhHeld=>?_);refine pJ ?_;refine agh ?_;refine Uh 8 ?_;refine dX ?_;refine Ur 11 ?_;refine Ul 4 λY_ Z_=>?_;refine Vg ?_;intro hHeld;clear Z_ Y_
   try refine UE ?_
   refine Uh 12 ?_;refine Ur 13 ?_;refine Ul 14 λY_ Z_=>?_;go_simp;refine hlr.mono ?_;rintro e W1 ⟨My,rfl,Rs,EB,LS,Sx⟩;have cD:=(Z9 (a:=(VJ w.heap.size 0)) (Sx.block _ ac1 (λe=>(J2 _ e).1 rfl))).trans x0;have cD:=(Z9 (a:=(VJ w.heap.size 1)) (Sx.block _ ac1 (λe=>(J2 _ e).1 rfl))).trans x1;have g06:=(Z9 (a:=(VJ z 0)) (Sx.block _ rn (λe=>(J2 _ e).2.1 rfl))).trans g0;have g06:=(Z9 (a:=(VJ z 1)) (Sx.block _ rn (λe=>(J2 _ e).2.1 rfl))).trans g1;have c13:=(Z9 (a:=(VJ K.b 4)) (Sx.block _ iA (λe=>(J2 _ e).2.2.1 rfl))).trans c2
   try go_wp2_with fail
   refine Z_.go λhHeld=>?_;clear Z_ Y_
   try refine UE ?_
   have Lz:=(Sx.block p tM (λe=>(J2 _ e).2.2.2.1 rfl)).trans t5.o.2.1;have Fw:=(Sx.block _ (by show w.heap.size+1<W3.heap.size;omega) (λe=>(J2 _ e).2.2.2.2 rfl)).trans t5.o.1;have pM:W1.cell? (VJ p 0)=some (.iface T P0):=by simp only[World.cell?,Lz];rfl
   have pf6:∀o,W1.frozen? (VJ p o)=false:=λo=>UL.free ⟨_,_,Lz⟩ o;have f0:W1.cell? (VJ (w.heap.size+1) 0)=some (.pointer none):=by simp only[World.cell?,Fw];rfl
   have f1:W1.cell? (VJ (w.heap.size+1) 1)=some (.pointer none):=by simp only[World.cell?,Fw];rfl
   have ff:∀o,W1.frozen? (VJ (w.heap.size+1) o)=false:=λo=>UL.free ⟨_,_,Fw⟩ o;have Rv:=Sx.size
   have bL:Hid (My.Ok W1/\Lrn K.np M ⟨some (VJ (K.cb c) 0),s,va,vb⟩ My/\(∀q,My.arr=some q->M.arr=some q\/W3.heap.size<=q)/\Vt W3 W1 (λk=>M.arr=some k)):=⟨Rs,EB,LS,(Vt.refl W3 _).drew.then Sx Qi⟩
   clear Rs EB LS Sx hlr Lz Fw qd x0 x1 g0 g1 c2 J2;obtain⟨tt,vv,hvv⟩:∃t v,My.val=.iface t v:=by cases My<;>exact⟨_,_,rfl⟩
   rw[hvv];have HVV:Hid _:=hvv;clear hvv;refine Uh 15 ?_;refine Ur 16 ?_;refine Ul 17 λY_ Z_=>?_;refine Vg ?_;intro hHeld;clear Z_ Y_;refine Um ?_;go_wp2;obtain⟨Rs,EB,LS,Sx⟩:=bL.o;have hput:=acz (s:=s) (p:=p) (r:=⟨some (VJ (K.cb c) 0),s,va,vb⟩) (mm:=My) HH.o H1.o VH KP VM.o hz1 hz3 H4.o.1 H4.o.2.2.2.1 H4.o.2.2.2.2 xL.o hp (by rw[H4.o.1.np,yp.o.1];exact EB) ⟨rfl,c,hc,by rw[H4.o.2.1],by rw[pC.o.1,H4.o.2.1,H4.o.2.2.1];rfl,by rw[pC.o.2,H4.o.2.2.1];rfl⟩ Rs (by rw[yp.o.1];exact LS) (by rw[yp.o.1];exact Sx) (.pointer va) (.pointer vb);rw[HVV.o]at hput;refine ZQ (RD (z:=w.heap.size+1) results136 (.pointer va) (.pointer vb) rfl ?_ ?_) rfl ⟨?_,hput⟩
   . exact(VD PO).trans (Vr ((VD PO).trans f0))
   . exact Vr ((VD PO).trans aj9)
   . rw[pC.o.1,pC.o.2];rfl
def BQ (h:Ud w m K){p:Nat}{s:ByteArray}(hp:(p,s)∈K.k.L)(c:Option Nat)(hc:∀x,c=some x->x<m.kl.length)(hs:s.size<=1000):
 Calls prog 136 #[VG K.b,VG p,.agg #[.pointer (Vq (c.map K.cb)),.string s]] w λe w'=>e=.returned (EX K (K.says m s c))/\∃K',Step w w' m K {m with looks:=m.looks+1} K':=by
 cases c with
 | none=>
  have:=aj h p s;rw[show K.says m s none=none from Ja _ _ _];exact this
 | some c=>
  have hc:=hc c rfl
  cases hmm:K.k.pm p with
  | no=>exact Ef Mm.no 194 184 183 (.agg #[]) rfl rfl rfl rfl E8 E8 FI FI h hp hc hs hmm
  | only=>exact Ef Mm.only 206 187 186 (.agg #[]) rfl rfl rfl rfl E8 E8 FI FI h hp hc hs hmm
  | one o=>exact Ef (Mm.one o) 259 191 190 (o.val) rfl rfl rfl rfl E8 E8 FI FI h hp hc hs hmm
  | many q cap rs=>exact Ef (Mm.many q cap rs) 262 194 193 (.agg #[.slice (some (VJ q 0)) rs.length cap]) rfl rfl rfl rfl E8 E8 FI FI h hp hc hs hmm
end Go.Proofs.Rz
namespace Go.Proofs.Rz
open ChangeShapes WideShapes ChangeAt RowKit Kn Iz Tryz
def doF (k:Nat):Nat:=match k with
 | 1=>114
 | 2=>115
 | 3=>116
 | 4=>117
 | 5=>118
 | 6=>119
 | 7=>120
 | 8=>121
 | 9=>122
 | 10=>123
 | 11=>124
 | 12=>125
 | 13=>126
 | 14=>127
 | 15=>128
 | 16=>129
 | 17=>130
 | 18=>131
 | 19=>132
 | 20=>133
 | 21=>134
 | _=>135
structure SS (w:World)(b rb:Nat)(top:Option Nat)(depth fuel:Nat):Prop where
 blk:∃cs:Array Value,w.heap[rb]?=some (.cells cs 174)/\cs.size=29
 c0:w.cell? (VJ rb 0)=some (VG b)
 cd:∀k,1<=k->k<23->w.cell? (VJ rb (1+k))=some (.func (.func (doF k)) #[] #[])
 ct:w.cell? (VJ rb 24)=some (.pointer (Vq top))
 cq:w.cell? (VJ rb 25)=some (VI (depth:Nat))
 cf:w.cell? (VJ rb 26)=some (VI (fuel:Nat))
variable {w : World}
def SS.Vb {b rb:Nat}{top:Option Nat}{depth fuel:Nat}(h:SS w b rb top depth fuel):UL w rb:=by
 obtain⟨cs,e,_⟩:=h.blk;exact⟨_,_,e⟩
def SS.some {b rb:Nat}{top:Option Nat}{depth fuel:Nat}(h:SS w b rb top depth fuel){o:Nat}(ho:o<29):∃v,w.cell? (VJ rb o)=some v:=by
 exact amg
variable {w' : World}
def SS.same {b rb:Nat}{top:Option Nat}{depth fuel:Nat}(h:SS w b rb top depth fuel)(e:w'.heap[rb]?=w.heap[rb]?):SS w' b rb top depth fuel:=by
 have hc:∀o,w'.cell? (VJ rb o)=w.cell? (VJ rb o):=λo=>Z9 e;obtain⟨cs,e1,hz⟩:=h.blk;exact⟨⟨cs,e.trans e1,hz⟩,(hc _).trans h.c0,λk h1 h2=>(hc _).trans (h.cd k h1 h2),(hc _).trans h.ct,(hc _).trans h.cq,(hc _).trans h.cf⟩
def run_set {rb:Nat}(h:∃cs:Array Value,w.heap[rb]?=some (.cells cs 174)/\cs.size=29)(o:Nat)(v:Value):∃cs:Array Value,(w.setCell (VJ rb o) v).heap[rb]?=some (.cells cs 174)/\cs.size=29:=by
 exact al3
def SS.mW {b rb:Nat}{top:Option Nat}{depth fuel:Nat}(h:SS w b rb top depth fuel)(t:Option Nat):SS (w.setCell (VJ rb 24) (.pointer (Vq t))) b rb t depth fuel:=
 ⟨run_set h.blk _ _,(fo _ _ _ _ VH).trans h.c0,λk h1 h2=>(fo _ _ _ _ VH).trans (h.cd k h1 h2),Vr h.ct,(fo _ _ _ _ VH).trans h.cq,(fo _ _ _ _ VH).trans h.cf⟩
def SS.DZ {b rb:Nat}{top:Option Nat}{depth fuel:Nat}(h:SS w b rb top depth fuel)(d:Nat):SS (w.setCell (VJ rb 25) (VI (d:Nat))) b rb top d fuel:=
 ⟨run_set h.blk _ _,(fo _ _ _ _ VH).trans h.c0,λk h1 h2=>(fo _ _ _ _ VH).trans (h.cd k h1 h2),(fo _ _ _ _ VH).trans h.ct,Vr h.cq,(fo _ _ _ _ VH).trans h.cf⟩
def SS.afs {b rb:Nat}{top:Option Nat}{depth fuel:Nat}(h:SS w b rb top depth fuel)(d:Nat):SS (w.setCell (VJ rb 26) (VI (d:Nat))) b rb top depth d:=
 ⟨run_set h.blk _ _,(fo _ _ _ _ VH).trans h.c0,λk h1 h2=>(fo _ _ _ _ VH).trans (h.cd k h1 h2),(fo _ _ _ _ VH).trans h.ct,(fo _ _ _ _ VH).trans h.cq,Vr h.cf⟩
structure amH (w:World)(K:Kd)(fb mk:Nat)(f:Fr)(snd:Option Nat):Prop where
 raw:Un w fb (some (VJ mk 0)) (some (VJ (K.cb f.home) 0)) f.self f.args f.pc f.st snd
 yZ:K.k.Mk mk
 ws:(K.k.md mk).ws=f.ws
def Frs (w:World)(K:Kd):List (Nat×Nat)->List Fr->Prop
 | [],[]=>True
 | p::bs,f::fs=>amH w K p.1 p.2 f (bs.head?.map (·.1))/\Frs w K bs fs
 | _,_=>False
variable {m : Im}
variable {K K' : Kd}
theorem Frs.same (hcb:∀c,c<m.kl.length->K'.cb c=K.cb c)(Wm:∀k,K.k.Mk k->K'.k.Mk k/\K'.k.md k=K.k.md k):∀(bs:List (Nat×Nat)) (fs:List Fr),(∀f∈fs,f.home<m.kl.length)->Frs w K bs fs->(∀p∈bs,w'.heap[p.1]?=w.heap[p.1]?)->Frs w' K' bs fs
 | [],[],_,_,_=>trivial
 | [],_::_,_,h,_=>h
 | _::_,[],_,h,_=>h
 | p::bs,f::fs,hh,h,he=>by
  refine⟨⟨?_,(Wm _ h.1.yZ).1,by rw[(Wm _ h.1.yZ).2];exact h.1.ws⟩,Frs.same hcb Wm bs fs (λg hg=>hh g fU) h.2 (λq hq=>he q (Zo _ hq))⟩;rw[hcb f.home (hh f Po)];exact h.1.raw.same (he p Po)
structure Sg (Dd:Nat->Prop)(w0:World)(m0:Im)(K0:Kd)(rb:Nat)(w:World)(m:Im)(K:Kd)(fuel:Nat)(bs:List (Nat×Nat))(fs:List Fr):Prop where
 Qj:Step w0 w m0 K0 m K
 run:SS w K.b rb (bs.head?.map (·.1)) fs.length fuel
 LY:Frs w K bs fs
 len:bs.length=fs.length
 nd:(rb::bs.map (·.1)).Nodup
 lo:∀k,k∈rb::bs.map (·.1)->w0.heap.size<=k/\k<w.heap.size/\¬U2 m K k
 ok:U3 m
 homes:∀f∈fs,f.home<m.kl.length
 dead:∀k,Dd k->w0.heap.size<=k/\k<w.heap.size/\¬U2 m K k/\UL w k
variable {w0 : World}
variable {m0 : Im}
variable {K0 : Kd}
variable {Dd : Nat -> Prop}
variable {bs : List (Nat × Nat)}
variable {fs : List Fr}
variable {m' : Im}
def Sg.img {rb:Nat}{fuel:Nat}(h:Sg Dd w0 m0 K0 rb w m K fuel bs fs)(hs:Step w w' m K m' K'):Sg Dd w0 m0 K0 rb w' m' K' fuel bs fs:=by
 have hsame:∀k,k∈rb::bs.map (·.1)->w'.heap[k]?=w.heap[k]?:=λk hk=>hs.Ut.block k (h.lo k hk).2.1 (h.lo k hk).2.2;refine⟨h.Qj.trans hs,?_,Frs.same hs.cb hs.md bs fs h.homes h.LY (λp hp=>hsame _ ig),h.len,h.nd,λk hk=>⟨(h.lo k hk).1,ZY (h.lo k hk).2.1 hs.Ut.size,λe=>?_⟩,hs.Ub.ok,λf hf=>ZY (h.homes f hf) hs.len,λk hk=>⟨(h.dead k hk).1,ZY (h.dead k hk).2.1 hs.Ut.size,λe=>?_,(h.dead k hk).2.2.2.same (hs.Ut.block k (h.dead k hk).2.1 (h.dead k hk).2.2.1)⟩⟩
 . rw[hs.b];exact h.run.same (hsame rb Po)
 . rcases hs.foot k e with e|e
   . exact(h.lo k hk).2.2 e
   . have:=(h.lo k hk).2.1;omega
 . rcases hs.foot k e with e|e
   . exact(h.dead k hk).2.2.1 e
   . have:=(h.dead k hk).2.1;omega
def Sg.below {rb:Nat}{fuel:Nat}(h:Sg Dd w0 m0 K0 rb w m K fuel bs fs)(hb:Below w.heap.size w w'):Sg Dd w0 m0 K0 rb w' m K fuel bs fs:=h.img (Step.below h.Qj.Ub hb)
def Sg.top {rb fb mk:Nat}{fuel:Nat}{f f':Fr}(h:Sg Dd w0 m0 K0 rb w m K fuel ((fb,mk)::bs) (f::fs))(h0:Qv w0)(hch:Vt w w' (λk=>k=fb))
 (hr:Un w' fb (some (VJ mk 0)) (some (VJ (K.cb f.home) 0)) f'.self f'.args f'.pc f'.st (bs.head?.map (·.1))) (hh:f'.home=f.home) (hw:f'.ws=f.ws):Sg Dd w0 m0 K0 rb w' m K fuel ((fb,mk)::bs) (f'::fs):=by
 refine aaV ?_;intro hnd;have hsame:∀k,k∈rb::((fb,mk)::bs).map (·.1)->k≠fb->w'.heap[k]?=w.heap[k]?:=λk hk hne=>hch.block k (h.lo k hk).2.1 hne;have hlo:=h.lo fb Vy;refine⟨h.Qj.aside hch qM DL,?_,⟨⟨by rw[hh];exact hr,h.LY.1.yZ,by rw[hw];exact h.LY.1.ws⟩,?_⟩,h.len,h.nd,λk hk=>aeb,h.ok,λg hg=>?_,λk hk=>⟨(h.dead k hk).1,ZY (h.dead k hk).2.1 hch.size,(h.dead k hk).2.2.1,?_⟩⟩
 . exact h.run.same (hsame rb Vy (λe=>hnd.1.1 e))
 . refine Frs.same (m:=m) Ji iV bs fs (λg hg=>h.homes g fU) h.LY.2 (λp hp=>hsame p.1 ?_ ?_)
   . simp only[Zc,ZM];exact .inr (.inr aoL)
   . exact λe=>hnd.2.1 ac0
 . rcases ZM.1 hg with e|e
   . rw[e,hh];exact h.homes f Po
   . exact h.homes g (Zo _ e)
 . by_cases e:k=fb
   . rw[e];exact hr.Vb
   . exact(h.dead k hk).2.2.2.same ai6
def Sg.runs {rb:Nat}{fuel fuel':Nat}(h:Sg Dd w0 m0 K0 rb w m K fuel bs fs)(h0:Qv w0)(hch:Vt w w' (λk=>k=rb))(hr:SS w' K.b rb (bs.head?.map (·.1)) fs.length fuel'):Sg Dd w0 m0 K0 rb w' m K fuel' bs fs:=by
 have hnd:=h.nd;rw[YS]at hnd;have hlo:=h.lo rb Po;refine⟨h.Qj.aside hch qM DL,hr,?_,h.len,h.nd,λk hk=>aeb,h.ok,h.homes,λk hk=>⟨(h.dead k hk).1,ZY (h.dead k hk).2.1 hch.size,(h.dead k hk).2.2.1,?_⟩⟩
 rotate_left
 . exact adp
 exact aor
def Sg.aside {rb:Nat}{fuel:Nat}{S:Nat->Prop}(h:Sg Dd w0 m0 K0 rb w m K fuel bs fs)(h0:Qv w0)(hch:Vt w w' S)(hS:∀k,S k->w0.heap.size<=k/\¬U2 m K k/\k ∉ rb::bs.map (·.1)/\¬Dd k):Sg Dd w0 m0 K0 rb w' m K fuel bs fs:=by
 have hsame:∀k,k∈rb::bs.map (·.1)->w'.heap[k]?=w.heap[k]?:=λk hk=>hch.block k (h.lo k hk).2.1 (λe=>(hS k e).2.2.1 hk);exact⟨h.Qj.aside hch (λk e=>⟨(hS k e).1,(hS k e).2.1⟩) DL,h.run.same (hsame rb Po),Frs.same (m:=m) Ji iV bs fs h.homes h.LY (λp hp=>hsame _ ig),h.len,h.nd,λk hk=>aeb,h.ok,h.homes,λk hk=>⟨(h.dead k hk).1,ZY (h.dead k hk).2.1 hch.size,(h.dead k hk).2.2.1,(h.dead k hk).2.2.2.same (hch.block k (h.dead k hk).2.1 (λe=>(hS k e).2.2.2 hk))⟩⟩
def TV (Dd:Nat->Prop)(w0:World)(m0:Im)(K0:Kd)(rb:Nat)(g:SN)(e:Ending)(w':World):Prop:=match g with
 | .on m fuel fs=>e=.returned (.tuple #[])/\∃K bs,Sg Dd w0 m0 K0 rb w' m K fuel bs fs
 | .told m v=>e=.returned (.tuple #[])/\∃K,Step w0 w' m0 K0 m K/\UL w' rb/\w'.cell? (VJ rb 24)=some (.pointer none)/\w'.cell? (VJ rb 27)=some (.bool v.obj)/\w'.cell? (VJ rb 28)=some (VI v.n)
 | .stop m n=>e=.panicked (Jc n)/\∃K,Step w0 w' m0 K0 m K
def Sg.look {Dd Df:Nat->Prop}{rb:Nat}{fuel:Nat}(h:Sg Dd w0 m0 K0 rb w m K fuel bs fs)(hd:∀k,Df k->w0.heap.size<=k/\k<w.heap.size/\¬U2 m K k/\UL w k):Sg Df w0 m0 K0 rb w m K fuel bs fs:=⟨h.Qj,h.run,h.LY,h.len,h.nd,h.lo,h.ok,h.homes,hd⟩
def FD (w:World):Calls prog 90 #[] w λe w'=>e=.returned (VG w.heap.size)/\w'=w.alloc (.cells #[Mm.only.val] 198):=by
 go_enter func90,ntmps90;go_wp2
 go_ret
 exact KP
def afR {b rb:Nat}{top:Option Nat}{depth:Nat}(h:SS w b rb top depth 0):Calls prog 137 #[VG rb] w λe w'=>e=.panicked (Jc 2)/\w'=w:=by
 have cf:=h.cf;clear h;simp only[Int.natCast_zero]at cf;go_enter func137,ntmps137;go_wp2;exact vg
def agA {b rb:Nat}{top:Option Nat}{depth fuel:Nat}(h:SS w b rb top depth (fuel+1))(hf:fuel<=3000):Calls prog 137 #[VG rb] w λe w'=>e=.returned (.tuple #[])/\w'=w.setCell (VJ rb 26) (VI (fuel:Nat)):=by
 have cf:=h.cf;have fz:=λo=>h.Vb.free o;simp only[XK,WS]at cf;clear h;go_enter func137,ntmps137;go_wp2
 go_end0
 exact KP
variable {f : Fr}
def Sg.pop {rb fb mk:Nat}{fuel:Nat}(h:Sg Dd w0 m0 K0 rb w m K fuel ((fb,mk)::bs) (f::fs))(h0:Qv w0)(hch:Vt w w' (λk=>k=rb))(hr:SS w' K.b rb (bs.head?.map (·.1)) fs.length fuel):Sg Dd w0 m0 K0 rb w' m K fuel bs fs:=by
 refine aaV ?_;intro hnd;have hlo:=h.lo rb Po
 have hin:∀k,k∈rb::bs.map (·.1)->k∈rb::((fb,mk)::bs).map (·.1):=λk hk=>by
  rcases ZM.1 hk with e|e
  . rw[e];exact XZ ..
  . simp only[Zc,ZM];exact .inr (.inr e)
 refine⟨h.Qj.aside hch qM DL,hr,?_,by have:=h.len;simp at this;exact this,?_,λk hk=>⟨(h.lo k (hin k hk)).1,ZY (h.lo k (hin k hk)).2.1 hch.size,(h.lo k (hin k hk)).2.2⟩,h.ok,λg hg=>h.homes g fU,λk hk=>⟨(h.dead k hk).1,ZY (h.dead k hk).2.1 hch.size,(h.dead k hk).2.2.1,?_⟩⟩
 . refine Frs.same (m:=m) Ji iV bs fs (λg hg=>h.homes g fU) h.LY.2 (λp hp=>hch.block p.1 (h.lo p.1 (hin _ ig)).2.1 (λe=>hnd.1.2 ac0))
 . rw[YS];exact⟨hnd.1.2,hnd.2.2⟩
 . exact adp
def sS {rb fb mk:Nat}{fuel:Nat}(h:Sg Dd w0 m0 K0 rb w m K fuel ((fb,mk)::bs) (f::fs))(h0:Qv w0)(v:Vl)(C':fs.length<=32)(hroom:∀g gs,fs=g::gs->g.st.length<16):
 Calls prog 138 #[VG rb,v.val] w (TV Dd w0 m0 K0 rb (QJ m fuel v fs)):=by
 obtain⟨W1,hW1⟩:∃W1,W1=w.alloc (.cells #[.bool v.obj,VI v.n] 33):=Vx;have hrl:=(h.lo rb Vy).2.1;have hfl:=(h.lo fb Vy).2.1;have ct:=h.run.ct;have cq:=h.run.cq;simp only[XP,ZG,Vq,ZI,XK,WS]at ct cq;have cn:=h.LY.1.raw.cn;have pu:=λo=>h.run.Vb.free o;have t7:(fs.length:Int)<=32:=VH;have HS:Hid _:=h;clear h;unfold Vl.val;go_enter func138,ntmps138
 cases fs with
 | nil=>
  have hbs:bs=[]:=by
   have:=HS.o.len;simp at this;exact this
  subst hbs;simp only[List.head?_nil,Zm,Vq,YJ,Int.natCast_zero,Int.zero_add]at cn cq;obtain⟨o1,t27⟩:=HS.o.run.some (o:=27) VH;obtain⟨o1,t28⟩:=HS.o.run.some (o:=28) VH;go_wp2;have hlo:=HS.o.lo rb Vy;refine yM ?_;obtain⟨X,hX⟩:∃X,X=(((w.setCell (VJ rb 24) (.pointer none)).setCell (VJ rb 25) (VI 0)).setCell (VJ rb 27) (.bool v.obj)).setCell (VJ rb 28) (VI v.n):=Vx;rw[<- hX];have G0:X.heap.size=w.heap.size:=by rw[hX];simp[World.setCell]
  have hce:∀o,(X.alloc (.cells #[.bool v.obj,VI v.n] 33)).cell? (VJ rb o)=X.cell? (VJ rb o):=λo=>Z9 (a:=(VJ rb o)) (ZV _ _ _ (by show rb<X.heap.size;omega));refine⟨rfl,K,HS.o.Qj.aside (S:=λk=>k=rb) ?_ qM DL,?_,(hce _).trans ?_,(hce _).trans ?_,(hce _).trans ?_⟩
  . rw[hX];exact(((((Vt.refl w (λk=>k=rb)).setCell _ _ (λ_=>rfl)).setCell _ _ (λ_=>rfl)).setCell _ _ (λ_=>rfl)).setCell _ _ (λ_=>rfl)).alloc _
  . have:UL X rb:=by rw[hX];exact(((HS.o.run.Vb.setCell _ _).setCell _ _).setCell _ _).setCell _ _
    exact this.same (ZV _ _ _ VH)
  . rw[hX,fo _ _ _ _ VH,fo _ _ _ _ VH,fo _ _ _ _ VH];exact Vr ct
  . rw[hX,fo _ _ _ _ VH];exact Vr (((fo _ _ _ _ VH).trans agc).trans t27)
  . rw[hX];exact Vr ((((fo _ _ _ _ VH).trans agc).trans agc).trans t28)
 | cons g gs=>
  cases bs with
  | nil=>exact absurd HS.o.len Vy
  | cons q bs=>
   obtain⟨gb,gm⟩:=q;simp only[XP,ZG,Vq]at cn;have aqg:(gs.length:Int)<=31:=by simp at t7;omega
   simp only[ZI,XK,WS]at cq;have Cg:=hroom g gs rfl;clear hroom C' t7;go_wp2_with fail;obtain⟨W1,hW1⟩:∃W1,W1=((w.setCell (VJ rb 24) (VG gb)).setCell (VJ rb 25) (VI ((gs.length:Int)+1))).alloc (.cells #[.bool v.obj,VI v.n] 33):=Vx;rw[<- hW1];have hz:((w.setCell (VJ rb 24) (VG gb)).setCell (VJ rb 25) (VI ((gs.length:Int)+1))).heap.size=w.heap.size:=zb4
   have h2:Sg Dd w0 m0 K0 rb W1 m K fuel ((gb,gm)::bs) (g::gs):=by
    rw[hW1];refine Sg.below (HS.o.pop h0 (((Vt.refl w (λk=>k=rb)).setCell _ _ (λ_=>rfl)).setCell _ _ (λ_=>rfl)) ?_) zt7;have:=(HS.o.run.mW (some gb)).DZ (gs.length+1);simpa[Vq]using this
   have hblk:W1.heap[w.heap.size]?=some (.cells #[.bool v.obj,VI v.n] 33):=by
    rw[hW1,<- hz];exact(Z4 _ _).1
   have v0:W1.cell? (VJ w.heap.size 0)=some (.bool v.obj):=by simp only[World.cell?,hblk];rfl
   have v1:W1.cell? (VJ w.heap.size 1)=some (VI v.n):=by simp only[World.cell?,hblk];rfl
   have XS:=h2.run.ct;simp only[XP,ZG,Vq]at XS;have p_:=RX (w:=W1.drew) (h2.LY.1.raw.same rfl) Cg v;unfold Vl.val at p_;have hl2:=(Z5.1 hblk).1;have S6:=(h2.lo rb Vy).2.1;have hgb:rb≠gb:=λe=>by have:=h2.nd;simp[e]at this
   have pe:w.heap.size≠gb:=λe=>by have:=(HS.o.lo gb Vy).2.1;omega
   have H2:Hid _:=h2;clear hW1 hz h2 hblk cq ct cn;refine Uy ?_;refine ZT (S:=(λw'=>w'.cell? (VJ w.heap.size 0)=some (.bool v.obj)/\w'.cell? (VJ w.heap.size 1)=some (VI v.n)/\w'.cell? (VJ rb 24)=some (VG gb))) VE UG (λhHeld=>?_);refine pJ ?_;refine FC ?_;intro Y_ Z_;refine CV ?_;rintro e w3 ⟨rfl,hf3,hc3⟩;have v0:=(Z9 (a:=(VJ w.heap.size 0)) (hc3.block _ hl2 pe)).trans v0;have v0:=(Z9 (a:=(VJ w.heap.size 1)) (hc3.block _ hl2 pe)).trans v1;have XS:=(Z9 (a:=(VJ rb 24)) (hc3.block _ S6 hgb)).trans XS
   try go_wp2_with fail
   refine Z_.go λhHeld=>?_;clear Z_ Y_;refine Um ?_
   go_end0
   refine⟨rfl,K,(gb,gm)::bs,?_⟩;exact H2.o.top (f':={g with st:=v::g.st}) h0 qX hf3 rfl rfl
def zI {av:Value}{args:List Vl}{ab nb:Nat}{cur:Array Value}{t:TypeId}(h:UH w av args ab)(h3:args.length<=3)(hg:w.heap[nb]?=some (.cells cur t))(hz:10<=cur.size)(ty:TypeId):
 (Builtin.copy_ #[34,34] ty #[.slice (some (VJ nb 4)) 3 3,av]).run prog w=.ok (VI (args.length:Nat)) (w.setRow nb (cur.toList.take 4++vcs args++cur.toList.drop (4+(vcs args).length)).toArray):=by
 obtain⟨i0,hi,_,h1,_⟩:=YQ Ho;obtain⟨ap,cap,rfl,hx⟩:=h;have hmin:Nat.min args.length 3=args.length:=XT h3;have hvl:=Kr args
 by_cases hne:args=[]
 . subst hne;have UI:=setRow_self w nb cur t (0,0) hg;have e0:(cur.toList.take 4++vcs []++cur.toList.drop (4+(vcs []).length)).toArray=cur:=by simp[vcs]
   rw[e0,UI]
   cases ap with
   | none=>simp[Builtin.copy_,Zu underlying34,Builtin.lenOf,Builtin.firstCells,Go.sizeOf,typeInfo,hi,h1,storeCells,goInt]
   | some a=>simp[Builtin.copy_,Zu underlying34,Builtin.lenOf,Builtin.firstCells,Go.sizeOf,typeInfo,hi,h1,storeCells,goInt,loadCells,loadCellsFrom]
 . obtain⟨ad,rfl,_,hsrc⟩:=hx hne;have hl:=run_loadCells_list (P:=prog) w ad (vcs args) hsrc;have hst:=Wv prog nb 4 t (vcs args) 0 cur w hg (by rw[hvl];omega) (afZ _);rw[hvl]at hl;rw[Yt]at hst;simp[Builtin.copy_,Zu underlying34,Builtin.lenOf,Builtin.firstCells,Go.sizeOf,typeInfo,hi,h1,goInt,hl,hst,hmin]
def F5 {nb:Nat}{mp kp:Option Addr}{sf:Vl}{args:List Vl}{snd:Option Nat}{cur:Array Value}(h3:args.length<=3)(hg:w.heap[nb]?=some (.cells cur 212))(hz:cur.size=45)
 (h0:cur[0]?=some (.pointer mp)) (h1:cur[1]?=some (.pointer kp)) (h2:cur[2]?=some (.bool sf.obj)) (h3':cur[3]?=some (VI sf.n)) (h10:cur[10]?=some (VI 0)) (h43:cur[43]?=some (VI 0)) (h44:cur[44]?=some (.pointer (Vq snd))):
 Un (w.setRow nb (cur.toList.take 4++vcs args++cur.toList.drop (4+(vcs args).length)).toArray) nb mp kp sf args 0 [] snd:=by
 have hb:=VP w nb cur (cur.toList.take 4++vcs args++cur.toList.drop (4+(vcs args).length)).toArray 212 _ hg;have hvl:=Kr args;have hl4:(cur.toList.take 4).length=4:=by simp[hz]
 have lo:∀o,o<4->(w.setRow nb (cur.toList.take 4++vcs args++cur.toList.drop (4+(vcs args).length)).toArray).cell? (VJ nb o)=cur[o]?:=λo ho=>by
  simp only[World.cell?,hb,YF];rw[Y1,ZH VH,Zl ho,Zf];rfl
 have mid:∀o,o<(vcs args).length->(w.setRow nb (cur.toList.take 4++vcs args++cur.toList.drop (4+(vcs args).length)).toArray).cell? (VJ nb (4+o))=(vcs args)[o]?:=λo ho=>by
  simp only[World.cell?,hb,YF];rw[Y1,ZP VH,ZH VH,hl4,Nat.add_sub_cancel_left];rfl
 have hi:∀o,4+(vcs args).length<=o->(w.setRow nb (cur.toList.take 4++vcs args++cur.toList.drop (4+(vcs args).length)).toArray).cell? (VJ nb o)=cur[o]?:=λo ho=>by
  simp only[World.cell?,hb,YF];rw[ZP (by simp only[Zw,hl4];omega),Zn,Zw,hl4,show 4+(vcs args).length+(o-(4+(vcs args).length))=o from VH,Zf];rfl
 refine⟨⟨_,hb,?_⟩,(lo 0 VH).trans h0,(lo 1 VH).trans h1,(lo 2 VH).trans h2,(lo 3 VH).trans h3',λi v hv=>?_,h3,(hi 10 VH).trans h10,λi v hv=>(by cases hv),Vy,(hi 43 VH).trans h43,(hi 44 VH).trans h44⟩
 . simp only[Xe,Zw,hl4,Zh,Xt,hz];omega
 . have hlt:=(Z7.1 hv).1;obtain⟨e1,e2⟩:=PV args i v hv;exact⟨(mid (i*2) VH).trans e1,(mid (i*2+1) VH).trans e2⟩
def Sg.push {rb nb mk:Nat}{fuel:Nat}(h:Sg Dd w0 m0 K0 rb w m K fuel bs fs)(h0:Qv w0)(hch:Vt w w' (λk=>k=rb))(hr:SS w' K.b rb (some nb) (fs.length+1) fuel)(hn:w.heap.size<=nb)
 (hf:amH w' K nb mk f (bs.head?.map (·.1))) (hh:f.home<m.kl.length):Sg Dd w0 m0 K0 rb w' m K fuel ((nb,mk)::bs) (f::fs):=by
 have hnd:=h.nd;rw[YS]at hnd;have hlo:=h.lo rb Po;have hst:=h.Qj.aside hch qM DL;have hnb:nb ∉ rb::bs.map (·.1):=λe=>by have:=(h.lo nb e).2.1;omega
 refine⟨hst,hr,⟨hf,?_⟩,by simp[h.len],?_,λk hk=>?_,h.ok,λg hg=>?_,λk hk=>⟨(h.dead k hk).1,ZY (h.dead k hk).2.1 hch.size,(h.dead k hk).2.2.1,?_⟩⟩
 rotate_right
 . exact adp
 . exact aor
 . simp only[Zc,YS,ZM,not_or]at hnb ⊢;exact⟨⟨λe=>hnb.1 e.symm,hnd.1⟩,hnb.2,hnd.2⟩
 . have key:k=nb\/k∈rb::bs.map (·.1):=by
    simp only[Zc,ZM]at hk ⊢;rcases hk with e|e|e
    . exact .inr (.inl e)
    . exact .inl e
    . exact .inr (.inr e)
   rcases key with e|e
   . subst e;exact⟨VH,hf.raw.Vb.lt,λe=>by have:=h.Qj.Ub.lt e;omega⟩
   . exact⟨(h.lo k e).1,ZY (h.lo k e).2.1 hch.size,(h.lo k e).2.2⟩
 . rcases ZM.1 hg with e|e
   . rw[e];exact hh
   . exact h.homes g e
def aa1 (Dd:Nat->Prop)(w0:World)(m0:Im)(K0:Kd)(rb:Nat)(g:SN)(w:World)(m:Im)(K:Kd)(e:Ending)(w':World):Prop:=TV Dd w0 m0 K0 rb g e w'/\(e=.returned (.tuple #[])->∀k,k<w.heap.size->¬U2 m K k->k≠rb->w'.heap[k]?=w.heap[k]?)
def Ud.findEq (h:Ud w m K)(s:ByteArray)(c:Option Nat):m.find s c=(K.says m s c).map (λx=>(x.1,(K.k.md x.2).ws)):=by
 unfold Kd.says;rw[Jf,show (λc=>m.own c s)=(λc=>(K.mid c s).map (λk=>(K.k.md k).ws)) from funext λc=>h.own c s,yR]
def Ud.aiA (h:Ud w m K){s:ByteArray}{c:Option Nat}(hc:∀x,c=some x->x<m.kl.length){d mk:Nat}(e:K.says m s c=some (d,mk)):d<m.kl.length/\K.k.Mk mk:=by
 cases c with
 | none=>unfold Kd.says at e;rw[Ja]at e;cases e
 | some c=>
  obtain⟨h1,h2⟩:=PI _ _ _ _ e;exact⟨fH h.ok h1 (hc c rfl),h.yZ d s mk h2⟩
def Dc (nb:Nat)(w:World):(Instr.sliceAt 209 (.pointer (some (VJ nb 4))) none none none).run prog w=.ok (.slice (some (VJ nb 4)) 3 3) w:=by
 obtain⟨i0,hi,_,hs,_⟩:=YQ Ho;simp[Instr.sliceAt,Instr.sureAddr,Instr.sliceBounds,Instr.sliceBound,Zu underlying209,Go.sizeOf,typeInfo,hi,hs,Addr.add,asIntOf]
def kK {rb:Nat}{fuel:Nat}(h:Sg Dd w0 m0 K0 rb w m K fuel bs fs)(h0:Qv w0){p:Nat}{s:ByteArray}(hp:(p,s)∈K.k.L)(C_:Option Nat)(Wr:∀x,C_=some x->x<m.kl.length)(hs:s.size<=1000)
 (to:Vl) {av:Value}{args:List Vl}{ab:Nat} (W8:UH w av args ab) (hab:args≠[]->ab<w.heap.size/\ab≠rb/\¬U2 m K ab) (h3:args.length<=3) (C':fs.length<=32) {d mk:Nat} (n_:K.says m s C_=some (d,mk)):
 Calls prog 89 #[VG rb,VG p,.agg #[.pointer (Vq (C_.map K.cb)),.string s],to.val,av] w (aa1 Dd w0 m0 K0 rb (m.send fuel C_ to s args fs) w m K):=by
 obtain⟨W1,hW1⟩:∃W1,W1=(w.alloc (.cells #[.pointer (Vq (C_.map K.cb)),.string s] 59)).alloc (.cells #[.bool to.obj,VI to.n] 33):=Vx;refine amA ?_;intro hB1 Rv b0 b1 q0 q1 h1 M8 Pe
 have LR:∀W,Below W1.heap.size W1 W->Calls prog 136 #[VG K.b,VG p,.agg #[.pointer (Vq (C_.map K.cb)),.string s]] W λe w'=>e=.returned (.agg #[VG (K.cb d),VG mk])/\∃K',Step W w' m K {m with looks:=m.looks+1} K':=λW hW=>by
  have:=BQ (h1.below hW).Qj.Ub hp C_ Wr hs;rw[n_]at this;exact this
 refine ajj ?_;intro hBa hBb HH H1 Nd;obtain⟨ap,gD,T8,_⟩:=W8;subst T8;refine aiS ?_;intro SM Ca;clear h h1 hB1 b0 b1;unfold Vl.val;go_enter func89,ntmps89;go_wp2_with fail;rw[<- hW1];clear hW1;refine Uy ?_;refine aju ?_;intro hHeld;refine IC ?_;refine Zv (rs:=[6,7]) VE Vy ?_;refine(ZO (o:=_) rfl (λY_ Z_=>?_) (ZO (o:=_) rfl (λY_ Z_=>?_) ZA))
 case' refine_2=>
  refine Vg ?_;intro hHeld;clear Z_ Y_;refine amc ?_;intro Y_ Z_ w2 K1 hst h1 hfw hbk RC RR M8
  try go_wp2_with fail
  refine Z_.go λhHeld=>?_;clear Z_ Y_;refine ajL ?_;intro LO u0 u1 uf Z1 Te;refine BJ ?_;intro hHeld;refine Um ?_;obtain⟨W3,hW1⟩:∃W3,W3=(w2.setCell (VJ W1.heap.size 0) ((VG (K.cb d)))).setCell (VJ W1.heap.size 1) (VG mk):=Vx;obtain⟨z,hzz⟩:∃z,z=W1.heap.size:=Vx;rw[<- hW1,<- hzz];have hzb:W3.heap[z]?=some (.cells #[VG (K.cb d),VG mk] 62):=abJ;refine al5 ?_;intro hz1 hc3 hz2 Rp H3 KS M3;clear hzz hW1 LO u0 u1 uf Z1 Te RC RR M8 hst h1 hfw hbk hc3 hz2 Rp
 case' refine_1=>
  refine anN ?_;intro w2 K1 hst h1 hfw hbk RC RR M8
  try go_wp2_with fail
  refine Z_.go λhHeld=>?_;clear Z_ Y_
  try refine UE ?_
  have hs2:W1.heap.size<=w2.heap.size:=hst.Ut.size;refine Ul 7 λY_ Z_=>?_;refine Vg ?_;intro hHeld;clear Z_ Y_
  try refine UE ?_
  refine BJ ?_;intro hHeld;refine Um ?_;obtain⟨W3,hW1⟩:∃W3,W3=w2.alloc (.cells #[VG (K.cb d),VG mk] 62):=Vx;obtain⟨z,hzz⟩:∃z,z=w2.heap.size:=Vx;rw[<- hW1,<- hzz];have hzb:W3.heap[z]?=some (.cells #[VG (K.cb d),VG mk] 62):=jv;refine ahF ?_;intro hz1 hb3 H3 KS M3;clear hzz hW1 RC RR M8 hst h1 hfw hbk hb3 hs2
 all_goals
  have hfw:∀k,U2 m K k->k<w.heap.size:=λk e=>HH.o.Qj.Ub.lt e;have X_:=(KS.o _ VH jl).trans Ca.o.2;have z0:W3.cell? (VJ z 0)=some ((VG (K.cb d))):=by simp only[World.cell?,hzb];rfl
  have z1:W3.cell? (VJ z 1)=some (VG mk):=by simp only[World.cell?,hzb];rfl
  have t0:W3.cell? (VJ (w.heap.size+1) 0)=some (.bool to.obj):=by simp only[World.cell?,X_];rfl
  have t1:W3.cell? (VJ (w.heap.size+1) 1)=some (VI to.n):=by simp only[World.cell?,X_];rfl
  have cq:=H3.o.run.cq;have pu:∀o,W3.frozen? (VJ rb o)=false:=λo=>H3.o.run.Vb.free o;have t9:=H3.o.run.Vb.lt;have M5:=(Z5.1 hzb).1;have MT:=(Z5.1 X_).1;have e1:¬z=rb:=VH;have e3:¬w.heap.size+1=rb:=VH;clear hfw X_ hzb LR hBa hBb;by_cases hd:fs.length=32
  . rw[hd]at cq;go_wp2
    have hsend:m.send fuel C_ to s args fs=.stop {m with looks:=m.looks+1} 4:=by
     unfold Im.send;rw[HH.o.Qj.Ub.findEq,n_];simp[hd]
    rw[hsend];exact⟨rfl,⟨rfl,K1,H3.o.Qj⟩,λe=>EO⟩
  . have hd':¬((fs.length:Int)=32):=by omega
    have hd2:(fs.length:Int)<=31:=VH;go_wp2_with fail;obtain⟨W1,hW1⟩:∃W1,W1=W3.setCell (VJ rb 25) (VI ((fs.length:Int)+1)):=Vx;rw[<- hW1];have hz1:W1.heap.size<=W3.heap.size:=abp;have r6:W3.heap.size<=W1.heap.size:=abp;have hb3:∀k,k<W3.heap.size->k≠rb->W1.heap[k]?=W3.heap[k]?:=λk _ e=>by rw[hW1];exact ZW _ _ _ _ e
    refine ajG ?_;intro y0 y1 x0 x1
    have hr4:SS W1 K1.b rb (bs.head?.map (·.1)) (fs.length+1) fuel:=by
     have:=H3.o.run.DZ (fs.length+1);rw[hW1];simpa using this
    have S4:=hr4.ct;have bN:Hid _:=hr4
    have py:Hid (Vt W3 W1 (λk=>k=rb)):=by
     have hx:Vt W3 W1 (λk=>k=rb):=by rw[hW1];exact(Vt.refl _ (λk=>k=rb)).setCell _ _ (λ_=>rfl)
     exact hx
    have t9:rb<W1.heap.size:=VH;clear hr4 hW1 z0 z1 t0 t1 cq pu hb3;refine Uy ?_;refine ZT (S:=(λw'=>w'.cell? (VJ z 0)=some ((VG (K.cb d)))/\w'.cell? (VJ z 1)=some (VG mk)/\w'.cell? (VJ (w.heap.size+1) 0)=some (.bool to.obj)/\w'.cell? (VJ (w.heap.size+1) 1)=some (VI to.n)/\w'.cell? (VJ rb 24)=some (.pointer (Vq (bs.head?.map (·.1)))))) VE UG (λhHeld=>?_);refine FU ?_;refine Fe ?_;intro hHeld;refine La ?_;refine Nr ?_;obtain⟨cur,V_⟩:∃cur:Array Value,cur=#[VG mk,VG (K.cb d),.bool to.obj,VI to.n,.bool false,VI 0,.bool false,VI 0,.bool false,VI 0,VI 0,.bool false,VI 0,.bool false,VI 0,.bool false,VI 0,.bool false,VI 0,.bool false,VI 0,.bool false,VI 0,.bool false,VI 0,.bool false,VI 0,.bool false,VI 0,.bool false,VI 0,.bool false,VI 0,.bool false,VI 0,.bool false,VI 0,.bool false,VI 0,.bool false,VI 0,.bool false,VI 0,VI 0,.pointer (Vq (bs.head?.map (·.1)))]:=Vx;obtain⟨W5,hW1⟩:∃W5,W5=(W1.alloc (.cells cur 212)).drew:=Vx;obtain⟨nb,hnb⟩:∃nb,nb=W1.heap.size:=Vx;rw[<- V_,<- hW1,<- hnb];have hB1:Below W1.heap.size W1 W5:=by rw[hW1];exact((ZR _ _).alloc UM _).drew
    have Mq:W5.heap[nb]?=some (.cells cur 212):=by rw[hW1,hnb];exact(Z4 _ _).1
    have T8:=Nd.o.1.same (λhn=>by
     obtain⟨a1,a2,a3⟩:=Nd.o.2 hn;rw[hB1.block ab VH,py.o.block ab VH a2,KS.o ab VH a3]
     exact SM.o.block ab a1)
    have Gb:=λty=>zI T8 h3 Mq (by rw[V_];show 10<=45;omega) ty;have hsl:=Dc nb W5;obtain⟨W6,Fk⟩:∃W6,W6=W5.setRow nb (cur.toList.take 4++vcs args++cur.toList.drop (4+(vcs args).length)).toArray:=Vx;rw[<- Fk]at Gb
    have IP:Un W6 nb (some (VJ mk 0)) (some (VJ (K.cb d) 0)) to args 0 [] (bs.head?.map (·.1)):=by
     rw[Fk];exact F5 h3 Mq Pq Pq Pq Pq Pq Pq Pq Pq
    have hb3:∀k,k≠nb->W6.heap[k]?=W5.heap[k]?:=λk e=>by rw[Fk];simp[World.setRow,Zz,VL e]
    have hc3:Vt W5 W6 (λk=>k=nb):=by rw[Fk]at hb3 ⊢;exact⟨rfl,rfl,rfl,agL,λk _ e=>hb3 k e⟩
    have Hk:=(hb3 rb VH).trans (hB1.block rb t9);have hr4:=bN.o.same Hk;have dz:=hr4.ct;have aR:∀o,W6.frozen? (VJ rb o)=false:=λo=>hr4.Vb.free o
    have vr:Hid (Un W6 nb (some (VJ mk 0)) (some (VJ (K.cb d) 0)) to args 0 [] (bs.head?.map (·.1))/\SS W6 K1.b rb (bs.head?.map (·.1)) (fs.length+1) fuel):=⟨IP,hr4⟩
    have uC:Hid (Vt W3 W6 (λk=>k=rb)):=by
     have hx:=(py.o.then aci Js).then hc3 aK;exact hx
    have xV:W3.heap.size<=nb:=VH;clear hc3 IP hr4 Hk hb3 Fk T8 V_ hW1 hB1 y0 y1 x0 x1 S4;have j4:nb<=W1.heap.size:=VH;clear hnb;go_wp2
    have hsend:m.send fuel C_ to s args fs=.on {m with looks:=m.looks+1} fuel (⟨(K.k.md mk).ws,d,to,args,0,[]⟩::fs):=by
     unfold Im.send;rw[HH.o.Qj.Ub.findEq,n_];have:¬32<=fs.length:=VH;simp[this]
    rw[hsend];obtain⟨BS,hmk⟩:=HH.o.Qj.Ub.aiA Wr n_;have hk1:=M3.o
    go_end0
    refine⟨⟨rfl,K1,(nb,mk)::bs,H3.o.push h0 (uC.o.setCell _ _ (λ_=>rfl)) (vr.o.2.mW (some nb)) xV ⟨?_,(hk1.2.2 mk hmk).1,by rw[(hk1.2.2 mk hmk).2]⟩ BS⟩,λ_ k hk hf hr=>(ZW _ _ _ _ hr).trans ((uC.o.block k VH hr).trans ((KS.o k VH hf).trans (SM.o.block k hk)))⟩;rw[hk1.2.1 d BS];exact vr.o.1.same (ZW _ _ _ _ (by show nb≠rb;omega))
def Tv (k:Nat):Value:=.func (.func (doF k)) #[] #[]
def doZ:Array Value:=Array.replicate 23 .nilFunc
def QA:Array Value:=#[.nilFunc,Tv 1,Tv 2,Tv 3,Tv 4,Tv 5,Tv 6,Tv 7,Tv 8,Tv 9,Tv 10,Tv 11,Tv 12,Tv 13,Tv 14,Tv 15,Tv 16,Tv 17,Tv 18,Tv 19,Tv 20,Tv 21,Tv 22]
def abI (w:World)(a:Act)(o:Oper)(ho:o.op=Op.alloc 170):(execOp a.eval o).run prog w=.ok (.value (VG w.heap.size)) (w.alloc (.cells doZ 170)):=by
 simp only[execOp,ho];kernel_rfl
def iG:(prog.info? 170).map (·.size)=some QA.size:=VE
def alM:prog.underlying 170=some (.array 23 169):=VE
def acF (w:World)(o:Oper)(ho:o.op=Op.store 170 (Operand.tmp 0) (Operand.tmp 1)):(execOp ({tmps:=#[VG w.heap.size,.agg QA],defers:=[]}:Act).eval o).run prog (w.alloc (.cells doZ 170))=.ok .skip (w.alloc (.cells QA 170)):=by
 have:=run_storeAt_new (P:=prog) w 170 doZ QA iG (by rfl) VE;simp only[execOp,ho];simp[Act.eval,this]
def aj0 (w:World):(results f88 #[VG w.heap.size,.agg QA]).run prog (w.alloc (.cells QA 170))=.ok (.agg QA) (w.alloc (.cells QA 170)):=by
 have:=run_loadVar_new (P:=prog) w 170 QA 23 169 alM iG;simp[results,results88,this,asAddr]
def jA (w:World):Calls prog 88 #[] w λe w'=>e=.returned (.agg QA)/\w'=w.alloc (.cells QA 170):=by
 go_enter func88,ntmps88;refine wp_seq (wp_region_list (Xm (λK hK=>?_)));rw[ZU VE];refine Pn (abI _ _ _ rfl) ?_;refine hK _ _ (wpList_nil ?_);refine wp_seq (wp_region_list (Xm (λK hK=>?_)));rw[ZU VE];refine Pn (r':=.ok (.value (.agg QA)) (w.alloc (.cells doZ 170))) VE ?_;refine hK _ _ (Xm (λK hK=>?_));rw[ZU VE];refine Pn (acF w _ rfl) ?_;refine hK _ _ (wpList_nil ?_);refine wp_ret ?_;exact ZQ (aj0 w) rfl KP
def Fp (b:Nat)(fuel:Nat):Array Value:=#[VG b,.nilFunc,Tv 1,Tv 2,Tv 3,Tv 4,Tv 5,Tv 6,Tv 7,Tv 8,Tv 9,Tv 10,Tv 11,Tv 12,Tv 13,Tv 14,Tv 15,Tv 16,Tv 17,Tv 18,Tv 19,Tv 20,Tv 21,Tv 22,.pointer none,VI 0,VI (fuel:Nat),.bool false,VI 0]
end Go.Proofs.Rz
namespace Go.Proofs.Rz
open ChangeShapes WideShapes ChangeAt RowKit Kn Iz Tryz
def AZ (m:Im)(n:Nat)(s:ByteArray)(c:Option Nat):Im.find {m with looks:=n} s c=m.find s c:=by rw[Jf,Jf];rfl
variable {w w0 : World}
variable {m m0 : Im}
variable {K K0 : Kd}
variable {Dd : Nat -> Prop}
variable {bs : List (Nat × Nat)}
variable {fs : List Fr}
def bI {rb:Nat}{fuel:Nat}(h:Sg Dd w0 m0 K0 rb w m K fuel bs fs)(h0:Qv w0){p:Nat}{s:ByteArray}(hp:(p,s)∈K.k.L)(C_:Option Nat)(Wr:∀x,C_=some x->x<m.kl.length)(hs:s.size<=1000)
 (to:Vl) {av:Value}{args:List Vl}{ab:Nat} (W8:UH w av args ab) (hab:args≠[]->ab<w.heap.size/\ab≠rb/\¬U2 m K ab) (h3:args.length<=3) (C':fs.length<=32) (n_:K.says m s C_=none):
 Calls prog 89 #[VG rb,VG p,.agg #[.pointer (Vq (C_.map K.cb)),.string s],to.val,av] w (aa1 Dd w0 m0 K0 rb (m.send fuel C_ to s args fs) w m K):=by
 obtain⟨W1,hW1⟩:∃W1,W1=(w.alloc (.cells #[.pointer (Vq (C_.map K.cb)),.string s] 59)).alloc (.cells #[.bool to.obj,VI to.n] 33):=Vx;refine amA ?_;intro hB1 Rv b0 b1 q0 q1 h1 M8 Pe
 have LR:∀W,Below W1.heap.size W1 W->Calls prog 136 #[VG K.b,VG p,.agg #[.pointer (Vq (C_.map K.cb)),.string s]] W λe w'=>e=.returned (.agg #[.pointer none,.pointer none])/\∃K',Step W w' m K {m with looks:=m.looks+1} K':=λW hW=>by
  have:=BQ (h1.below hW).Qj.Ub hp C_ Wr hs;rw[n_]at this;exact this
 refine ajj ?_;intro hBa hBb HH H1 Nd;obtain⟨ap,gD,T8,_⟩:=W8;subst T8;refine aiS ?_;intro SM Ca;clear h h1 hB1 b0 b1;unfold Vl.val;go_enter func89,ntmps89;go_wp2_with fail;rw[<- hW1];clear hW1;refine Uy ?_;refine aju ?_;intro hHeld;refine IC ?_;refine Zv (rs:=[6,7]) VE Vy ?_;refine(ZO (o:=_) rfl (λY_ Z_=>?_) (ZO (o:=_) rfl (λY_ Z_=>?_) ZA))
 case' refine_2=>
  refine Vg ?_;intro hHeld;clear Z_ Y_;refine amc ?_;intro Y_ Z_ w2 K1 hst h1 hfw hbk RC RR M8
  try go_wp2_with fail
  refine Z_.go λhHeld=>?_;clear Z_ Y_;refine ajL ?_;intro LO u0 u1 uf Z1 Te;refine BJ ?_;intro hHeld;refine Um ?_;obtain⟨W3,hW1⟩:∃W3,W3=(w2.setCell (VJ W1.heap.size 0) (.pointer none)).setCell (VJ W1.heap.size 1) (.pointer none):=Vx;obtain⟨z,hzz⟩:∃z,z=W1.heap.size:=Vx;rw[<- hW1,<- hzz];have hzb:W3.heap[z]?=some (.cells #[.pointer none,.pointer none] 62):=abJ;refine al5 ?_;intro hz1 hc3 hz2 Rp H3 KS M3
  have Jx:Hid (∀k,U2 {m with looks:=m.looks+1} K1 k->U2 m K k\/(W1.heap.size<=k/\k≠z)):=by
   have hx:∀k,U2 {m with looks:=m.looks+1} K1 k->U2 m K k\/(W1.heap.size<=k/\k≠z):=λk e=>by
    rcases hst.foot k e with e1|e1
    . exact .inl e1
    . simp at e1;exact .inr mF
   exact hx
  clear hzz hW1 LO u0 u1 uf Z1 Te RC RR M8 hst h1 hfw hbk hc3 hz2 Rp
 case' refine_1=>
  refine anN ?_;intro w2 K1 hst h1 hfw hbk RC RR M8
  try go_wp2_with fail
  refine Z_.go λhHeld=>?_;clear Z_ Y_
  try refine UE ?_
  have hs2:W1.heap.size<=w2.heap.size:=hst.Ut.size;refine Ul 7 λY_ Z_=>?_;refine Vg ?_;intro hHeld;clear Z_ Y_
  try refine UE ?_
  refine BJ ?_;intro hHeld;refine Um ?_;obtain⟨W3,hW1⟩:∃W3,W3=w2.alloc (.cells #[.pointer none,.pointer none] 62):=Vx;obtain⟨z,hzz⟩:∃z,z=w2.heap.size:=Vx;rw[<- hW1,<- hzz];have hzb:W3.heap[z]?=some (.cells #[.pointer none,.pointer none] 62):=jv;refine ahF ?_;intro hz1 hb3 H3 KS M3
  have Jx:Hid (∀k,U2 {m with looks:=m.looks+1} K1 k->U2 m K k\/(W1.heap.size<=k/\k≠z)):=by
   have hx:∀k,U2 {m with looks:=m.looks+1} K1 k->U2 m K k\/(W1.heap.size<=k/\k≠z):=λk e=>by
    have h4:=h1.Qj.Ub.lt e;rcases hst.foot k e with e1|e1
    . exact .inl e1
    . have e1:W1.heap.size<=k:=e1;exact .inr ⟨e1,VH⟩
   exact hx
  clear hzz hW1 RC RR M8 hst h1 hfw hbk hb3 hs2
 all_goals
  have hfw:∀k,U2 m K k->k<w.heap.size:=λk e=>HH.o.Qj.Ub.lt e;have LN:=(KS.o _ VH jl).trans Ca.o.1;have X_:=(KS.o _ VH jl).trans Ca.o.2;have q0:W3.cell? (VJ w.heap.size 0)=some (.pointer (Vq (C_.map K.cb))):=by simp only[World.cell?,LN];rfl
  have z1:W3.cell? (VJ z 1)=some (.pointer none):=by simp only[World.cell?,hzb];rfl
  have M8:W3.cell? (VJ rb 0)=some (VG K.b):=by
   have:=H3.o.run.c0;rw[M3.o.1]at this;exact this
  have M5:=(Z5.1 hzb).1;have Kx:=(Z5.1 LN).1;have MT:=(Z5.1 X_).1;have e1:¬z=rb:=VH;have e3:¬w.heap.size+1=rb:=VH;have e6:¬z=w.heap.size:=VH;obtain⟨WN,pH⟩:∃WN,WN=(W3.alloc (.cells #[Mm.only.val] 198)).drew:=Vx;have p5:Below W3.heap.size W3 WN:=by rw[pH];exact((ZR _ _).alloc UM _).drew
  obtain⟨KN,oA,Ay,sx,ud⟩:∃KN,Step W3 WN {m with looks:=m.looks+1} K1 {m with looks:=m.looks+1} KN/\KN.b=K1.b/\KN.cb=K1.cb/\(W3.heap.size,Qy)∈KN.k.L:=by
   refine⟨K1.nowhere W3.heap.size Qy,?_,rfl,rfl,XZ ..⟩;rw[pH];exact(H3.o.Qj.Ub.nowhere Qy).trans (Step.below (H3.o.Qj.Ub.nowhere Qy).Ub (ZR _ _).drew)
  have tB:C_.map KN.cb=C_.map K.cb:=by
   cases C_ with
   | none=>rfl
   | some c=>rw[sx];exact YV some (M3.o.2.1 c (Wr c rfl))
  have MA:=BQ oA.Ub (p:=W3.heap.size) (s:=Qy) ud C_ Wr Vz;rw[tB,Ay.trans M3.o.1]at MA;obtain⟨r2,hr2⟩:∃r2,KN.says {m with looks:=m.looks+1} Qy C_=r2:=Vx;rw[hr2]at MA;unfold EX at MA;obtain⟨fh,ju⟩:∃fh,fh=Vq (r2.map (λx=>KN.cb x.1)):=Vx;obtain⟨fm,gC⟩:∃fm,fm=Vq (r2.map (·.2)):=Vx;rw[<- ju,<- gC]at MA;rw[show Qy=(⟨#[100,110,117,47,49]⟩:ByteArray) from rfl]at MA
  have LT:Hid (KN.says {m with looks:=m.looks+1} Qy C_=r2/\fh=Vq (r2.map (λx=>KN.cb x.1))/\fm=Vq (r2.map (·.2))):=⟨hr2,ju,gC⟩
  have Fo:Hid _:=oA
  have wt:Hid (W3.heap[z]?=some (.cells #[.pointer none,.pointer none] 62)/\W3.heap[w.heap.size+1]?=some (.cells #[.bool to.obj,VI to.n] 33)):=⟨hzb,X_⟩
  have hNF:∀k,k<W3.heap.size->(k=w.heap.size\/k=w.heap.size+1\/k=z)->¬U2 {m with looks:=m.looks+1} KN k:=λk hk e e'=>by
   rcases oA.foot k e' with e7|e7
   . rcases Jx.o k e7 with e8|e8
     . have:=HH.o.Qj.Ub.lt e8;omega
     . omega
   . omega
  have Db:Hid _:=hNF;have j6:Hid _:=Ay;clear LN X_ hzb LR hBa hBb tB hr2 ju gC oA hNF hfw Ay sx ud;go_wp2_with fail;refine Uy ?_;refine ZT (S:=(λw'=>w'.cell? (VJ w.heap.size 0)=some (.pointer (Vq (C_.map K.cb)))/\w'.cell? (VJ rb 0)=some (VG K.b))) VE UG (λhHeld=>?_);refine pJ ?_;refine Uh 5 ?_;refine Uh 6 ?_;refine Ur 7 ?_;refine Ul 4 λY_ Z_=>?_;go_simp;refine(FD _).mono ?_;rintro e wN ⟨rfl,rfl⟩
  try go_wp2_with fail
  refine Z_.go λhHeld=>?_;clear Z_ Y_
  try refine UE ?_
  rw[<- pH];clear pH;have hzl:=ZY M5 p5.size;refine Ul 8 λY_ Z_=>?_;go_simp;refine MA.mono ?_;rintro e w2 ⟨rfl,K1,z'⟩
  have Z2:∀k,k<W3.heap.size->(k=w.heap.size\/k=w.heap.size+1\/k=z)->w2.heap[k]?=W3.heap[k]?:=λk hk e=>(z'.Ut.block k (ZY hk p5.size) (Db.o k hk e)).trans (p5.block k hk);have q1:=(Z9 (a:=(VJ w.heap.size 0)) (Z2 _ Kx NP)).trans q0;have h4:=(H3.o.img Fo.o).img z';have r04:w2.cell? (VJ rb 0)=some (VG K.b):=by {have:=h4.run.c0;rw[z'.b,j6.o,M3.o.1]at this;exact this}
  try go_wp2_with fail
  refine Z_.go λhHeld=>?_;clear Z_ Y_
  try refine UE ?_
  have hz1:=(Z2 z M5 (.inr JQ)).trans wt.o.1;have ia:=(Z2 _ MT oG).trans wt.o.2;have u0:w2.cell? (VJ z 0)=some (.pointer none):=by simp only[World.cell?,hz1];rfl
  have u1:w2.cell? (VJ z 1)=some (.pointer none):=by simp only[World.cell?,hz1];rfl
  have uf:∀o,w2.frozen? (VJ z o)=false:=λo=>UL.free ⟨_,_,hz1⟩ o
  have ai:Hid (∀k,k<w.heap.size->¬U2 m K k->w2.heap[k]?=w.heap[k]?):=by
   have hx:∀k,k<w.heap.size->¬U2 m K k->w2.heap[k]?=w.heap[k]?:=λk hk hf=>(z'.Ut.block k VH (λe=>by
    rcases Fo.o.foot k e with e7|e7
    . rcases Jx.o k e7 with e8|e8
      . exact hf e8
      . omega
    . omega)).trans ((p5.block k VH).trans ((KS.o k VH hf).trans (SM.o.block k hk)))
   exact hx
  have Rp:¬U2 {m with looks:=m.looks+1+1} K1 z:=λe=>by
   rcases z'.foot z e with e7|e7
   . exact Db.o z M5 (.inr JQ) e7
   . omega
  have H1:Hid (Sg Dd w0 m0 K0 rb w2 {m with looks:=m.looks+1+1} K1 fuel bs fs/\w2.heap[z]?=some (.cells #[.pointer none,.pointer none] 62)/\w2.heap[w.heap.size+1]?=some (.cells #[.bool to.obj,VI to.n] 33)/\¬U2 {m with looks:=m.looks+1+1} K1 z):=⟨h4,hz1,ia,Rp⟩
  have M3:Hid ((∀c,c<m.kl.length->K1.cb c=KN.cb c)/\∀k,KN.k.Mk k->K1.k.Mk k/\K1.k.md k=KN.k.md k):=⟨z'.cb,z'.md⟩
  have M5:=(Z5.1 hz1).1;clear hz1 ia Z2 h4 z' Rp MA;refine Ul 9 λY_ Z_=>?_;refine Vg ?_;intro hHeld;clear Z_ Y_;refine Um ?_;obtain⟨W1,hW1⟩:∃W1,W1=(w2.setCell (VJ z 0) (.pointer fh)).setCell (VJ z 1) (.pointer fm):=Vx;rw[<- hW1];have hc3:Vt w2 W1 (λk=>k=z):=ajP;have vm:Hid _:=hc3
  have H3:Hid (Sg Dd w0 m0 K0 rb W1 {m with looks:=m.looks+1+1} K1 fuel bs fs):=by
   have hx:=H1.o.1.aside h0 hc3 (λk e=>by rw[e];exact⟨amh,H1.o.2.2.2,λe'=>aoz,λe'=>amO⟩);exact hx
  have hzb:W1.heap[z]?=some (.cells #[.pointer fh,.pointer fm] 62):=by rw[hW1];exact set2 H1.o.2.1
  have MT:=(Z5.1 H1.o.2.2.1).1;have X_:=(hc3.block _ MT VH).trans H1.o.2.2.1;have z0:W1.cell? (VJ z 0)=some (.pointer fh):=by simp only[World.cell?,hzb];rfl
  have z1:W1.cell? (VJ z 1)=some (.pointer fm):=by simp only[World.cell?,hzb];rfl
  have M5:=(Z5.1 hzb).1;clear hW1 u0 u1 uf q0 M8 q1 r04
  cases r2 with
  | none=>
   obtain⟨hr2,rfl,rfl⟩:=LT.o;have n1:Vq ((none:Option (Nat×Nat)).map (λx=>KN.cb x.1))=none:=rfl;have n2:Vq ((none:Option (Nat×Nat)).map (·.2))=none:=rfl;rw[n1]at z0 ⊢;rw[n2]at z1;clear n1 n2;go_wp2
   have u9:m.send fuel C_ to s args fs=.stop {m with looks:=m.looks+2} 1:=by
    have e8:=Fo.o.Ub.findEq Qy C_;rw[hr2,AZ]at e8;unfold Im.send;rw[HH.o.Qj.Ub.findEq,n_,e8];rfl
   rw[u9];exact⟨rfl,⟨rfl,K1,(H3.o.below zt7).Qj⟩,λe=>EO⟩
  | some x=>
   obtain⟨d,mk⟩:=x;obtain⟨hr2,rfl,rfl⟩:=LT.o;have n1:Vq ((some (d,mk):Option (Nat×Nat)).map (λx=>KN.cb x.1))=some (VJ (KN.cb d) 0):=rfl;have n2:Vq ((some (d,mk):Option (Nat×Nat)).map (·.2))=some (VJ mk 0):=rfl;rw[n1]at z0 hzb ⊢;rw[n2]at z1 hzb;clear n1 n2;obtain⟨BS,hmk⟩:=Fo.o.Ub.aiA Wr hr2;have DP:=(M3.o.1 d BS).symm;rw[DP]at z0 hzb ⊢
   have J':m.find Qy C_=some (d,(K1.k.md mk).ws):=by
    have e8:=Fo.o.Ub.findEq Qy C_;rw[hr2,AZ]at e8;rw[e8,(M3.o.2 mk hmk).2];rfl
   have di:Hid _:=J'
   have D0:Hid (d<m.kl.length/\K1.k.Mk mk):=⟨BS,(M3.o.2 mk hmk).1⟩
   clear J' BS hmk hr2 DP;have t0:W1.cell? (VJ (w.heap.size+1) 0)=some (.bool to.obj):=by simp only[World.cell?,X_];rfl
   have t1:W1.cell? (VJ (w.heap.size+1) 1)=some (VI to.n):=by simp only[World.cell?,X_];rfl
   have cq:=H3.o.run.cq;have pu:∀o,W1.frozen? (VJ rb o)=false:=λo=>H3.o.run.Vb.free o;have AC:=H3.o.run.Vb.lt;have MT:=(Z5.1 X_).1;clear X_ hzb;by_cases hd:fs.length=32
   . rw[hd]at cq;go_wp2
     have hsend:m.send fuel C_ to s args fs=.stop {m with looks:=m.looks+2} 4:=by
      unfold Im.send;rw[HH.o.Qj.Ub.findEq,n_,di.o];simp[hd]
     rw[hsend];exact⟨rfl,⟨rfl,K1,(H3.o.below zt7).Qj⟩,λe=>EO⟩
   . have hd':¬((fs.length:Int)=32):=by omega
     have hd2:(fs.length:Int)<=31:=VH;go_wp2_with fail;obtain⟨W3,hW1⟩:∃W3,W3=(W1.setCell (VJ rb 25) (VI ((fs.length:Int)+1))).alloc (.cells #[.bool false,VI (args.length:Nat)] 33):=Vx;rw[<- hW1];have r6:W1.heap.size<=W3.heap.size:=abp;have hb3:∀k,k<W1.heap.size->k≠rb->W3.heap[k]?=W1.heap[k]?:=λk hk e=>by rw[hW1,ZV _ _ _ (by simpa[World.setCell]using hk)];exact ZW _ _ _ _ e
     refine ajG ?_;intro y0 y1 x0 x1
     have hr2:SS W3 K1.b rb (bs.head?.map (·.1)) (fs.length+1) fuel:=by
      have:=H3.o.run.DZ (fs.length+1);rw[hW1];have h1:=this.same (w':=(W1.setCell (VJ rb 25) (VI ((fs.length+1:Nat):Int))).alloc (.cells #[.bool false,VI (args.length:Nat)] 33)) (ZV _ _ _ (by simpa[World.setCell]using AC));simpa using h1
     have S4:=hr2.ct;have LT:Hid _:=hr2
     have py:Hid (Vt W1 W3 (λk=>k=rb)):=by
      have hx:Vt W1 W3 (λk=>k=rb):=by rw[hW1];exact((Vt.refl _ (λk=>k=rb)).setCell _ _ (λ_=>rfl)).alloc _
      exact hx
     have AC:rb<W3.heap.size:=VH
     have sh:W3.heap[W1.heap.size]?=some (.cells #[.bool false,VI (args.length:Nat)] 33):=by
      have:=(Z4 (W1.setCell (VJ rb 25) (VI ((fs.length:Int)+1))) (.cells #[.bool false,VI (args.length:Nat)] 33)).1;rw[hW1];simpa[World.setCell]using this
     have o5:Hid _:=sh;clear sh hr2 hW1 z0 z1 t0 t1 cq pu hb3;refine Uy ?_;refine ZT (S:=(λw'=>w'.cell? (VJ z 0)=some ((VG (K1.cb d)))/\w'.cell? (VJ z 1)=some (VG mk)/\w'.cell? (VJ (w.heap.size+1) 0)=some (.bool to.obj)/\w'.cell? (VJ (w.heap.size+1) 1)=some (VI to.n)/\w'.cell? (VJ rb 24)=some (.pointer (Vq (bs.head?.map (·.1)))))) VE UG (λhHeld=>?_);refine FU ?_;refine Fe ?_;intro hHeld;refine La ?_;refine Nr ?_;obtain⟨cur,V_⟩:∃cur:Array Value,cur=#[VG mk,VG (K1.cb d),.bool to.obj,VI to.n,.bool false,VI 0,.bool false,VI 0,.bool false,VI 0,VI 0,.bool false,VI 0,.bool false,VI 0,.bool false,VI 0,.bool false,VI 0,.bool false,VI 0,.bool false,VI 0,.bool false,VI 0,.bool false,VI 0,.bool false,VI 0,.bool false,VI 0,.bool false,VI 0,.bool false,VI 0,.bool false,VI 0,.bool false,VI 0,.bool false,VI 0,.bool false,VI 0,VI 0,.pointer (Vq (bs.head?.map (·.1)))]:=Vx;obtain⟨V5,qq⟩:∃V5,V5=(W3.alloc (.cells cur 212)).drew:=Vx;obtain⟨nb,hnb⟩:∃nb,nb=W3.heap.size:=Vx;rw[<- V_,<- qq,<- hnb];have hB1:Below W3.heap.size W3 V5:=by rw[qq];exact((ZR _ _).alloc UM _).drew
     have Mq:V5.heap[nb]?=some (.cells cur 212):=by rw[qq,hnb];exact(Z4 _ _).1
     have T8:UH V5 (.slice (some (VJ W1.heap.size 0)) 1 1) [⟨false,(args.length:Nat)⟩] W1.heap.size:=by
      refine⟨_,1,rfl,λ_=>⟨_,rfl,rfl,?_⟩⟩;exact World.news_of_block (cs:=#[.bool false,VI (args.length:Nat)]) ((hB1.block _ ((Z5.1 o5.o).1)).trans o5.o)
     have Gb:=λty=>zI T8 Vy Mq (by rw[V_];show 10<=45;omega) ty;have hsl:=Dc nb V5;obtain⟨W6,hW1⟩:∃W6,W6=V5.setRow nb (cur.toList.take 4++vcs [⟨false,(args.length:Nat)⟩]++cur.toList.drop (4+(vcs [⟨false,(args.length:Nat)⟩]).length)).toArray:=Vx;rw[<- hW1]at Gb
     have IP:Un W6 nb (some (VJ mk 0)) (some (VJ (K1.cb d) 0)) to [⟨false,(args.length:Nat)⟩] 0 [] (bs.head?.map (·.1)):=by
      rw[hW1];exact F5 Vy Mq Pq Pq Pq Pq Pq Pq Pq Pq
     have hb3:∀k,k≠nb->W6.heap[k]?=V5.heap[k]?:=λk e=>by rw[hW1];simp[World.setRow,Zz,VL e]
     have hc3:Vt V5 W6 (λk=>k=nb):=by rw[hW1]at hb3 ⊢;exact⟨rfl,rfl,rfl,agL,λk _ e=>hb3 k e⟩
     have Hk:=(hb3 rb VH).trans (hB1.block rb AC);have hr2:=LT.o.same Hk;have dz:=hr2.ct;have aR:∀o,W6.frozen? (VJ rb o)=false:=λo=>hr2.Vb.free o
     have vr:Hid (Un W6 nb (some (VJ mk 0)) (some (VJ (K1.cb d) 0)) to [⟨false,(args.length:Nat)⟩] 0 [] (bs.head?.map (·.1))/\SS W6 K1.b rb (bs.head?.map (·.1)) (fs.length+1) fuel):=⟨IP,hr2⟩
     have uC:Hid (Vt W1 W6 (λk=>k=rb)):=by
      have hx:=(py.o.then aci Js).then hc3 aK;exact hx
     have xV:W1.heap.size<=nb:=VH;clear hc3 IP hr2 Hk hb3 hW1 T8 V_ qq hB1 y0 y1 x0 x1 S4 r6;have gd:W3.heap.size<=nb:=VH;have gd:nb<=W3.heap.size:=VH;clear hnb;go_wp2
     have hsend:m.send fuel C_ to s args fs=.on {m with looks:=m.looks+2} fuel (⟨(K1.k.md mk).ws,d,to,[⟨false,(args.length:Nat)⟩],0,[]⟩::fs):=by
      unfold Im.send;rw[HH.o.Qj.Ub.findEq,n_,di.o];have:¬32<=fs.length:=VH;simp[this]
     rw[hsend]
     go_end0
     exact⟨⟨rfl,K1,(nb,mk)::bs,H3.o.push h0 (uC.o.setCell _ _ (λ_=>rfl)) (vr.o.2.mW (some nb)) xV ⟨vr.o.1.same (ZW _ _ _ _ (by show nb≠rb;omega)),D0.o.2,rfl⟩ D0.o.1⟩,λ_ k hk hf hr=>(ZW _ _ _ _ hr).trans ((uC.o.block k (by omega) hr).trans ((vm.o.block k (by omega) (by omega)).trans (ai.o k hk hf)))⟩
def TQ (x:Kn.W)(pl:Option Addr):Array Value:=#[VI (kindOf x.k:Nat),VI x.n,.string (VF x.a),.string (VF x.sel),.string (VF x.b),.pointer pl]
def Uo (x:Kn.W)(pl:Option Addr):Value:=.agg (TQ x pl)
structure Bx (Dd:Nat->Prop)(w0:World)(m0:Im)(K0:Kd)(rb:Nat)(w W1:World)(m:Im)(K:Kd)(fuel fb mk:Nat)(bs:List (Nat×Nat))(f:Fr)(fs:List Fr)(x:Kn.W)(pl:Option Addr):Prop where
 sg:Sg Dd w0 m0 K0 rb W1 m K fuel ((fb,mk)::bs) (f::fs)
 below:Below w.heap.size w W1
 blk:W1.heap[w.heap.size]?=some (.cells (TQ x pl) 146)
 x1:W1.cell? (VJ w.heap.size 1)=some (VI x.n)
 x2:W1.cell? (VJ w.heap.size 2)=some (.string (VF x.a))
 x3:W1.cell? (VJ w.heap.size 3)=some (.string (VF x.sel))
 x4:W1.cell? (VJ w.heap.size 4)=some (.string (VF x.b))
 x5:W1.cell? (VJ w.heap.size 5)=some (.pointer pl)
 ct:W1.cell? (VJ rb 24)=some (VG fb)
 c0:W1.cell? (VJ rb 0)=some (VG K.b)
 n1:rb≠fb
 n2:w.heap.size≠fb
 n3:w.heap.size≠rb
 l1:rb<W1.heap.size
 l2:fb<W1.heap.size
 l3:w.heap.size<W1.heap.size
 nf:¬U2 m K w.heap.size
variable {f : Fr}
def Sg.box {rb:Nat}{fuel fb mk:Nat}(h:Sg Dd w0 m0 K0 rb w m K fuel ((fb,mk)::bs) (f::fs))(x:Kn.W)(pl:Option Addr){W1:World}(hW:W1=w.alloc (.cells (TQ x pl) 146)):Bx Dd w0 m0 K0 rb w W1 m K fuel fb mk bs f fs x pl:=by
 subst hW;have hB:Below w.heap.size w (w.alloc (.cells (TQ x pl) 146)):=(ZR _ w).alloc UM _;have h1:=h.below hB;have hb:(w.alloc (.cells (TQ x pl) 146)).heap[w.heap.size]?=some (.cells (TQ x pl) 146):=(Z4 w _).1;refine aaV ?_;intro hnd;have l1:=(h.lo rb Vy).2.1;have l1:=(h.lo fb Vy).2.1
 refine⟨h1,hB,hb,?_,?_,?_,?_,?_,h1.run.ct,h1.run.c0,hnd.1.1,VH,VH,Vo,Vo,Vy,λe=>by have:=h.Qj.Ub.lt e;omega⟩<;>(simp only[World.cell?,hb];rfl)
def eG {rb:Nat}{fuel fb mk:Nat}(h:Sg Dd w0 m0 K0 rb w m K fuel ((fb,mk)::bs) (f::fs))(h0:Qv w0)(x:Kn.W)(pl:Option Addr)(hk:x.k=110)(hr:f.st.length<16):
 Calls prog 114 #[VG rb,Uo x pl] w (TV Dd w0 m0 K0 rb (VA m fuel x f fs)):=by
 have hw:VA m fuel x f fs=.on m fuel ({f with st:=⟨false,x.n⟩::f.st}::fs):=pX;rw[hw];obtain⟨W1,hW1⟩:∃W1,W1=w.alloc (.cells (TQ x pl) 146):=Vx;refine Ju ?_;intro B ct;have x1:=B.x1;have l1:=B.l1;have l3:=B.l3;have p_:=RX (w:=W1.drew) yG hr ⟨false,x.n⟩;have HB:Hid _:=B;unfold TQ at hW1;unfold Vl.val at p_;unfold Uo TQ;clear B hw h hk;go_enter func114,ntmps114;go_wp2_with fail;rw[<- hW1];clear hW1;refine Uy ?_;refine ZT (S:=(λw'=>w'.cell? (VJ rb 24)=some (VG fb)/\w'.cell? (VJ w.heap.size 1)=some (VI x.n))) VE UG (λhHeld=>?_);refine zr3 ?_;refine Ur 6 ?_;refine Ul 7 λY_ Z_=>?_;refine aen ?_;intro w3 hf3 hc3 YY;have x1:=(Z9 (a:=(VJ w.heap.size 1)) iw).trans x1
 try go_wp2_with fail
 refine Z_.go λhHeld=>?_;clear Z_ Y_;refine Um ?_
 go_end0
 exact⟨rfl,K,_,HB.o.sg.top (f':={f with st:=⟨false,x.n⟩::f.st}) h0 qX hf3 rfl rfl⟩
end Go.Proofs.Rz
namespace Go.Proofs.Rz
open ChangeShapes WideShapes ChangeAt RowKit Kn Iz Tryz
def zh (b:Bool)(w:World):Calls prog 146 #[.bool b] w λe w'=>e=.returned (vG b).val/\Below w.heap.size w w':=by
 unfold vG Vl.val
 cases b with
 | true=>
  go_enter func146,ntmps146;go_wp2;refine ZQ (Jg (z:=w.heap.size) results146 (.bool false) (VI 1) rfl (Ug _ _ _ _ 0 rfl) (Ug _ _ _ _ 1 rfl)) rfl alR
 | false=>
  go_enter func146,ntmps146;go_wp2;refine ZQ (Jg (z:=w.heap.size) results146 (.bool false) (VI 0) rfl (Ug _ _ _ _ 0 rfl) (Ug _ _ _ _ 1 rfl)) rfl alR
variable {w0 : World}
variable {m m0 : Im}
variable {K K0 : Kd}
variable {Dd : Nat -> Prop}
variable {bs : List (Nat × Nat)}
variable {fs : List Fr}
variable {f : Fr}
def Bx.gave {rb:Nat}{w W1 w2:World}{fuel fb mk:Nat}{x:Kn.W}{pl:Option Addr}(h:Bx Dd w0 m0 K0 rb w W1 m K fuel fb mk bs f fs x pl)(h0:Qv w0)(hc:Vt W1 w2 (λk=>k=fb)):Step w0 w2 m0 K0 m K:=
 h.sg.Qj.aside hc (λk e=>by have:=h.sg.lo fb Vy;rw[e];exact⟨this.1,this.2.2⟩) DL
variable {w : World}
def agE {rb:Nat}{fuel fb mk:Nat}(h:Sg Dd w0 m0 K0 rb w m K fuel ((fb,mk)::bs) (f::fs))(h0:Qv w0)(x:Kn.W)(pl:Option Addr)(hk:x.k=109)(hr:f.st.length<16):
 Calls prog 115 #[VG rb,Uo x pl] w (TV Dd w0 m0 K0 rb (VA m fuel x f fs)):=by
 have hw:VA m fuel x f fs=.on m fuel ({f with st:=f.self::f.st}::fs):=pX;rw[hw];obtain⟨W1,hW1⟩:∃W1,W1=w.alloc (.cells (TQ x pl) 146):=Vx;refine Ju ?_;intro B ct;have l1:=B.l1;have s2:=B.sg.LY.1.raw.c2;have s2:=B.sg.LY.1.raw.c3;have p_:=RX (w:=W1.drew) yG hr f.self;unfold Vl.val at p_;have HB:Hid _:=B;unfold TQ at hW1;unfold Uo TQ;clear B h hw hk ;go_enter func115,ntmps115;go_wp2_with fail;rw[<- hW1];clear hW1;refine Uy ?_;refine ZT (S:=(λw'=>w'.cell? (VJ rb 24)=some (VG fb)/\w'.cell? (VJ fb 2)=some (.bool f.self.obj)/\w'.cell? (VJ fb 3)=some (VI f.self.n))) VE UG (λhHeld=>?_);refine zC ?_;refine Uh 9 ?_;refine Ur 10 ?_;refine Ul 11 λY_ Z_=>?_;refine aen ?_;intro w3 hf3 hc3 YY;have s2:=hf3.c2;have s2:=hf3.c3
 try go_wp2_with fail
 refine Z_.go λhHeld=>?_;clear Z_ Y_;refine Um ?_
 go_end0
 exact⟨rfl,K,_,HB.o.sg.top (f':={f with st:=f.self::f.st}) h0 qX hf3 rfl rfl⟩
def alG {rb:Nat}{fuel fb mk:Nat}(h:Sg Dd w0 m0 K0 rb w m K fuel ((fb,mk)::bs) (f::fs))(h0:Qv w0)(x:Kn.W)(pl:Option Addr)(hk:x.k=97)(hr:f.st.length<16)(i:Nat)(hi:x.n=i)(i3:i<3)(v:Vl)(hv:f.args[i]?=some v):
 Calls prog 116 #[VG rb,Uo x pl] w (TV Dd w0 m0 K0 rb (VA m fuel x f fs)):=by
 have hw:VA m fuel x f fs=.on m fuel ({f with st:=v::f.st}::fs):=by unfold VA;simp[hk,hi,hv]
 rw[hw];obtain⟨W1,hW1⟩:∃W1,W1=w.alloc (.cells (TQ x pl) 146):=Vx;refine Ju ?_;intro B ct;have x1:=B.x1;have l1:=B.l1;have l3:=B.l3;rw[hi]at x1;have i3':(i:Int)<3:=VH;obtain⟨s2,s2⟩:=B.sg.LY.1.raw.ca i v hv;have p_:=RX (w:=W1.drew) yG hr v;unfold Vl.val at p_;have HV:Hid _:=hv;have HB:Hid _:=B;unfold TQ at hW1;unfold Uo TQ;clear B h hw hk hi hv;go_enter func116,ntmps116;go_wp2_with fail;rw[<- hW1];clear hW1;refine Uy ?_;refine ZT (S:=(λw'=>w'.cell? (VJ rb 24)=some (VG fb)/\w'.cell? (VJ w.heap.size 1)=some (VI (i:Nat))/\w'.cell? (VJ fb (4+i*2))=some (.bool v.obj)/\w'.cell? (VJ fb (4+i*2+1))=some (VI v.n))) VE UG (λhHeld=>?_);refine KG ?_;refine Ur 11 ?_;refine jf ?_;intro hHeld;refine Ur 13 ?_;refine Ul 14 λY_ Z_=>?_;refine aen ?_;intro w3 hf3 hc3 YY;have x1:=(Z9 (a:=(VJ w.heap.size 1)) iw).trans x1;have s2:=(hf3.ca i v HV.o).1;have s2:=(hf3.ca i v HV.o).2
 try go_wp2_with fail
 refine Z_.go λhHeld=>?_;clear Z_ Y_;refine Um ?_
 go_end0
 exact⟨rfl,K,_,HB.o.sg.top (f':={f with st:=v::f.st}) h0 qX hf3 rfl rfl⟩
def bK {rb:Nat}{fuel fb mk:Nat}(h:Sg Dd w0 m0 K0 rb w m K fuel ((fb,mk)::bs) (f::fs))(h0:Qv w0)(x:Kn.W)(pl:Option Addr)(hk:x.k=43){a b:Int}{r:List Vl}(hst:f.st=⟨false,b⟩::⟨false,a⟩::r):
 Calls prog 119 #[VG rb,Uo x pl] w (TV Dd w0 m0 K0 rb (VA m fuel x f fs)):=by
 have hw:VA m fuel x f fs=.on m fuel ({f with st:=⟨false,Kn.wrap64 (a+b)⟩::r}::fs):=JD;rw[hw];obtain⟨W1,hW1⟩:∃W1,W1=w.alloc (.cells (TQ x pl) 146):=Vx;refine jr ?_;intro B ct l1 Wd lw h_ hcall;rw[show Kn.wrap64 (a+b)=Go.RowKit.wrap64 (a+b) from adz];have HB:Hid _:=B;unfold TQ at hW1;unfold Uo TQ;clear B h hw hk hst;go_enter func119,ntmps119;go_wp2_with fail;rw[<- hW1];clear hW1;clear Wd lw;refine rD ?_;intro w2 hf2 hc2 XS;have p_:=RX hf2 VH ⟨false,Go.RowKit.wrap64 (a+b)⟩;unfold Vl.val at p_;clear hcall hf2;go_wp2_with fail;refine p_.mono ?_;rintro e w2 ⟨rfl,hf2,hc3⟩;have za:Hid _:=hf2;clear hf2 p_;go_wp2
 go_end0
 exact⟨rfl,K,_,HB.o.sg.top (f':={f with st:=⟨false,Go.RowKit.wrap64 (a+b)⟩::r}) h0 (hc2.then hc3 Qi) za.o rfl rfl⟩
def aF {rb:Nat}{fuel fb mk:Nat}(h:Sg Dd w0 m0 K0 rb w m K fuel ((fb,mk)::bs) (f::fs))(h0:Qv w0)(x:Kn.W)(pl:Option Addr)(hk:x.k=43){a b:Vl}{r:List Vl}(hst:f.st=b::a::r)(ho:(a.obj||b.obj)=true):
 Calls prog 119 #[VG rb,Uo x pl] w (TV Dd w0 m0 K0 rb (VA m fuel x f fs)):=by
 have hw:VA m fuel x f fs=.stop m 3:=jh;rw[hw];obtain⟨W1,hW1⟩:∃W1,W1=w.alloc (.cells (TQ x pl) 146):=Vx;refine fF ?_;intro B Wd lw hcall HB;unfold TQ at hW1;unfold Uo TQ;clear B h hw hk hst ho;go_enter func119,ntmps119;exact agz
def aN {rb:Nat}{fuel fb mk:Nat}(h:Sg Dd w0 m0 K0 rb w m K fuel ((fb,mk)::bs) (f::fs))(h0:Qv w0)(x:Kn.W)(pl:Option Addr)(hk:x.k=45){a b:Int}{r:List Vl}(hst:f.st=⟨false,b⟩::⟨false,a⟩::r):
 Calls prog 120 #[VG rb,Uo x pl] w (TV Dd w0 m0 K0 rb (VA m fuel x f fs)):=by
 have hw:VA m fuel x f fs=.on m fuel ({f with st:=⟨false,Kn.wrap64 (a-b)⟩::r}::fs):=JD;rw[hw];obtain⟨W1,hW1⟩:∃W1,W1=w.alloc (.cells (TQ x pl) 146):=Vx;refine jr ?_;intro B ct l1 Wd lw h_ hcall;rw[show Kn.wrap64 (a-b)=Go.RowKit.wrap64 (a-b) from adz];have HB:Hid _:=B;unfold TQ at hW1;unfold Uo TQ;clear B h hw hk hst;go_enter func120,ntmps120;go_wp2_with fail;rw[<- hW1];clear hW1;clear Wd lw;refine rD ?_;intro w2 hf2 hc2 XS;have p_:=RX hf2 VH ⟨false,Go.RowKit.wrap64 (a-b)⟩;unfold Vl.val at p_;clear hcall hf2;go_wp2_with fail;refine p_.mono ?_;rintro e w2 ⟨rfl,hf2,hc3⟩;have za:Hid _:=hf2;clear hf2 p_;go_wp2
 go_end0
 exact⟨rfl,K,_,HB.o.sg.top (f':={f with st:=⟨false,Go.RowKit.wrap64 (a-b)⟩::r}) h0 (hc2.then hc3 Qi) za.o rfl rfl⟩
def aU {rb:Nat}{fuel fb mk:Nat}(h:Sg Dd w0 m0 K0 rb w m K fuel ((fb,mk)::bs) (f::fs))(h0:Qv w0)(x:Kn.W)(pl:Option Addr)(hk:x.k=45){a b:Vl}{r:List Vl}(hst:f.st=b::a::r)(ho:(a.obj||b.obj)=true):
 Calls prog 120 #[VG rb,Uo x pl] w (TV Dd w0 m0 K0 rb (VA m fuel x f fs)):=by
 have hw:VA m fuel x f fs=.stop m 3:=jh;rw[hw];obtain⟨W1,hW1⟩:∃W1,W1=w.alloc (.cells (TQ x pl) 146):=Vx;refine fF ?_;intro B Wd lw hcall HB;unfold TQ at hW1;unfold Uo TQ;clear B h hw hk hst ho;go_enter func120,ntmps120;exact agz
def bD {rb:Nat}{fuel fb mk:Nat}(h:Sg Dd w0 m0 K0 rb w m K fuel ((fb,mk)::bs) (f::fs))(h0:Qv w0)(x:Kn.W)(pl:Option Addr)(hk:x.k=42){a b:Int}{r:List Vl}(hst:f.st=⟨false,b⟩::⟨false,a⟩::r):
 Calls prog 121 #[VG rb,Uo x pl] w (TV Dd w0 m0 K0 rb (VA m fuel x f fs)):=by
 have hw:VA m fuel x f fs=.on m fuel ({f with st:=⟨false,Kn.wrap64 (a*b)⟩::r}::fs):=JD;rw[hw];obtain⟨W1,hW1⟩:∃W1,W1=w.alloc (.cells (TQ x pl) 146):=Vx;refine jr ?_;intro B ct l1 Wd lw h_ hcall;rw[show Kn.wrap64 (a*b)=Go.RowKit.wrap64 (a*b) from adz];have HB:Hid _:=B;unfold TQ at hW1;unfold Uo TQ;clear B h hw hk hst;go_enter func121,ntmps121;go_wp2_with fail;rw[<- hW1];clear hW1;clear Wd lw;refine rD ?_;intro w2 hf2 hc2 XS;have p_:=RX hf2 VH ⟨false,Go.RowKit.wrap64 (a*b)⟩;unfold Vl.val at p_;clear hcall hf2;go_wp2_with fail;refine p_.mono ?_;rintro e w2 ⟨rfl,hf2,hc3⟩;have za:Hid _:=hf2;clear hf2 p_;go_wp2
 go_end0
 exact⟨rfl,K,_,HB.o.sg.top (f':={f with st:=⟨false,Go.RowKit.wrap64 (a*b)⟩::r}) h0 (hc2.then hc3 Qi) za.o rfl rfl⟩
def aC {rb:Nat}{fuel fb mk:Nat}(h:Sg Dd w0 m0 K0 rb w m K fuel ((fb,mk)::bs) (f::fs))(h0:Qv w0)(x:Kn.W)(pl:Option Addr)(hk:x.k=42){a b:Vl}{r:List Vl}(hst:f.st=b::a::r)(ho:(a.obj||b.obj)=true):
 Calls prog 121 #[VG rb,Uo x pl] w (TV Dd w0 m0 K0 rb (VA m fuel x f fs)):=by
 have hw:VA m fuel x f fs=.stop m 3:=jh;rw[hw];obtain⟨W1,hW1⟩:∃W1,W1=w.alloc (.cells (TQ x pl) 146):=Vx;refine fF ?_;intro B Wd lw hcall HB;unfold TQ at hW1;unfold Uo TQ;clear B h hw hk hst ho;go_enter func121,ntmps121;exact agz
def oK {rb:Nat}{fuel fb mk:Nat}(h:Sg Dd w0 m0 K0 rb w m K fuel ((fb,mk)::bs) (f::fs))(h0:Qv w0)(x:Kn.W)(pl:Option Addr)(hk:x.k=60){a b:Int}{r:List Vl}(hst:f.st=⟨false,b⟩::⟨false,a⟩::r):
 Calls prog 122 #[VG rb,Uo x pl] w (TV Dd w0 m0 K0 rb (VA m fuel x f fs)):=by
 have hw:VA m fuel x f fs=.on m fuel ({f with st:=vG (decide (a<b))::r}::fs):=JD;rw[hw];obtain⟨W1,hW1⟩:∃W1,W1=w.alloc (.cells (TQ x pl) 146):=Vx;refine jr ?_;intro B ct l1 Wd lw h_ hcall;have HB:Hid _:=B;unfold TQ at hW1;unfold Uo TQ;clear B h hw hk hst;go_enter func122,ntmps122;go_wp2_with fail;rw[<- hW1];clear hW1;refine rD ?_;intro w2 hf2 hc2 XS;have S6:=ZY l1 hc2.size;have htr:=zh (decide (a<b)) w2.drew;have QP:Hid _:=hf2;clear hcall hf2;go_wp2_with fail;refine Uy ?_;refine ZT (S:=(λw'=>w'.cell? (VJ rb 24)=some (VG fb))) VE UG (λhHeld=>?_);refine zr3 ?_;refine Ur 6 ?_;refine Ul 7 λY_ Z_=>?_;go_simp;refine htr.mono ?_;rintro e w2 ⟨rfl,hb3⟩;have XS:=(hb3.cell (p:=(VJ rb 24)) S6).trans XS
 try go_wp2_with fail
 refine Z_.go λhHeld=>?_;clear Z_ Y_
 try refine UE ?_
 have xT:=RH hb3;have hf2:=QP.o.same (xT.block fb QP.o.Vb.lt);have p_:=RX hf2 VH (vG (decide (a<b)));have S6:=ZY S6 xT.size;clear htr hb3 hf2;refine Ul 8 λY_ Z_=>?_;refine CV ?_;rintro e w2 ⟨rfl,hf2,hc4⟩;have XS:=(Z9 (a:=(VJ rb 24)) (hc4.block _ S6 HB.o.n1)).trans XS
 try go_wp2_with fail
 refine Z_.go λhHeld=>?_;clear Z_ Y_;refine Um ?_
 go_end0
 exact⟨rfl,K,_,HB.o.sg.top (f':={f with st:=vG (decide (a<b))::r}) h0 ((hc2.then (Vt.of_below xT (λ_=>False)) Js).then hc4 Qi) hf2 rfl rfl⟩
def mD {rb:Nat}{fuel fb mk:Nat}(h:Sg Dd w0 m0 K0 rb w m K fuel ((fb,mk)::bs) (f::fs))(h0:Qv w0)(x:Kn.W)(pl:Option Addr)(hk:x.k=60){a b:Vl}{r:List Vl}(hst:f.st=b::a::r)(ho:(a.obj||b.obj)=true):
 Calls prog 122 #[VG rb,Uo x pl] w (TV Dd w0 m0 K0 rb (VA m fuel x f fs)):=by
 have hw:VA m fuel x f fs=.stop m 3:=jh;rw[hw];obtain⟨W1,hW1⟩:∃W1,W1=w.alloc (.cells (TQ x pl) 146):=Vx;refine fF ?_;intro B Wd lw hcall HB;unfold TQ at hW1;unfold Uo TQ;clear B h hw hk hst ho;go_enter func122,ntmps122;exact agz
def ajZ {rb:Nat}{fuel fb mk:Nat}(h:Sg Dd w0 m0 K0 rb w m K fuel ((fb,mk)::bs) (f::fs))(h0:Qv w0)(x:Kn.W)(pl:Option Addr)(hk:x.k=111){v:Vl}{r:List Vl}(hst:f.st=v::r):
 Calls prog 124 #[VG rb,Uo x pl] w (TV Dd w0 m0 K0 rb (VA m fuel x f fs)):=by
 have hw:VA m fuel x f fs=.on m fuel ({f with st:=r}::fs):=JD;rw[hw];obtain⟨W1,hW1⟩:∃W1,W1=w.alloc (.cells (TQ x pl) 146):=Vx;refine rW ?_;intro B Wd lw Q_;have hcall:=take_any Q_;clear Q_;have HB:Hid _:=B;unfold TQ at hW1;unfold Uo TQ;clear B h hw hk hst;go_enter func124,ntmps124;go_wp2_with fail;rw[<- hW1];clear hW1;refine hcall.mono ?_;rintro e w2 ⟨rfl,hf2,hc2⟩;have QP:Hid _:=hf2;clear hcall hf2;go_wp2
 go_end0
 exact⟨rfl,K,_,HB.o.sg.top (f':={f with st:=r}) h0 hc2 QP.o rfl rfl⟩
def anX {rb:Nat}{fuel fb mk:Nat}(h:Sg Dd w0 m0 K0 rb w m K fuel ((fb,mk)::bs) (f::fs))(h0:Qv w0)(x:Kn.W)(pl:Option Addr)(hk:x.k=62)(i:Nat)(hi:x.n=i):
 Calls prog 126 #[VG rb,Uo x pl] w (TV Dd w0 m0 K0 rb (VA m fuel x f fs)):=by
 have hw:VA m fuel x f fs=.on m fuel ({f with pc:=i}::fs):=by unfold VA;simp[hk,hi]
 rw[hw];obtain⟨W1,hW1⟩:∃W1,W1=w.alloc (.cells (TQ x pl) 146):=Vx;refine Ju ?_;intro B ct;have x1:=B.x1;rw[hi]at x1;have Q_:=B.sg.LY.1.raw;have cp:=Q_.cp;have fz:=λo=>Q_.Vb.free o;have Z1:¬fb=rb:=λe=>B.n1 e.symm;have Z1:¬fb=w.heap.size:=λe=>B.n2 e.symm;clear Q_;have HB:Hid _:=B;unfold TQ at hW1;unfold Uo TQ;clear B h hw hk hi;go_enter func126,ntmps126;go_wp2_with fail;rw[<- hW1];clear hW1;refine Uy ?_;refine ajB ?_;intro hHeld;refine Il ?_;intro Y_ Z_;refine Vg ?_;intro hHeld;clear Z_ Y_;refine Um ?_
 go_end0
 exact⟨rfl,K,_,HB.o.sg.top (f':={f with pc:=i}) h0 ((Vt.refl W1 (λk=>k=fb)).setCell _ _ (λ_=>rfl)).drew ((HB.o.sg.LY.1.raw.goto i).same rfl) rfl rfl⟩
def afg {rb:Nat}{fuel fb mk:Nat}(h:Sg Dd w0 m0 K0 rb w m K fuel ((fb,mk)::bs) (f::fs))(h0:Qv w0)(x:Kn.W)(pl:Option Addr)(hk:x.k=114){v:Vl}{r:List Vl}(hst:f.st=v::r)(C':fs.length<=32)(hroom:∀g gs,fs=g::gs->g.st.length<16):
 Calls prog 135 #[VG rb,Uo x pl] w (TV Dd w0 m0 K0 rb (VA m fuel x f fs)):=by
 have hw:VA m fuel x f fs=QJ m fuel v fs:=JD;rw[hw];obtain⟨W1,hW1⟩:∃W1,W1=w.alloc (.cells (TQ x pl) 146):=Vx;refine rW ?_;intro B Wd lw Q_;have hcall:=take_any Q_;clear Q_;have HB:Hid _:=B;unfold TQ at hW1;unfold Uo TQ;clear B h hw hk hst;go_enter func135,ntmps135;go_wp2_with fail;rw[<- hW1];clear hW1;refine hcall.mono ?_;rintro e w2 ⟨rfl,hf2,hc2⟩;have h2:=HB.o.sg.top (f':={f with st:=r}) h0 hc2 hf2 rfl rfl;have SP:=sS h2 h0 v C' hroom;clear hcall hf2 h2;unfold Vl.val at *;go_wp2_with fail;refine SP.mono ?_;intro e w2 hp
 cases fs with
 | nil=>
  obtain⟨rfl,hr⟩:=hp;have HP:Hid _:=hr;clear hr SP;go_wp2
  go_end0
  exact⟨rfl,HP.o⟩
 | cons g gs=>
  obtain⟨rfl,hr⟩:=hp;have HP:Hid _:=hr;clear hr SP;go_wp2
  go_end0
  exact⟨rfl,HP.o⟩
def jU {rb:Nat}{fuel fb mk:Nat}(h:Sg Dd w0 m0 K0 rb w m K fuel ((fb,mk)::bs) (f::fs))(h0:Qv w0)(x:Kn.W)(pl:Option Addr)(hk:x.k=63)(i:Nat)(hi:x.n=i){r:List Vl}(hst:f.st=⟨false,0⟩::r):
 Calls prog 127 #[VG rb,Uo x pl] w (TV Dd w0 m0 K0 rb (VA m fuel x f fs)):=by
 have hw:VA m fuel x f fs=.on m fuel ({f with st:=r,pc:=i}::fs):=by unfold VA;simp[hk,hi,hst]
 rw[hw];obtain⟨W1,hW1⟩:∃W1,W1=w.alloc (.cells (TQ x pl) 146):=Vx;refine Ju ?_;intro B ct;have x1:=B.x1;have l1:=B.l1;have l3:=B.l3;rw[hi]at x1;refine aW ?_;intro Wd lw Q_;rw[hst]at Q_;have hcall:=Lu Q_;clear Q_;have HB:Hid _:=B;unfold TQ at hW1;unfold Uo TQ;clear B h hw hk hst hi;go_enter func127,ntmps127;go_wp2_with fail;rw[<- hW1];clear hW1;refine rD ?_;intro w2 hf2 hc2 XS;have x1:=(Z9 (a:=(VJ w.heap.size 1)) (hc2.block _ l3 HB.o.n2)).trans x1;have cp:=hf2.cp;have fz:=λo=>hf2.Vb.free o;have Z1:¬fb=rb:=λe=>HB.o.n1 e.symm;have Z1:¬fb=w.heap.size:=λe=>HB.o.n2 e.symm;have QP:Hid _:=hf2;clear hcall hf2 Wd lw;go_wp2_with fail;refine Uy ?_;refine ajB ?_;intro hHeld;refine Il ?_;intro Y_ Z_;refine Vg ?_;intro hHeld;clear Z_ Y_;refine Um ?_
 go_end0
 exact⟨rfl,K,_,HB.o.sg.top (f':={f with st:=r,pc:=i}) h0 (hc2.then ((Vt.refl w2 (λk=>k=fb)).setCell _ _ (λ_=>rfl)).drew Qi) ((QP.o.goto i).same rfl) rfl rfl⟩
def mX {rb:Nat}{fuel fb mk:Nat}(h:Sg Dd w0 m0 K0 rb w m K fuel ((fb,mk)::bs) (f::fs))(h0:Qv w0)(x:Kn.W)(pl:Option Addr)(hk:x.k=63)(i:Nat)(hi:x.n=i){r:List Vl}{n:Int}(hn:n≠0)(hst:f.st=⟨false,n⟩::r):
 Calls prog 127 #[VG rb,Uo x pl] w (TV Dd w0 m0 K0 rb (VA m fuel x f fs)):=by
 have hw:VA m fuel x f fs=.on m fuel ({f with st:=r}::fs):=by unfold VA;simp[hk,hi,hst,hn]
 rw[hw];obtain⟨W1,hW1⟩:∃W1,W1=w.alloc (.cells (TQ x pl) 146):=Vx;have B:=h.box x pl hW1;have x1:=B.x1;rw[hi]at x1;refine aW ?_;intro Wd lw Q_;rw[hst]at Q_;have hcall:=Lu Q_;clear Q_;have HB:Hid _:=B;unfold TQ at hW1;unfold Uo TQ;clear B h hw hk hst hi;go_enter func127,ntmps127;go_wp2_with fail;rw[<- hW1];clear hW1;refine hcall.mono ?_;rintro e w2 ⟨rfl,hf2,hc2⟩;have QP:Hid _:=hf2;clear hcall hf2 Wd lw;go_wp2
 go_end0
 exact⟨rfl,K,_,HB.o.sg.top (f':={f with st:=r}) h0 hc2 QP.o rfl rfl⟩
def aeC {rb:Nat}{fuel fb mk:Nat}(h:Sg Dd w0 m0 K0 rb w m K fuel ((fb,mk)::bs) (f::fs))(h0:Qv w0)(x:Kn.W)(pl:Option Addr)(hk:x.k=63){n:Int}{r:List Vl}(hst:f.st=⟨true,n⟩::r):
 Calls prog 127 #[VG rb,Uo x pl] w (TV Dd w0 m0 K0 rb (VA m fuel x f fs)):=by
 have hw:VA m fuel x f fs=.stop m 3:=JD;rw[hw];obtain⟨W1,hW1⟩:∃W1,W1=w.alloc (.cells (TQ x pl) 146):=Vx;refine rW ?_;intro B Wd lw Q_;have hcall:=BL Q_;clear Q_;have HB:Hid _:=B;unfold TQ at hW1;unfold Uo TQ;clear B h hw hk hst;go_enter func127,ntmps127;go_wp2_with fail;rw[<- hW1];clear hW1;refine hcall.mono ?_;rintro e w2 ⟨rfl,hc2⟩;clear hcall Wd lw;go_wp2;exact ahs
def ak3 {rb:Nat}{fuel fb mk:Nat}(h:Sg Dd w0 m0 K0 rb w m K fuel ((fb,mk)::bs) (f::fs))(h0:Qv w0)(x:Kn.W)(pl:Option Addr)(hk:x.k=100){v:Vl}{r:List Vl}(hst:f.st=v::r)(hr:r.length+1<16):
 Calls prog 125 #[VG rb,Uo x pl] w (TV Dd w0 m0 K0 rb (VA m fuel x f fs)):=by
 have hw:VA m fuel x f fs=.on m fuel ({f with st:=v::v::r}::fs):=JD;rw[hw];obtain⟨W1,hW1⟩:∃W1,W1=w.alloc (.cells (TQ x pl) 146):=Vx;refine Ju ?_;intro B ct;have l1:=B.l1;refine aW ?_;intro Wd lw Q_;rw[hst]at Q_;have hcall:=take_any Q_;unfold Vl.val at hcall;clear Q_;have HB:Hid _:=B;unfold TQ at hW1;unfold Uo TQ;clear B h hw hk hst;go_enter func125,ntmps125;go_wp2_with fail;rw[<- hW1];clear hW1;refine hcall.mono ?_;rintro e w2 ⟨rfl,hf2,hc2⟩;have S6:=ZY l1 hc2.size;clear hcall Wd lw;go_wp2_with fail;obtain⟨W1,hW1⟩:∃W1,W1=w2.alloc (.cells #[.bool v.obj,VI v.n] 33):=Vx;rw[<- hW1];have hb3:Below w2.heap.size w2 W1:=fQ;have hv3:W1.heap[w2.heap.size]?=some (.cells #[.bool v.obj,VI v.n] 33):=abf;have v0:W1.cell? (VJ w2.heap.size 0)=some (.bool v.obj):=by simp only[World.cell?,hv3];rfl
 have v1:W1.cell? (VJ w2.heap.size 1)=some (VI v.n):=by simp only[World.cell?,hv3];rfl
 have YY:=(hb3.cell (p:=(VJ rb 24)) S6).trans ((Z9 (a:=(VJ rb 24)) iY).trans ct);have S6:=ZY S6 hb3.size;have xF:=(Z5.1 hv3).1;have hf3:=hf2.same (hb3.block fb hf2.Vb.lt);have vi:w2.heap.size≠fb:=λe=>by have:=hf2.Vb.lt;omega
 have p_:=RX (w:=W1.drew) (hf3.same rfl) VH v;unfold Vl.val at p_;have B7:=UQ (hc2.then (Vt.of_below hb3 (λ_=>False)) Js);clear hW1 hf2 hf3 hv3 hb3 hc2;refine Uy ?_;refine ag1 ?_;intro hHeld;refine pJ ?_;refine FC ?_;intro Y_ Z_;refine CV ?_;rintro e w4 ⟨rfl,hf2,hc2⟩;have S4:=(Z9 (a:=(VJ rb 24)) (hc2.block _ S6 HB.o.n1)).trans YY;have v04:=(Z9 (a:=(VJ w2.heap.size 0)) iL).trans v0;have v14:=(Z9 (a:=(VJ w2.heap.size 1)) iL).trans v1
 try go_wp2_with fail
 refine Z_.go λhHeld=>?_;clear Z_ Y_;refine Um ?_;have hs4:=hc2.size;have S6:=ZY S6 hs4;have xF:=ZY xF hs4;have BT:=RX (w:=w4.drew) (hf2.same rfl) Ea v;unfold Vl.val at BT;have B7:=UQ (B7.o.then ((Vt.refl W1 _).drew.then hc2 Qi) Qi);clear p_ hf2 hc2 YY v0 v1 hs4;go_wp2_with fail;refine Uy ?_;refine ag1 ?_;intro hHeld;refine pJ ?_;refine FC ?_;intro Y_ Z_;go_simp;refine BT.mono ?_;rintro e w5 ⟨rfl,hf2,hc2⟩;have YY:=(Z9 (a:=(VJ rb 24)) (hc2.block _ S6 HB.o.n1)).trans S4;have v0:=(Z9 (a:=(VJ w2.heap.size 0)) iL).trans v04;have v0:=(Z9 (a:=(VJ w2.heap.size 1)) iL).trans v14
 try go_wp2_with fail
 refine Z_.go λhHeld=>?_;clear Z_ Y_;refine Um ?_
 go_end0
 exact⟨rfl,K,_,HB.o.sg.top (f':={f with st:=v::v::r}) h0 (B7.o.then ((Vt.refl w4 _).drew.then hc2 Qi) Qi) hf2 rfl rfl⟩
end Go.Proofs.Rz
