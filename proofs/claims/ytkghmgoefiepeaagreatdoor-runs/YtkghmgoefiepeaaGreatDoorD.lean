import Derived.Test.YtkghmgoefiepeaaGreatDoorB
set_option linter.unusedSimpArgs false
set_option linter.unusedVariables false
set_option maxHeartbeats 4000000
set_option maxRecDepth 100000
namespace Go.Proofs.Rz
open ChangeShapes WideShapes ChangeAt RowKit Kn Tryz
theorem G7 (s:ByteArray)(m:Nat)(n:Int)(w:World)(hs:s.size<=maxLen)(hm:m<=4)(h:Vk (bl s) m=n):
 Calls prog 157 #[.string s,VI m] w λe w'=>e=.returned (VI n)/\w'=w:=by
 rw[<- h];exact jE s m w hs hm
variable {w w1 : World}
theorem iU (hb1:Below (w.alloc (.cells #[.int .u8 0,VI 0,.string ⟨#[]⟩,.string ⟨#[]⟩,.string ⟨#[]⟩,VI 0] 188)).heap.size (w.alloc (.cells #[.int .u8 0,VI 0,.string ⟨#[]⟩,.string ⟨#[]⟩,.string ⟨#[]⟩,VI 0] 188)) w1):
 w.heap.size<w1.heap.size/\¬w.heap.size=w1.heap.size/\w1.heap[w.heap.size]?=some (.cells #[.int .u8 0,VI 0,.string ⟨#[]⟩,.string ⟨#[]⟩,.string ⟨#[]⟩,VI 0] 188)/\Below w.heap.size w w1:=by
 have hz1:=hb1.size;simp only[ZJ]at hz1;exact⟨VH,VH,(hb1.block _ Vy).trans (Z4 w _).1,((ZR _ _).alloc UM _).trans amZ⟩
variable {w2 : World}
theorem Eh (y_:w.heap.size<w1.heap.size)(hblk:w1.heap[w.heap.size]?=some (.cells #[.int .u8 0,VI 0,.string ⟨#[]⟩,.string ⟨#[]⟩,.string ⟨#[]⟩,VI 0] 188))(L_:Below w.heap.size w w1)
 (hb2:Below (w1.alloc (.cells #[.int .u8 0,VI 0,.string ⟨#[]⟩,.string ⟨#[]⟩,.string ⟨#[]⟩,VI 0] 188)).heap.size (w1.alloc (.cells #[.int .u8 0,VI 0,.string ⟨#[]⟩,.string ⟨#[]⟩,.string ⟨#[]⟩,VI 0] 188)) w2):
 w2.heap[w.heap.size]?=some (.cells #[.int .u8 0,VI 0,.string ⟨#[]⟩,.string ⟨#[]⟩,.string ⟨#[]⟩,VI 0] 188)/\w2.heap[w1.heap.size]?=some (.cells #[.int .u8 0,VI 0,.string ⟨#[]⟩,.string ⟨#[]⟩,.string ⟨#[]⟩,VI 0] 188)/\Below w.heap.size w w2:=
 ⟨(hb2.block _ Vo).trans ((ZV _ _ _ y_).trans hblk),(hb2.block _ Vy).trans (Z4 w1 _).1,L_.trans (((ZR _ _).alloc zt2 _).trans (hb2.mono Vo))⟩
theorem acr (s:ByteArray)(w:World)(hs:s.size<=120)(h1:1<=s.size)(hp:Va (bl s)=none)(hn:Vs (bl s)=none)(U_:selector (bl s)=false)
 (m m4 m2 m1:Int) (hm:Vk (bl s) 4=m) (hm4:Vk (bl (s.extract 1 s.size)) 4=m4) (hm2:Vk (bl (s.extract 1 s.size)) 2=m2) (hm1:Vk (bl (s.extract 1 s.size)) 1=m1) (hc:s[0].toNat≠94) (hm0:0<=m):
 Calls prog 141 #[.string s] w λe w'=>e=.returned (.tuple #[Tm ⟨110,m,[],[],[]⟩ 0,.bool true])/\Below w.heap.size w w':=by
 have D_:((s[0].toNat:Int)==94)=false:=Vo;refine afL ?_;intro O2 HP Sy B1;have HM:Hid _:=hm;refine zr7 ?_;intro PJ hmc TX T6 Tr Tw Ts TC;clear hp hn U_ hm hm4 hm2 hm1 hc;go_enter func141,ntmps141;go_wp2_with fail;refine Lh ?_;intro w1 y_ T' hblk L_;go_wp2_with fail;refine DR ?_;intro w2 hb1 x hxy M_ P_ A_ u0 u1 u2 u3 u4 u5 uf;clear hb1 hblk L_ hxy;go_wp2_with fail;refine pO ?_;intro W3 hW3 R_ hb1;clear hW3 u0 u1 u2 u3 u4 u5 uf M_ P_ A_;obtain⟨q0,q1,q2,q3,q4,q5,qf⟩:=TL R_;clear R_;go_wp2_with fail;refine Ip ?_;rintro e w' ⟨rfl,rfl⟩;go_wp2;refine ZQ (v:=.tuple #[.agg #[.int .u8 110,VI m,.string ⟨#[]⟩,.string ⟨#[]⟩,.string ⟨#[]⟩,VI 0],.bool true]) JU rfl ⟨?_,?_⟩
 . rfl
 . exact SQ hb1 UM _ _ _ _ _ _
theorem adb (s:ByteArray)(w:World)(hs:s.size<=120)(h1:1<=s.size)(hp:Va (bl s)=none)(hn:Vs (bl s)=none)(U_:selector (bl s)=false)
 (m m4 m2 m1:Int) (hm:Vk (bl s) 4=m) (hm4:Vk (bl (s.extract 1 s.size)) 4=m4) (hm2:Vk (bl (s.extract 1 s.size)) 2=m2) (hm1:Vk (bl (s.extract 1 s.size)) 1=m1) (hc:s[0].toNat=45) (hm0:m<0) (hx:0<=m4):
 Calls prog 141 #[.string s] w λe w'=>e=.returned (.tuple #[Tm ⟨110,(-m4),[],[],[]⟩ 0,.bool true])/\Below w.heap.size w w':=by
 refine adO ?_;intro _ D_;have hxs:(s.extract 1 s.size).size<=119:=Vo;refine afL ?_;intro O2 HP Sy B1;have HM:Hid _:=hm;have Ml:Hid _:=hm4;refine zr7 ?_;intro PJ hmc TX T6 Tr Tw Ts TC;clear hp hn U_ hm hm4 hm2 hm1 hc;go_enter func141,ntmps141;go_wp2_with fail;refine Lh ?_;intro w1 y_ T' hblk L_;go_wp2_with fail;refine DR ?_;intro w2 hb1 x hxy M_ P_ A_ u0 u1 u2 u3 u4 u5 uf;clear hb1 hblk L_ hxy;go_wp2_with fail;refine pO ?_;intro W3 hW3 R_ hb1;clear hW3 u0 u1 u2 u3 u4 u5 uf M_ P_ A_;obtain⟨q0,q1,q2,q3,q4,q5,qf⟩:=TL R_;clear R_;go_wp2_with fail;refine Ip ?_;rintro e w' ⟨rfl,rfl⟩;go_wp2_with fail;refine GR ?_;rintro e w' ⟨rfl,rfl⟩;go_wp2;refine ZQ (v:=.tuple #[.agg #[.int .u8 110,VI (-m4),.string ⟨#[]⟩,.string ⟨#[]⟩,.string ⟨#[]⟩,VI 0],.bool true]) JU rfl ⟨?_,?_⟩
 . rfl
 . exact SQ hb1 UM _ _ _ _ _ _
theorem aaC (s:ByteArray)(w:World)(hs:s.size<=120)(h1:1<=s.size)(hp:Va (bl s)=none)(hn:Vs (bl s)=none)(U_:selector (bl s)=false)
 (m m4 m2 m1:Int) (hm:Vk (bl s) 4=m) (hm4:Vk (bl (s.extract 1 s.size)) 4=m4) (hm2:Vk (bl (s.extract 1 s.size)) 2=m2) (hm1:Vk (bl (s.extract 1 s.size)) 1=m1) (hc:s[0].toNat=62) (hm0:m<0) (hx:0<=m2):
 Calls prog 141 #[.string s] w λe w'=>e=.returned (.tuple #[Tm ⟨s[0].toNat,m2,[],[],[]⟩ 0,.bool true])/\Below w.heap.size w w':=by
 refine abT ?_;intro _ D_;have D_:((s[0].toNat:Int)==62)=true:=Vo;exact zz9
theorem afe (s:ByteArray)(w:World)(hs:s.size<=120)(h1:1<=s.size)(hp:Va (bl s)=none)(hn:Vs (bl s)=none)(U_:selector (bl s)=false)
 (m m4 m2 m1:Int) (hm:Vk (bl s) 4=m) (hm4:Vk (bl (s.extract 1 s.size)) 4=m4) (hm2:Vk (bl (s.extract 1 s.size)) 2=m2) (hm1:Vk (bl (s.extract 1 s.size)) 1=m1) (hc:s[0].toNat=63) (hm0:m<0) (hx:0<=m2):
 Calls prog 141 #[.string s] w λe w'=>e=.returned (.tuple #[Tm ⟨s[0].toNat,m2,[],[],[]⟩ 0,.bool true])/\Below w.heap.size w w':=by
 refine wC ?_;intro _ _ D_;have D_:((s[0].toNat:Int)==63)=true:=Vo;exact zz9
theorem aaR (s:ByteArray)(w:World)(hs:s.size<=120)(h1:1<=s.size)(hp:Va (bl s)=none)(hn:Vs (bl s)=none)(U_:selector (bl s)=false)
 (m m4 m2 m1:Int) (hm:Vk (bl s) 4=m) (hm4:Vk (bl (s.extract 1 s.size)) 4=m4) (hm2:Vk (bl (s.extract 1 s.size)) 2=m2) (hm1:Vk (bl (s.extract 1 s.size)) 1=m1) (hc:s[0].toNat=97) (hm0:m<0) (hx:0<=m1) (hx3:m1<3):
 Calls prog 141 #[.string s] w λe w'=>e=.returned (.tuple #[Tm ⟨97,m1,[],[],[]⟩ 0,.bool true])/\Below w.heap.size w w':=by
 refine wC ?_;intro _ _ D_;refine abx ?_;intro _ D_;refine zr2 ?_;intro hxs O2 HP Sy B1 HM Ml PB Q6 f_ Y' a_ PJ hmc;obtain⟨TX,T6⟩:=f_;obtain⟨Tr,Tw⟩:=Y';obtain⟨Ts,TC⟩:=a_;clear hp hn U_ hm hm4 hm2 hm1 hc;go_enter func141,ntmps141;go_wp2_with fail;refine Lh ?_;intro w1 y_ T' hblk L_;go_wp2_with fail;refine DR ?_;intro w2 hb1 x hxy M_ P_ A_ u0 u1 u2 u3 u4 u5 uf;clear hb1 hblk L_ hxy;go_wp2_with fail;refine pO ?_;intro W3 hW3 R_ hb1;clear hW3 u0 u1 u2 u3 u4 u5 uf M_ P_ A_;obtain⟨q0,q1,q2,q3,q4,q5,qf⟩:=TL R_;clear R_;go_wp2_with fail;refine Ip ?_;rintro e w' ⟨rfl,rfl⟩;go_wp2_with fail;refine GR ?_;rintro e w' ⟨rfl,rfl⟩;go_wp2_with fail;refine ED ?_;rintro e w' ⟨rfl,rfl⟩;go_wp2_with fail;refine DV ?_;rintro e w' ⟨rfl,rfl⟩;go_wp2;refine ZQ (v:=.tuple #[.agg #[.int .u8 97,VI m1,.string ⟨#[]⟩,.string ⟨#[]⟩,.string ⟨#[]⟩,VI 0],.bool true]) JU rfl ⟨?_,?_⟩
 . rfl
 . exact SQ hb1 UM _ _ _ _ _ _
theorem aau (s:ByteArray)(w:World)(hs:s.size<=120)(h1:1<=s.size)(hp:Va (bl s)=none)(hn:Vs (bl s)=none)(U_:selector (bl s)=false)
 (m m4 m2 m1:Int) (hm:Vk (bl s) 4=m) (hm4:Vk (bl (s.extract 1 s.size)) 4=m4) (hm2:Vk (bl (s.extract 1 s.size)) 2=m2) (hm1:Vk (bl (s.extract 1 s.size)) 1=m1) (hc:s[0].toNat=115) (hm0:m<0) (hx:0<=m1):
 Calls prog 141 #[.string s] w λe w'=>e=.returned (.tuple #[Tm ⟨103,m1,[],[],[]⟩ 0,.bool true])/\Below w.heap.size w w':=by
 refine abg ?_;intro _ _ _ _ _ D_;refine zr2 ?_;intro hxs O2 HP Sy B1 HM Ml PB Q6 f_ Y' a_ PJ hmc;obtain⟨TX,T6⟩:=f_;obtain⟨Tr,Tw⟩:=Y';obtain⟨Ts,TC⟩:=a_;clear hp hn U_ hm hm4 hm2 hm1 hc;go_enter func141,ntmps141;go_wp2_with fail;refine Lh ?_;intro w1 y_ T' hblk L_;go_wp2_with fail;refine DR ?_;intro w2 hb1 x hxy M_ P_ A_ u0 u1 u2 u3 u4 u5 uf;clear hb1 hblk L_ hxy;go_wp2_with fail;refine pO ?_;intro W3 hW3 R_ hb1;clear hW3 u0 u1 u2 u3 u4 u5 uf M_ P_ A_;obtain⟨q0,q1,q2,q3,q4,q5,qf⟩:=TL R_;clear R_;go_wp2_with fail;refine Ip ?_;rintro e w' ⟨rfl,rfl⟩;go_wp2_with fail;refine GR ?_;rintro e w' ⟨rfl,rfl⟩;go_wp2_with fail;refine ED ?_;rintro e w' ⟨rfl,rfl⟩;go_wp2_with fail;refine DV ?_;rintro e w' ⟨rfl,rfl⟩;go_wp2;refine ZQ (v:=.tuple #[.agg #[.int .u8 103,VI m1,.string ⟨#[]⟩,.string ⟨#[]⟩,.string ⟨#[]⟩,VI 0],.bool true]) JU rfl ⟨?_,?_⟩
 . rfl
 . exact SQ hb1 UM _ _ _ _ _ _
theorem wW (s:ByteArray)(w:World)(hs:s.size<=120)(h1:1<=s.size)(hp:Va (bl s)=none)(hn:Vs (bl s)=none)(U_:selector (bl s)=false)
 (m m4 m2 m1:Int) (hm:Vk (bl s) 4=m) (hm4:Vk (bl (s.extract 1 s.size)) 4=m4) (hm2:Vk (bl (s.extract 1 s.size)) 2=m2) (hm1:Vk (bl (s.extract 1 s.size)) 1=m1) (hc:s[0].toNat=94) (hm0:m<0) (hb2:selector (bl (s.extract 1 s.size))=false) (h3:s.size=3) (hx2:((s.extract 0 2).toList==[61,115])=false):
 Calls prog 141 #[.string s] w λe w'=>e=.returned (.tuple #[Tm w0 0,.bool false])/\Below w.heap.size w w':=by
 have D_:((s[0].toNat:Int)==94)=true:=Vo;refine aoT ?_;intro _ _ _ D_;refine uy ?_;intro _ D_;have Dm:2<=s.size:=VH;clear h3;exact zz5
theorem vZ (s:ByteArray)(w:World)(hs:s.size<=120)(h1:1<=s.size)(hp:Va (bl s)=none)(hn:Vs (bl s)=none)(U_:selector (bl s)=false)
 (m m4 m2 m1:Int) (hm:Vk (bl s) 4=m) (hm4:Vk (bl (s.extract 1 s.size)) 4=m4) (hm2:Vk (bl (s.extract 1 s.size)) 2=m2) (hm1:Vk (bl (s.extract 1 s.size)) 1=m1) (hc:s[0].toNat=94) (hm0:m<0) (hb2:selector (bl (s.extract 1 s.size))=false) (h3:s.size≠3):
 Calls prog 141 #[.string s] w λe w'=>e=.returned (.tuple #[Tm w0 0,.bool false])/\Below w.heap.size w w':=by
 have D_:((s[0].toNat:Int)==94)=true:=Vo;refine aoT ?_;intro _ _ _ D_;refine aaX ?_;intro _ D_;exact zz5
theorem vS (s:ByteArray)(w:World)(hs:s.size<=120)(h1:1<=s.size)(hp:Va (bl s)=none)(hn:Vs (bl s)=none)(U_:selector (bl s)=false)
 (m m4 m2 m1:Int) (hm:Vk (bl s) 4=m) (hm4:Vk (bl (s.extract 1 s.size)) 4=m4) (hm2:Vk (bl (s.extract 1 s.size)) 2=m2) (hm1:Vk (bl (s.extract 1 s.size)) 1=m1) (hc:s[0].toNat=45) (hm0:m<0) (hx:m4<0) (h3:s.size=3) (hx2:((s.extract 0 2).toList==[61,115])=false):
 Calls prog 141 #[.string s] w λe w'=>e=.returned (.tuple #[Tm w0 0,.bool false])/\Below w.heap.size w w':=by
 refine adO ?_;intro _ D_;exact zz2
theorem wI (s:ByteArray)(w:World)(hs:s.size<=120)(h1:1<=s.size)(hp:Va (bl s)=none)(hn:Vs (bl s)=none)(U_:selector (bl s)=false)
 (m m4 m2 m1:Int) (hm:Vk (bl s) 4=m) (hm4:Vk (bl (s.extract 1 s.size)) 4=m4) (hm2:Vk (bl (s.extract 1 s.size)) 2=m2) (hm1:Vk (bl (s.extract 1 s.size)) 1=m1) (hc:s[0].toNat=45) (hm0:m<0) (hx:m4<0) (h3:s.size≠3):
 Calls prog 141 #[.string s] w λe w'=>e=.returned (.tuple #[Tm w0 0,.bool false])/\Below w.heap.size w w':=by
 refine adO ?_;intro _ D_;exact zz3
theorem zZ (s:ByteArray)(w:World)(hs:s.size<=120)(h1:1<=s.size)(hp:Va (bl s)=none)(hn:Vs (bl s)=none)(U_:selector (bl s)=false)
 (m m4 m2 m1:Int) (hm:Vk (bl s) 4=m) (hm4:Vk (bl (s.extract 1 s.size)) 4=m4) (hm2:Vk (bl (s.extract 1 s.size)) 2=m2) (hm1:Vk (bl (s.extract 1 s.size)) 1=m1) (hc:s[0].toNat=115) (hm0:m<0) (hx:m1<0) (h3:s.size≠3):
 Calls prog 141 #[.string s] w λe w'=>e=.returned (.tuple #[Tm w0 0,.bool false])/\Below w.heap.size w w':=by
 refine abg ?_;intro _ _ _ _ _ D_;have D_:((s.size:Int)==3)=false:=Vo;exact zz8
theorem EC (s:ByteArray)(w:World)(hs:s.size<=120)(h1:1<=s.size)(hp:Va (bl s)=none)(hn:Vs (bl s)=none)(U_:selector (bl s)=false)
 (m m4 m2 m1:Int) (hm:Vk (bl s) 4=m) (hm4:Vk (bl (s.extract 1 s.size)) 4=m4) (hm2:Vk (bl (s.extract 1 s.size)) 2=m2) (hm1:Vk (bl (s.extract 1 s.size)) 1=m1) (nL:s[0].toNat≠94) (gN:s[0].toNat≠45) (fX:s[0].toNat≠62) (lP:s[0].toNat≠63) (li:s[0].toNat≠97) (ub:s[0].toNat≠115) (hc:True) (hm0:m<0) (h3:s.size=3) (hx2:((s.extract 0 2).toList==[61,115])=false):
 Calls prog 141 #[.string s] w λe w'=>e=.returned (.tuple #[Tm w0 0,.bool false])/\Below w.heap.size w w':=by
 refine abT ?_;intro _ D_;exact zz2
theorem EM (s:ByteArray)(w:World)(hs:s.size<=120)(h1:1<=s.size)(hp:Va (bl s)=none)(hn:Vs (bl s)=none)(U_:selector (bl s)=false)
 (m m4 m2 m1:Int) (hm:Vk (bl s) 4=m) (hm4:Vk (bl (s.extract 1 s.size)) 4=m4) (hm2:Vk (bl (s.extract 1 s.size)) 2=m2) (hm1:Vk (bl (s.extract 1 s.size)) 1=m1) (nL:s[0].toNat≠94) (gN:s[0].toNat≠45) (fX:s[0].toNat≠62) (lP:s[0].toNat≠63) (li:s[0].toNat≠97) (ub:s[0].toNat≠115) (hc:True) (hm0:m<0) (h3:s.size≠3):
 Calls prog 141 #[.string s] w λe w'=>e=.returned (.tuple #[Tm w0 0,.bool false])/\Below w.heap.size w w':=by
 refine abT ?_;intro _ D_;exact zz3
theorem wG (s:ByteArray)(w:World)(hs:s.size<=120)(h1:1<=s.size)(hp:Va (bl s)=none)(hn:Vs (bl s)=none)(U_:selector (bl s)=false)
 (m m4 m2 m1:Int) (hm:Vk (bl s) 4=m) (hm4:Vk (bl (s.extract 1 s.size)) 4=m4) (hm2:Vk (bl (s.extract 1 s.size)) 2=m2) (hm1:Vk (bl (s.extract 1 s.size)) 1=m1) (hc:s[0].toNat=62) (hm0:m<0) (hx:m2<0) (h3:s.size=3) (hx2:((s.extract 0 2).toList==[61,115])=false):
 Calls prog 141 #[.string s] w λe w'=>e=.returned (.tuple #[Tm w0 0,.bool false])/\Below w.heap.size w w':=by
 refine abT ?_;intro _ D_;have D_:((s[0].toNat:Int)==62)=true:=Vo;exact zz4
theorem wH (s:ByteArray)(w:World)(hs:s.size<=120)(h1:1<=s.size)(hp:Va (bl s)=none)(hn:Vs (bl s)=none)(U_:selector (bl s)=false)
 (m m4 m2 m1:Int) (hm:Vk (bl s) 4=m) (hm4:Vk (bl (s.extract 1 s.size)) 4=m4) (hm2:Vk (bl (s.extract 1 s.size)) 2=m2) (hm1:Vk (bl (s.extract 1 s.size)) 1=m1) (hc:s[0].toNat=62) (hm0:m<0) (hx:m2<0) (h3:s.size≠3):
 Calls prog 141 #[.string s] w λe w'=>e=.returned (.tuple #[Tm w0 0,.bool false])/\Below w.heap.size w w':=by
 refine abT ?_;intro _ D_;have D_:((s[0].toNat:Int)==62)=true:=Vo;exact zz6
theorem xH (s:ByteArray)(w:World)(hs:s.size<=120)(h1:1<=s.size)(hp:Va (bl s)=none)(hn:Vs (bl s)=none)(U_:selector (bl s)=false)
 (m m4 m2 m1:Int) (hm:Vk (bl s) 4=m) (hm4:Vk (bl (s.extract 1 s.size)) 4=m4) (hm2:Vk (bl (s.extract 1 s.size)) 2=m2) (hm1:Vk (bl (s.extract 1 s.size)) 1=m1) (hc:s[0].toNat=63) (hm0:m<0) (hx:m2<0) (h3:s.size=3) (hx2:((s.extract 0 2).toList==[61,115])=false):
 Calls prog 141 #[.string s] w λe w'=>e=.returned (.tuple #[Tm w0 0,.bool false])/\Below w.heap.size w w':=by
 refine wC ?_;intro _ _ D_;have D_:((s[0].toNat:Int)==63)=true:=Vo;exact zz4
theorem wu (s:ByteArray)(w:World)(hs:s.size<=120)(h1:1<=s.size)(hp:Va (bl s)=none)(hn:Vs (bl s)=none)(U_:selector (bl s)=false)
 (m m4 m2 m1:Int) (hm:Vk (bl s) 4=m) (hm4:Vk (bl (s.extract 1 s.size)) 4=m4) (hm2:Vk (bl (s.extract 1 s.size)) 2=m2) (hm1:Vk (bl (s.extract 1 s.size)) 1=m1) (hc:s[0].toNat=63) (hm0:m<0) (hx:m2<0) (h3:s.size≠3):
 Calls prog 141 #[.string s] w λe w'=>e=.returned (.tuple #[Tm w0 0,.bool false])/\Below w.heap.size w w':=by
 refine wC ?_;intro _ _ D_;have D_:((s[0].toNat:Int)==63)=true:=Vo;exact zz6
theorem wS (s:ByteArray)(w:World)(hs:s.size<=120)(h1:1<=s.size)(hp:Va (bl s)=none)(hn:Vs (bl s)=none)(U_:selector (bl s)=false)
 (m m4 m2 m1:Int) (hm:Vk (bl s) 4=m) (hm4:Vk (bl (s.extract 1 s.size)) 4=m4) (hm2:Vk (bl (s.extract 1 s.size)) 2=m2) (hm1:Vk (bl (s.extract 1 s.size)) 1=m1) (hc:s[0].toNat=97) (hm0:m<0) (hx:m1<0\/3<=m1) (h3:s.size=3) (hx2:((s.extract 0 2).toList==[61,115])=false):
 Calls prog 141 #[.string s] w λe w'=>e=.returned (.tuple #[Tm w0 0,.bool false])/\Below w.heap.size w w':=by
 refine wC ?_;intro _ _ D_;refine abx ?_;intro _ D_;refine uy ?_;intro _ D_;have Dm:2<=s.size:=VH;clear h3;exact zz7
theorem xK (s:ByteArray)(w:World)(hs:s.size<=120)(h1:1<=s.size)(hp:Va (bl s)=none)(hn:Vs (bl s)=none)(U_:selector (bl s)=false)
 (m m4 m2 m1:Int) (hm:Vk (bl s) 4=m) (hm4:Vk (bl (s.extract 1 s.size)) 4=m4) (hm2:Vk (bl (s.extract 1 s.size)) 2=m2) (hm1:Vk (bl (s.extract 1 s.size)) 1=m1) (hc:s[0].toNat=97) (hm0:m<0) (hx:m1<0\/3<=m1) (h3:s.size≠3):
 Calls prog 141 #[.string s] w λe w'=>e=.returned (.tuple #[Tm w0 0,.bool false])/\Below w.heap.size w w':=by
 refine wC ?_;intro _ _ D_;refine abx ?_;intro _ D_;refine aaX ?_;intro _ D_;exact zz7
theorem Ah (s:ByteArray)(w:World)(hs:s.size<=120)(h1:1<=s.size)(hp:Va (bl s)=none)(hn:Vs (bl s)=none)(U_:selector (bl s)=false)
 (m m4 m2 m1:Int) (hm:Vk (bl s) 4=m) (hm4:Vk (bl (s.extract 1 s.size)) 4=m4) (hm2:Vk (bl (s.extract 1 s.size)) 2=m2) (hm1:Vk (bl (s.extract 1 s.size)) 1=m1) (hc:s[0].toNat=115) (hm0:m<0) (hx:m1<0) (h3:s.size=3) (hx2:((s.extract 0 2).toList==[61,115])=false):
 Calls prog 141 #[.string s] w λe w'=>e=.returned (.tuple #[Tm w0 0,.bool false])/\Below w.heap.size w w':=by
 refine abg ?_;intro _ _ _ _ _ D_;have D_:((s.size:Int)==3)=true:=Vo;have Dm:2<=s.size:=VH;clear h3;exact zz8
theorem kD (s:ByteArray)(w:World)(hs:s.size<=120)(x:W)(hp:Va (bl s)=some x):
 Calls prog 141 #[.string s] w λe w'=>e=.returned (.tuple #[Tm x 0,.bool true])/\Below w.heap.size w w':=by
 have HP:Hid _:=hp;clear hp;go_enter func141,ntmps141;go_wp2_with fail;refine(yP s _ SE).mono ?_;rintro e w1 ⟨rfl,hb1⟩;rw[HP.o];simp only[Tm,YX,WG];obtain⟨y_,T',hblk,L_⟩:=iU hb1;obtain⟨r0,r1,r2,r3,r4,r5,rf⟩:=TL hblk;clear hb1;go_wp2;refine ZQ (v:=.tuple #[Tm x 0,.bool true]) (by simp[results,results141,go_sem,r0,r1,r2,r3,r4,r5,Tm,y_,T']) rfl ⟨rfl,?_⟩;exact(SQ L_ UM _ _ _ _ _ _).alloc (by rw[amw];omega) _
theorem pz (s:ByteArray)(w:World)(hs:s.size<=120)(x:W)(hp:Va (bl s)=none)(hn:Vs (bl s)=some x):
 Calls prog 141 #[.string s] w λe w'=>e=.returned (.tuple #[Tm x 0,.bool true])/\Below w.heap.size w w':=by
 have HP:Hid _:=hp;have Sy:Hid _:=hn;clear hp hn;go_enter func141,ntmps141;go_wp2_with fail;refine Lh ?_;intro w1 y_ T' hblk L_;go_wp2_with fail;refine qm ?_;rintro e w2 ⟨⟨x',rfl,hxy⟩,hb1⟩;obtain rfl:=hxy _ Sy.o;rw[Sy.o];simp only[Tm,WG];obtain⟨M_,P_,A_⟩:=Eh y_ hblk L_ hb1;obtain⟨q0,q1,q2,q3,q4,q5,qf⟩:=TL M_;obtain⟨u0,u1,u2,u3,u4,u5,uf⟩:=TL P_;clear hb1 hblk L_ hxy;go_wp2;refine ZQ (v:=.tuple #[Tm x' 0,.bool true]) (by simp[results,results141,go_sem,q0,q1,q2,q3,q4,q5,u0,u1,u2,u3,u4,u5,Tm,y_,T']) rfl ⟨rfl,?_⟩;exact SQ (SQ A_ zt2 _ _ _ _ _ _) UM _ _ _ _ _ _
theorem acO (s:ByteArray)(w:World)(hs:s.size<=120)(h1:1<=s.size)(hp:Va (bl s)=none)(hn:Vs (bl s)=none)(U_:selector (bl s)=true)(hc:True):
 Calls prog 141 #[.string s] w λe w'=>e=.returned (.tuple #[Tm ⟨115,(U6 (bl s):Nat),bl s,[],[]⟩ 0,.bool true])/\Below w.heap.size w w':=by
 have hsa:=JC s U_;have HA:=UQ hsa.2.2;have nw:=hsa.2.1;clear hsa;have HP:Hid _:=hp;have Sy:Hid _:=hn;have B1:Hid _:=U_;clear hp hn U_ hc;go_enter func141,ntmps141;go_wp2_with fail;refine Lh ?_;intro w1 y_ T' hblk L_;go_wp2_with fail;refine DR ?_;intro w2 hb1 x hxy M_ P_ A_ u0 u1 u2 u3 u4 u5 uf;clear hb1 hblk L_ hxy;go_wp2_with fail;refine pO ?_;intro W3 hW3 R_ hb1;clear hW3 u0 u1 u2 u3 u4 u5 uf M_ P_ A_;obtain⟨q0,q1,q2,q3,q4,q5,qf⟩:=TL R_;clear R_;go_wp2_with fail;refine(LC s _ nw h1 HA.o).mono ?_;rintro e w' ⟨rfl,rfl⟩;go_wp2;refine ZQ (v:=.tuple #[.agg #[.int .u8 115,VI (U6 (bl s):Nat),.string s,.string ⟨#[]⟩,.string ⟨#[]⟩,VI 0],.bool true]) JU rfl ⟨?_,?_⟩
 . rfl
 . exact SQ hb1 UM _ _ _ _ _ _
theorem agH (s:ByteArray)(w:World)(hs:s.size<=120)(h1:1<=s.size)(hp:Va (bl s)=none)(hn:Vs (bl s)=none)(U_:selector (bl s)=false)(hc:s[0].toNat=94)(hb2:selector (bl (s.extract 1 s.size))=true):
 Calls prog 141 #[.string s] w λe w'=>e=.returned (.tuple #[Tm ⟨94,(U6 (bl (s.extract 1 s.size)):Nat),bl (s.extract 1 s.size),[],[]⟩ 0,.bool true])/\Below w.heap.size w w':=by
 have D_:((s[0].toNat:Int)==94)=true:=Vo;have hsa:=JC _ hb2;have HA:=UQ hsa.2.2;have nw:=hsa.2.1;have hs3:=hsa.1;have B2:Hid _:=hb2;clear hsa hb2;refine afL ?_;intro O2 HP Sy B1;clear hp hn U_ hc;go_enter func141,ntmps141;go_wp2_with fail;refine Lh ?_;intro w1 y_ T' hblk L_;go_wp2_with fail;refine qm ?_;rintro e w2 ⟨⟨x,rfl,hxy⟩,hb2⟩;rw[Sy.o];simp only[Tm,XV];obtain⟨M_,P_,A_⟩:=Eh y_ hblk L_ hb2;obtain⟨u0,u1,u2,u3,u4,u5,uf⟩:=TL P_;clear hb2 hblk L_ hxy;go_wp2_with fail;refine pO ?_;intro W3 hW3 R_ hb1;clear hW3 u0 u1 u2 u3 u4 u5 uf M_ P_ A_;obtain⟨q0,q1,q2,q3,q4,q5,qf⟩:=TL R_;clear R_;go_wp2_with fail;refine(OB (s.extract 1 s.size) _ _ SE B2.o).mono ?_;rintro e w' ⟨rfl,rfl⟩;go_wp2
 go_region_with (go_at_call 55;refine(LC (s.extract 1 s.size) _ nw VH HA.o).mono ?_;rintro e w' ⟨rfl,rfl⟩)
 all_goals go_wp2
 all_goals
  refine ZQ (v:=.tuple #[.agg #[.int .u8 94,VI (U6 (bl (s.extract 1 s.size)):Nat),.string (s.extract 1 s.size),.string ⟨#[]⟩,.string ⟨#[]⟩,VI 0],.bool true]) JU rfl ⟨?_,?_⟩
  . rfl
  . exact(SQ hb1 UM _ _ _ _ _ _).drew
theorem iy (c:UInt8)(b:Bool)(w:World)(h:U8 c=b):
 Calls prog 158 #[.int .u8 c.toNat] w λe w'=>e=.returned (.bool b)/\w'=w:=by
 rw[<- h];exact Gm c w
theorem jY (s:ByteArray)(w:World)(hs:s.size<=120)(h1:1<=s.size)(hp:Va (bl s)=none)(hn:Vs (bl s)=none)(U_:selector (bl s)=false)
 (m m4 m2 m1:Int) (hm:Vk (bl s) 4=m) (hm4:Vk (bl (s.extract 1 s.size)) 4=m4) (hm2:Vk (bl (s.extract 1 s.size)) 2=m2) (hm1:Vk (bl (s.extract 1 s.size)) 1=m1) (An:s[0].toNat=61) (hc:True) (hm0:m<0) (h3:s.size=3) (hx2:((s.extract 0 2).toList==[61,115])=true) (hd:U8 ((bl s)[2]?.getD 0)=true):
 Calls prog 141 #[.string s] w λe w'=>e=.returned (.tuple #[Tm ⟨112,(((bl s)[2]?.getD 0).toNat-48:Nat),[],[],[]⟩ 0,.bool true])/\Below w.heap.size w w':=by
 refine wC ?_;intro _ _ D_;refine akI ?_;intro _ D_;refine uy ?_;intro _ D_;have Dm:2<s.size:=VH;have hg2:=Qw s 2 Dm;rw[hg2]at hd;have HG:Hid _:=hg2;have mS:Hid _:=hd;have Dm:s[2].toNat<256:=s[2].toNat_lt;obtain⟨hd1,hd1⟩:=Sj.1 hd;clear h3 hg2 hd An;refine zr2 ?_;intro hxs O2 HP Sy B1 HM Ml PB Q6 f_ Y' a_ PJ hmc;obtain⟨TX,T6⟩:=f_;obtain⟨Tr,Tw⟩:=Y';obtain⟨Ts,TC⟩:=a_;clear hp hn U_ hm hm4 hm2 hm1 hc;go_enter func141,ntmps141;go_wp2_with fail;refine Lh ?_;intro w1 y_ T' hblk L_;go_wp2_with fail;refine DR ?_;intro w2 hb1 x hxy M_ P_ A_ u0 u1 u2 u3 u4 u5 uf;clear hb1 hblk L_ hxy;go_wp2_with fail;refine pO ?_;intro W3 hW3 R_ hb1;clear hW3 u0 u1 u2 u3 u4 u5 uf M_ P_ A_;obtain⟨q0,q1,q2,q3,q4,q5,qf⟩:=TL R_;clear R_;go_wp2_with fail;refine Ip ?_;rintro e w' ⟨rfl,rfl⟩;go_wp2_with fail;refine GR ?_;rintro e w' ⟨rfl,rfl⟩;go_wp2_with fail;refine ED ?_;rintro e w' ⟨rfl,rfl⟩;go_wp2_with fail;refine DV ?_;rintro e w' ⟨rfl,rfl⟩;go_wp2_with fail;refine(iy s[2] _ _ mS.o).mono ?_;rintro e w' ⟨rfl,rfl⟩;go_wp2;refine ZQ (v:=.tuple #[.agg #[.int .u8 112,VI ((s[2].toNat:Int)-48),.string ⟨#[]⟩,.string ⟨#[]⟩,.string ⟨#[]⟩,VI 0],.bool true]) JU rfl ⟨?_,?_⟩
 . rw[HG.o];have e1:((s[2].toNat-48:Nat):Int)=(s[2].toNat:Int)-(48:Int):=VH;rw[e1];rfl
 . exact SQ hb1 UM _ _ _ _ _ _
theorem xP (s:ByteArray)(w:World)(hs:s.size<=120)(h1:1<=s.size)(hp:Va (bl s)=none)(hn:Vs (bl s)=none)(U_:selector (bl s)=false)
 (m m4 m2 m1:Int) (hm:Vk (bl s) 4=m) (hm4:Vk (bl (s.extract 1 s.size)) 4=m4) (hm2:Vk (bl (s.extract 1 s.size)) 2=m2) (hm1:Vk (bl (s.extract 1 s.size)) 1=m1) (An:s[0].toNat=61) (hc:True) (hm0:m<0) (h3:s.size=3) (hx2:((s.extract 0 2).toList==[61,115])=true) (hd:U8 ((bl s)[2]?.getD 0)=false):
 Calls prog 141 #[.string s] w λe w'=>e=.returned (.tuple #[Tm w0 0,.bool false])/\Below w.heap.size w w':=by
 refine wC ?_;intro _ _ D_;refine akI ?_;intro _ D_;refine uy ?_;intro _ D_;have Dm:2<s.size:=VH;have hg2:=Qw s 2 Dm;rw[hg2]at hd;have mS:Hid _:=hd;clear h3 hg2 hd An;refine zr2 ?_;intro hxs O2 HP Sy B1 HM Ml PB Q6 f_ Y' a_ PJ hmc;obtain⟨TX,T6⟩:=f_;obtain⟨Tr,Tw⟩:=Y';obtain⟨Ts,TC⟩:=a_;clear hp hn U_ hm hm4 hm2 hm1 hc;go_enter func141,ntmps141;go_wp2_with fail;refine Lh ?_;intro w1 y_ T' hblk L_;go_wp2_with fail;refine CP ?_;intro w1 hb1 x hxy M_ P_ A_ u0 u1 u2 u3 u4 u5 uf;clear hb1 hblk L_ hxy;go_wp2_with fail;refine pO ?_;intro W3 hW3 R_ hb1;clear hW3 u0 u1 u2 u3 u4 u5 uf M_ P_ A_;obtain⟨q0,q1,q2,q3,q4,q5,qf⟩:=TL R_;clear R_;go_wp2_with fail;refine Ip ?_;rintro e w' ⟨rfl,rfl⟩;go_wp2_with fail;refine GR ?_;rintro e w' ⟨rfl,rfl⟩;go_wp2_with fail;refine ED ?_;rintro e w' ⟨rfl,rfl⟩;go_wp2_with fail;refine DV ?_;rintro e w' ⟨rfl,rfl⟩;go_wp2_with fail;refine(iy s[2] _ _ mS.o).mono ?_;rintro e w' ⟨rfl,rfl⟩;go_wp2;refine ZQ (v:=.tuple #[.agg #[.int .u8 0,VI 0,.string ⟨#[]⟩,.string ⟨#[]⟩,.string ⟨#[]⟩,VI 0],.bool false]) JU rfl ⟨?_,?_⟩
 . rfl
 . exact SQ hb1 UM _ _ _ _ _ _
theorem mY (s:ByteArray)(h1:1<=s.size)(m:Nat)(h:¬(48<=s[0].toNat/\s[0].toNat<=57)):Vk (bl s) m=-1:=
 uV _ _ 0 s[0] (Si s 0 VH) (by rw[Y3];intro e;exact h (Sj.1 e))
theorem gG {s:ByteArray}{e:Ending}(h:rd (bl s)=none)(he:e=.returned (.tuple #[Tm w0 0,.bool false])):aeZ s e:=iD w0 false (by rw[h];rfl) he
theorem RF {s:ByteArray}{e:Ending}{x:W}(h:rd (bl s)=some x)(he:e=.returned (.tuple #[Tm x 0,.bool true])):aeZ s e:=iD x true (by rw[h];rfl) he
theorem wX (s:ByteArray)(h3:s.size=3):((s.extract 0 2).toList==[61,115])=decide ((bl s).take 2=[61,115]):=by
 rw[ZL,fK,Yf];simp
theorem abw (s:ByteArray)(w:World)(hs:s.size<=120)(h1:1<=s.size):
 Calls prog 141 #[.string s] w λe w'=>aeZ s e/\Below w.heap.size w w':=by
 have hf:first (bl s)=s[0].toNat:=by unfold first;rw[Qw s 0 VH]
 have hd:(bl s).drop 1=bl (s.extract 1 s.size):=by rw[N9]
 cases hp:Va (bl s) with
 | some x=>exact(kD s w hs x hp).mono λe w' h=>⟨RF (by unfold rd;rw[hp]) h.1,h.2⟩
 | none=>
  cases hn:Vs (bl s) with
  | some x=>exact(pz s w hs x hp hn).mono λe w' h=>⟨RF (by unfold rd;rw[hp,hn]) h.1,h.2⟩
  | none=>
   have hr:rd (bl s)=SY (bl s):=by unfold rd;rw[hp,hn]
   cases U_:selector (bl s) with
   | true=>exact(acO s w hs h1 hp hn U_ trivial).mono λe w' h=>⟨RF (by rw[hr];unfold SY;rw[ZU U_]) h.1,h.2⟩
   | false=>
    have hr2:rd (bl s)=Px (bl s):=by rw[hr];unfold SY;rw[ZX (by rw[U_];simp)]
    by_cases Kb:s[0].toNat=94/\selector (bl (s.extract 1 s.size))=true
    . exact(agH s w hs h1 hp hn U_ Kb.1 Kb.2).mono λe w' h=>⟨RF (by rw[hr2];unfold Px;rw[hd,hf,ZU Kb]) h.1,h.2⟩
    . have hr2:rd (bl s)=KZ (bl s):=by rw[hr2];unfold Px;rw[hd,hf,ZX Kb]
      by_cases hm0:0<=Vk (bl s) 4
      . have l8:s[0].toNat≠94:=λe=>by rw[mY s h1 4 VH]at hm0;omega
        exact(acr s w hs h1 hp hn U_ _ _ _ _ rfl rfl rfl rfl l8 hm0).mono λe w' h=>⟨RF (by rw[hr2];unfold KZ;rw[ZU hm0]) h.1,h.2⟩
      . have hr2:rd (bl s)=KJ (bl s):=by rw[hr2];unfold KZ;rw[ZX hm0]
        have hml:Vk (bl s) 4<0:=VH
        have h8:s[0].toNat≠61->LZ (bl s)=none/\(s.size=3->((s.extract 0 2).toList==[61,115])=false):=λhne=>by
         have ht:¬(bl s).take 2=[61,115]:=λe=>by
          have e1:(bl s)[0]?=some 61:=by
           have:=YV (λl=>l[0]?) e;simpa[List.getElem?_take]using this
          rw[Si s 0 VH]at e1;injection e1 with e1;exact hne (by rw[e1];rfl)
         refine⟨?_,λh3=>?_⟩
         . unfold LZ;rw[ZX (λh=>ht h.2.1)]
         . rw[wX s h3];simp[ht]
        by_cases h45:s[0].toNat=45
        . by_cases hx:0<=Vk (bl (s.extract 1 s.size)) 4
          . exact(adb s w hs h1 hp hn U_ _ _ _ _ rfl rfl rfl rfl h45 hml hx).mono λe w' h=>⟨RF (by rw[hr2];unfold KJ;rw[hd,hf,ZU ⟨h45,hx⟩]) h.1,h.2⟩
          . have hz:rd (bl s)=none:=by
             rw[hr2];unfold KJ;rw[hd,hf,ZX (λh=>hx h.2)];unfold Nz;rw[hf,ZX VH];unfold LH;rw[hf,ZX VH];exact ajh
            by_cases h3:s.size=3
            . exact(vS s w hs h1 hp hn U_ _ _ _ _ rfl rfl rfl rfl h45 hml VH h3 zt4).mono λe w' h=>fZ
            . exact(wI s w hs h1 hp hn U_ _ _ _ _ rfl rfl rfl rfl h45 hml VH h3).mono λe w' h=>fZ
        . have hr2:rd (bl s)=Nz (bl s):=by rw[hr2];unfold KJ;rw[hf,ZX (λh=>h45 h.1)]
          by_cases Ow:s[0].toNat=62
          . by_cases hx:0<=Vk (bl (s.extract 1 s.size)) 2
            . exact(aaC s w hs h1 hp hn U_ _ _ _ _ rfl rfl rfl rfl Ow hml hx).mono λe w' h=>⟨RF (by rw[hr2];unfold Nz;rw[hd,hf,ZU ⟨.inl Ow,hx⟩]) h.1,h.2⟩
            . have hz:rd (bl s)=none:=by
               exact al8
              by_cases h3:s.size=3
              . exact(wG s w hs h1 hp hn U_ _ _ _ _ rfl rfl rfl rfl Ow hml VH h3 zt4).mono λe w' h=>fZ
              . exact(wH s w hs h1 hp hn U_ _ _ _ _ rfl rfl rfl rfl Ow hml VH h3).mono λe w' h=>fZ
          . by_cases h63:s[0].toNat=63
            . by_cases hx:0<=Vk (bl (s.extract 1 s.size)) 2
              . exact(afe s w hs h1 hp hn U_ _ _ _ _ rfl rfl rfl rfl h63 hml hx).mono λe w' h=>⟨RF (by rw[hr2];unfold Nz;rw[hd,hf,ZU ⟨.inr h63,hx⟩]) h.1,h.2⟩
              . have hz:rd (bl s)=none:=by
                 exact al8
                by_cases h3:s.size=3
                . exact(xH s w hs h1 hp hn U_ _ _ _ _ rfl rfl rfl rfl h63 hml VH h3 zt4).mono λe w' h=>fZ
                . exact(wu s w hs h1 hp hn U_ _ _ _ _ rfl rfl rfl rfl h63 hml VH h3).mono λe w' h=>fZ
            . have hr2:rd (bl s)=LH (bl s):=by rw[hr2];unfold Nz;rw[hf,ZX VH]
              by_cases z8:s[0].toNat=97
              . by_cases hx:0<=Vk (bl (s.extract 1 s.size)) 1/\Vk (bl (s.extract 1 s.size)) 1<3
                . exact(aaR s w hs h1 hp hn U_ _ _ _ _ rfl rfl rfl rfl z8 hml hx.1 hx.2).mono λe w' h=>⟨RF (by rw[hr2];unfold LH;rw[hd,hf,ZU ⟨z8,hx⟩]) h.1,h.2⟩
                . have hz:rd (bl s)=none:=by
                   rw[hr2];unfold LH;rw[hd,hf,ZX (λh=>hx h.2)];exact ajh
                  by_cases h3:s.size=3
                  . exact(wS s w hs h1 hp hn U_ _ _ _ _ rfl rfl rfl rfl z8 hml VH h3 zt4).mono λe w' h=>fZ
                  . exact(xK s w hs h1 hp hn U_ _ _ _ _ rfl rfl rfl rfl z8 hml VH h3).mono λe w' h=>fZ
              . have hr2:rd (bl s)=Mc (bl s):=by rw[hr2];unfold LH;rw[hf,ZX (λh=>z8 h.1)]
                by_cases VC:s[0].toNat=115
                . by_cases hx:0<=Vk (bl (s.extract 1 s.size)) 1
                  . exact(aau s w hs h1 hp hn U_ _ _ _ _ rfl rfl rfl rfl VC hml hx).mono λe w' h=>⟨RF (by rw[hr2];unfold Mc;rw[hd,hf,ZU ⟨VC,hx⟩]) h.1,h.2⟩
                  . have hz:rd (bl s)=none:=by
                     rw[hr2];unfold Mc;rw[hd,hf,ZX (λh=>hx h.2)];exact(h8 VH).1
                    by_cases h3:s.size=3
                    . exact(Ah s w hs h1 hp hn U_ _ _ _ _ rfl rfl rfl rfl VC hml VH h3 zt4).mono λe w' h=>fZ
                    . exact(zZ s w hs h1 hp hn U_ _ _ _ _ rfl rfl rfl rfl VC hml VH h3).mono λe w' h=>fZ
                . have hr2:rd (bl s)=LZ (bl s):=by rw[hr2];unfold Mc;rw[hf,ZX (λh=>VC h.1)]
                  by_cases tp:s[0].toNat=94
                  . have hb2:selector (bl (s.extract 1 s.size))=false:=by
                     rw[Y3];exact λh=>Kb ⟨tp,h⟩
                    have hz:rd (bl s)=none:=by rw[hr2];exact(h8 VH).1
                    by_cases h3:s.size=3
                    . exact(wW s w hs h1 hp hn U_ _ _ _ _ rfl rfl rfl rfl tp hml hb2 h3 zt4).mono λe w' h=>fZ
                    . exact(vZ s w hs h1 hp hn U_ _ _ _ _ rfl rfl rfl rfl tp hml hb2 h3).mono λe w' h=>fZ
                  . by_cases h3:s.size=3
                    . cases hx2:((s.extract 0 2).toList==[61,115]) with
                      | false=>
                       have hz:rd (bl s)=none:=by
                        rw[hr2];unfold LZ;rw[ZX];rintro⟨_,h,_⟩;rw[wX s h3]at hx2;simp[h]at hx2
                       exact(EC s w hs h1 hp hn U_ _ _ _ _ rfl rfl rfl rfl tp h45 Ow h63 z8 VC trivial hml h3 hx2).mono λe w' h=>fZ
                      | true=>
                       have ht:(bl s).take 2=[61,115]:=by rw[wX s h3]at hx2;simpa using hx2
                       have BB:s[0].toNat=61:=by
                        have e1:(bl s)[0]?=some 61:=by
                         have:=YV (λl=>l[0]?) ht;simpa[List.getElem?_take]using this
                        rw[Si s 0 VH]at e1;injection e1 with e1;rw[e1];rfl
                       cases Hs:U8 ((bl s)[2]?.getD 0) with
                       | true=>exact(jY s w hs h1 hp hn U_ _ _ _ _ rfl rfl rfl rfl BB trivial hml h3 hx2 Hs).mono λe w' h=>⟨RF (by rw[hr2];unfold LZ;rw[ZU ⟨by rw[VB];exact h3,ht,Hs⟩]) h.1,h.2⟩
                       | false=>exact(xP s w hs h1 hp hn U_ _ _ _ _ rfl rfl rfl rfl BB trivial hml h3 hx2 Hs).mono λe w' h=>⟨gG (by rw[hr2];unfold LZ;rw[ZX];rintro⟨_,_,h⟩;rw[Hs]at h;cases h) h.1,h.2⟩
                    . have hz:rd (bl s)=none:=by
                       rw[hr2];unfold LZ;rw[ZX];rintro⟨h,_⟩;rw[VB]at h;exact h3 h
                      exact(EM s w hs h1 hp hn U_ _ _ _ _ rfl rfl rfl rfl tp h45 Ow h63 z8 VC trivial hml h3).mono λe w' h=>fZ
end Go.Proofs.Rz
