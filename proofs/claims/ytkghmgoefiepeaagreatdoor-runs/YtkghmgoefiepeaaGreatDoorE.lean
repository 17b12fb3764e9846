import Derived.Test.YtkghmgoefiepeaaGreatDoorC
set_option linter.all false
set_option maxHeartbeats 4000000
set_option maxRecDepth 100000
namespace Go.Proofs.Rz
open ChangeShapes WideShapes ChangeAt RowKit Kn Tryz
def G7 (s:ByteArray)(m:Nat)(n:Int)(w:World)(hs:s.size<=maxLen)(hm:m<=4)(h:Vk (bl s) m=n):
 Calls prog 157 #[.string s,VI m] w λe w'=>e=.returned (VI n)/\w'=w:=by
 rw[<- h];exact jE s m w hs hm
variable {w w1 : World}
def iU (hb1:Below (w.alloc (.cells #[.int .u8 0,VI 0,.string ⟨#[]⟩,.string ⟨#[]⟩,.string ⟨#[]⟩,VI 0] 188)).heap.size (w.alloc (.cells #[.int .u8 0,VI 0,.string ⟨#[]⟩,.string ⟨#[]⟩,.string ⟨#[]⟩,VI 0] 188)) w1):
 w.heap.size<w1.heap.size/\¬w.heap.size=w1.heap.size/\w1.heap[w.heap.size]?=some (.cells #[.int .u8 0,VI 0,.string ⟨#[]⟩,.string ⟨#[]⟩,.string ⟨#[]⟩,VI 0] 188)/\Below w.heap.size w w1:=by
 have hz1:=hb1.size;simp only[ZJ]at hz1;exact⟨VH,VH,(hb1.block _ Vy).trans (Z4 w _).1,((ZR _ _).alloc UM _).trans amZ⟩
variable {w2 : World}
def Eh (y_:w.heap.size<w1.heap.size)(hblk:w1.heap[w.heap.size]?=some (.cells #[.int .u8 0,VI 0,.string ⟨#[]⟩,.string ⟨#[]⟩,.string ⟨#[]⟩,VI 0] 188))(L_:Below w.heap.size w w1)
 (hb2:Below (w1.alloc (.cells #[.int .u8 0,VI 0,.string ⟨#[]⟩,.string ⟨#[]⟩,.string ⟨#[]⟩,VI 0] 188)).heap.size (w1.alloc (.cells #[.int .u8 0,VI 0,.string ⟨#[]⟩,.string ⟨#[]⟩,.string ⟨#[]⟩,VI 0] 188)) w2):
 w2.heap[w.heap.size]?=some (.cells #[.int .u8 0,VI 0,.string ⟨#[]⟩,.string ⟨#[]⟩,.string ⟨#[]⟩,VI 0] 188)/\w2.heap[w1.heap.size]?=some (.cells #[.int .u8 0,VI 0,.string ⟨#[]⟩,.string ⟨#[]⟩,.string ⟨#[]⟩,VI 0] 188)/\Below w.heap.size w w2:=
 ⟨(hb2.block _ Vo).trans ((ZV _ _ _ y_).trans hblk),(hb2.block _ Vy).trans (Z4 w1 _).1,L_.trans (((ZR _ _).alloc zt2 _).trans (hb2.mono Vo))⟩
def acr (s:ByteArray)(w:World)(hs:s.size<=120)(h1:1<=s.size)(hp:Va (bl s)=none)(hn:Vs (bl s)=none)(U_:selector (bl s)=false)
 (m m4 m2 m1:Int) (hm:Vk (bl s) 4=m) (hm4:Vk (bl (s.extract 1 s.size)) 4=m4) (hm2:Vk (bl (s.extract 1 s.size)) 2=m2) (hm1:Vk (bl (s.extract 1 s.size)) 1=m1) (hc:s[0].toNat≠94) (hm0:0<=m):
 Calls prog 141 #[.string s] w λe w'=>e=.returned (.tuple #[Tm ⟨110,m,[],[],[]⟩ 0,.bool true])/\Below w.heap.size w w':=by
 have D_:((s[0].toNat:Int)==94)=false:=Vo;refine afL ?_;intro O2 HP Sy B1;have HM:Hid _:=hm;refine zr7 ?_;intro PJ hmc TX T6 Tr Tw Ts TC;clear hp hn U_ hm hm4 hm2 hm1 hc;go_enter func141,ntmps141;go_wp2_with fail;refine Lh ?_;intro w1 y_ T' hblk L_;go_wp2_with fail;refine DR ?_;intro w2 hb1 x hxy M_ P_ A_ u0 u1 u2 u3 u4 u5 uf;clear hb1 hblk L_ hxy;go_wp2_with fail;refine pO ?_;intro W3 hW3 R_ hb1;clear hW3 u0 u1 u2 u3 u4 u5 uf M_ P_ A_;obtain⟨q0,q1,q2,q3,q4,q5,qf⟩:=TL R_;clear R_;go_wp2_with fail;refine Ip ?_;rintro e w' ⟨rfl,rfl⟩;go_wp2;refine ZQ (v:=.tuple #[.agg #[.int .u8 110,VI m,.string ⟨#[]⟩,.string ⟨#[]⟩,.string ⟨#[]⟩,VI 0],.bool true]) JU rfl ⟨?_,?_⟩
 . rfl
 . exact SQ hb1 UM _ _ _ _ _ _
def adb (s:ByteArray)(w:World)(hs:s.size<=120)(h1:1<=s.size)(hp:Va (bl s)=none)(hn:Vs (bl s)=none)(U_:selector (bl s)=false)
 (m m4 m2 m1:Int) (hm:Vk (bl s) 4=m) (hm4:Vk (bl (s.extract 1 s.size)) 4=m4) (hm2:Vk (bl (s.extract 1 s.size)) 2=m2) (hm1:Vk (bl (s.extract 1 s.size)) 1=m1) (hc:s[0].toNat=45) (hm0:m<0) (hx:0<=m4):
 Calls prog 141 #[.string s] w λe w'=>e=.returned (.tuple #[Tm ⟨110,(-m4),[],[],[]⟩ 0,.bool true])/\Below w.heap.size w w':=by
 refine adO ?_;intro _ D_;have hxs:(s.extract 1 s.size).size<=119:=Vo;refine afL ?_;intro O2 HP Sy B1;have HM:Hid _:=hm;have Ml:Hid _:=hm4;refine zr7 ?_;intro PJ hmc TX T6 Tr Tw Ts TC;clear hp hn U_ hm hm4 hm2 hm1 hc;go_enter func141,ntmps141;go_wp2_with fail;refine Lh ?_;intro w1 y_ T' hblk L_;go_wp2_with fail;refine DR ?_;intro w2 hb1 x hxy M_ P_ A_ u0 u1 u2 u3 u4 u5 uf;clear hb1 hblk L_ hxy;go_wp2_with fail;refine pO ?_;intro W3 hW3 R_ hb1;clear hW3 u0 u1 u2 u3 u4 u5 uf M_ P_ A_;obtain⟨q0,q1,q2,q3,q4,q5,qf⟩:=TL R_;clear R_;go_wp2_with fail;refine Ip ?_;rintro e w' ⟨rfl,rfl⟩;go_wp2_with fail;refine GR ?_;rintro e w' ⟨rfl,rfl⟩;go_wp2;refine ZQ (v:=.tuple #[.agg #[.int .u8 110,VI (-m4),.string ⟨#[]⟩,.string ⟨#[]⟩,.string ⟨#[]⟩,VI 0],.bool true]) JU rfl ⟨?_,?_⟩
 . rfl
 . exact SQ hb1 UM _ _ _ _ _ _
def aaC (s:ByteArray)(w:World)(hs:s.size<=120)(h1:1<=s.size)(hp:Va (bl s)=none)(hn:Vs (bl s)=none)(U_:selector (bl s)=false)
 (m m4 m2 m1:Int) (hm:Vk (bl s) 4=m) (hm4:Vk (bl (s.extract 1 s.size)) 4=m4) (hm2:Vk (bl (s.extract 1 s.size)) 2=m2) (hm1:Vk (bl (s.extract 1 s.size)) 1=m1) (hc:s[0].toNat=62) (hm0:m<0) (hx:0<=m2):
 Calls prog 141 #[.string s] w λe w'=>e=.returned (.tuple #[Tm ⟨s[0].toNat,m2,[],[],[]⟩ 0,.bool true])/\Below w.heap.size w w':=by
 refine abT ?_;intro _ D_;have D_:((s[0].toNat:Int)==62)=true:=Vo;exact zz9
def afe (s:ByteArray)(w:World)(hs:s.size<=120)(h1:1<=s.size)(hp:Va (bl s)=none)(hn:Vs (bl s)=none)(U_:selector (bl s)=false)
 (m m4 m2 m1:Int) (hm:Vk (bl s) 4=m) (hm4:Vk (bl (s.extract 1 s.size)) 4=m4) (hm2:Vk (bl (s.extract 1 s.size)) 2=m2) (hm1:Vk (bl (s.extract 1 s.size)) 1=m1) (hc:s[0].toNat=63) (hm0:m<0) (hx:0<=m2):
 Calls prog 141 #[.string s] w λe w'=>e=.returned (.tuple #[Tm ⟨s[0].toNat,m2,[],[],[]⟩ 0,.bool true])/\Below w.heap.size w w':=by
 refine wC ?_;intro _ _ D_;have D_:((s[0].toNat:Int)==63)=true:=Vo;exact zz9
def aaR (s:ByteArray)(w:World)(hs:s.size<=120)(h1:1<=s.size)(hp:Va (bl s)=none)(hn:Vs (bl s)=none)(U_:selector (bl s)=false)
 (m m4 m2 m1:Int) (hm:Vk (bl s) 4=m) (hm4:Vk (bl (s.extract 1 s.size)) 4=m4) (hm2:Vk (bl (s.extract 1 s.size)) 2=m2) (hm1:Vk (bl (s.extract 1 s.size)) 1=m1) (hc:s[0].toNat=97) (hm0:m<0) (hx:0<=m1) (hx3:m1<3):
 Calls prog 141 #[.string s] w λe w'=>e=.returned (.tuple #[Tm ⟨97,m1,[],[],[]⟩ 0,.bool true])/\Below w.heap.size w w':=by
 refine wC ?_;intro _ _ D_;refine abx ?_;intro _ D_;refine zr2 ?_;intro hxs O2 HP Sy B1 HM Ml PB Q6 f_ Y' a_ PJ hmc;obtain⟨TX,T6⟩:=f_;obtain⟨Tr,Tw⟩:=Y';obtain⟨Ts,TC⟩:=a_;clear hp hn U_ hm hm4 hm2 hm1 hc;go_enter func141,ntmps141;go_wp2_with fail;refine Lh ?_;intro w1 y_ T' hblk L_;go_wp2_with fail;refine DR ?_;intro w2 hb1 x hxy M_ P_ A_ u0 u1 u2 u3 u4 u5 uf;clear hb1 hblk L_ hxy;go_wp2_with fail;refine pO ?_;intro W3 hW3 R_ hb1;clear hW3 u0 u1 u2 u3 u4 u5 uf M_ P_ A_;obtain⟨q0,q1,q2,q3,q4,q5,qf⟩:=TL R_;clear R_;go_wp2_with fail;refine Ip ?_;rintro e w' ⟨rfl,rfl⟩;go_wp2_with fail;refine GR ?_;rintro e w' ⟨rfl,rfl⟩;go_wp2_with fail;refine ED ?_;rintro e w' ⟨rfl,rfl⟩;go_wp2_with fail;refine DV ?_;rintro e w' ⟨rfl,rfl⟩;go_wp2;refine ZQ (v:=.tuple #[.agg #[.int .u8 97,VI m1,.string ⟨#[]⟩,.string ⟨#[]⟩,.string ⟨#[]⟩,VI 0],.bool true]) JU rfl ⟨?_,?_⟩
 . rfl
 . exact SQ hb1 UM _ _ _ _ _ _
def aau (s:ByteArray)(w:World)(hs:s.size<=120)(h1:1<=s.size)(hp:Va (bl s)=none)(hn:Vs (bl s)=none)(U_:selector (bl s)=false)
 (m m4 m2 m1:Int) (hm:Vk (bl s) 4=m) (hm4:Vk (bl (s.extract 1 s.size)) 4=m4) (hm2:Vk (bl (s.extract 1 s.size)) 2=m2) (hm1:Vk (bl (s.extract 1 s.size)) 1=m1) (hc:s[0].toNat=115) (hm0:m<0) (hx:0<=m1):
 Calls prog 141 #[.string s] w λe w'=>e=.returned (.tuple #[Tm ⟨103,m1,[],[],[]⟩ 0,.bool true])/\Below w.heap.size w w':=by
 refine abg ?_;intro _ _ _ _ _ D_;refine zr2 ?_;intro hxs O2 HP Sy B1 HM Ml PB Q6 f_ Y' a_ PJ hmc;obtain⟨TX,T6⟩:=f_;obtain⟨Tr,Tw⟩:=Y';obtain⟨Ts,TC⟩:=a_;clear hp hn U_ hm hm4 hm2 hm1 hc;go_enter func141,ntmps141;go_wp2_with fail;refine Lh ?_;intro w1 y_ T' hblk L_;go_wp2_with fail;refine DR ?_;intro w2 hb1 x hxy M_ P_ A_ u0 u1 u2 u3 u4 u5 uf;clear hb1 hblk L_ hxy;go_wp2_with fail;refine pO ?_;intro W3 hW3 R_ hb1;clear hW3 u0 u1 u2 u3 u4 u5 uf M_ P_ A_;obtain⟨q0,q1,q2,q3,q4,q5,qf⟩:=TL R_;clear R_;go_wp2_with fail;refine Ip ?_;rintro e w' ⟨rfl,rfl⟩;go_wp2_with fail;refine GR ?_;rintro e w' ⟨rfl,rfl⟩;go_wp2_with fail;refine ED ?_;rintro e w' ⟨rfl,rfl⟩;go_wp2_with fail;refine DV ?_;rintro e w' ⟨rfl,rfl⟩;go_wp2;refine ZQ (v:=.tuple #[.agg #[.int .u8 103,VI m1,.string ⟨#[]⟩,.string ⟨#[]⟩,.string ⟨#[]⟩,VI 0],.bool true]) JU rfl ⟨?_,?_⟩
 . rfl
 . exact SQ hb1 UM _ _ _ _ _ _
def wW (s:ByteArray)(w:World)(hs:s.size<=120)(h1:1<=s.size)(hp:Va (bl s)=none)(hn:Vs (bl s)=none)(U_:selector (bl s)=false)
 (m m4 m2 m1:Int) (hm:Vk (bl s) 4=m) (hm4:Vk (bl (s.extract 1 s.size)) 4=m4) (hm2:Vk (bl (s.extract 1 s.size)) 2=m2) (hm1:Vk (bl (s.extract 1 s.size)) 1=m1) (hc:s[0].toNat=94) (hm0:m<0) (hb2:selector (bl (s.extract 1 s.size))=false) (h3:s.size=3) (hx2:((s.extract 0 2).toList==[61,115])=false):
 Calls prog 141 #[.string s] w λe w'=>e=.returned (.tuple #[Tm w0 0,.bool false])/\Below w.heap.size w w':=by
 have D_:((s[0].toNat:Int)==94)=true:=Vo;refine aoT ?_;intro _ _ _ D_;refine uy ?_;intro _ D_;have Dm:2<=s.size:=VH;clear h3;exact zz5
def vZ (s:ByteArray)(w:World)(hs:s.size<=120)(h1:1<=s.size)(hp:Va (bl s)=none)(hn:Vs (bl s)=none)(U_:selector (bl s)=false)
 (m m4 m2 m1:Int) (hm:Vk (bl s) 4=m) (hm4:Vk (bl (s.extract 1 s.size)) 4=m4) (hm2:Vk (bl (s.extract 1 s.size)) 2=m2) (hm1:Vk (bl (s.extract 1 s.size)) 1=m1) (hc:s[0].toNat=94) (hm0:m<0) (hb2:selector (bl (s.extract 1 s.size))=false) (h3:s.size≠3):
 Calls prog 141 #[.string s] w λe w'=>e=.returned (.tuple #[Tm w0 0,.bool false])/\Below w.heap.size w w':=by
 have D_:((s[0].toNat:Int)==94)=true:=Vo;refine aoT ?_;intro _ _ _ D_;refine aaX ?_;intro _ D_;exact zz5
def vS (s:ByteArray)(w:World)(hs:s.size<=120)(h1:1<=s.size)(hp:Va (bl s)=none)(hn:Vs (bl s)=none)(U_:selector (bl s)=false)
 (m m4 m2 m1:Int) (hm:Vk (bl s) 4=m) (hm4:Vk (bl (s.extract 1 s.size)) 4=m4) (hm2:Vk (bl (s.extract 1 s.size)) 2=m2) (hm1:Vk (bl (s.extract 1 s.size)) 1=m1) (hc:s[0].toNat=45) (hm0:m<0) (hx:m4<0) (h3:s.size=3) (hx2:((s.extract 0 2).toList==[61,115])=false):
 Calls prog 141 #[.string s] w λe w'=>e=.returned (.tuple #[Tm w0 0,.bool false])/\Below w.heap.size w w':=by
 refine adO ?_;intro _ D_;exact zz2
def wI (s:ByteArray)(w:World)(hs:s.size<=120)(h1:1<=s.size)(hp:Va (bl s)=none)(hn:Vs (bl s)=none)(U_:selector (bl s)=false)
 (m m4 m2 m1:Int) (hm:Vk (bl s) 4=m) (hm4:Vk (bl (s.extract 1 s.size)) 4=m4) (hm2:Vk (bl (s.extract 1 s.size)) 2=m2) (hm1:Vk (bl (s.extract 1 s.size)) 1=m1) (hc:s[0].toNat=45) (hm0:m<0) (hx:m4<0) (h3:s.size≠3):
 Calls prog 141 #[.string s] w λe w'=>e=.returned (.tuple #[Tm w0 0,.bool false])/\Below w.heap.size w w':=by
 refine adO ?_;intro _ D_;exact zz3
def zZ (s:ByteArray)(w:World)(hs:s.size<=120)(h1:1<=s.size)(hp:Va (bl s)=none)(hn:Vs (bl s)=none)(U_:selector (bl s)=false)
 (m m4 m2 m1:Int) (hm:Vk (bl s) 4=m) (hm4:Vk (bl (s.extract 1 s.size)) 4=m4) (hm2:Vk (bl (s.extract 1 s.size)) 2=m2) (hm1:Vk (bl (s.extract 1 s.size)) 1=m1) (hc:s[0].toNat=115) (hm0:m<0) (hx:m1<0) (h3:s.size≠3):
 Calls prog 141 #[.string s] w λe w'=>e=.returned (.tuple #[Tm w0 0,.bool false])/\Below w.heap.size w w':=by
 refine abg ?_;intro _ _ _ _ _ D_;have D_:((s.size:Int)==3)=false:=Vo;exact zz8
def EC (s:ByteArray)(w:World)(hs:s.size<=120)(h1:1<=s.size)(hp:Va (bl s)=none)(hn:Vs (bl s)=none)(U_:selector (bl s)=false)
 (m m4 m2 m1:Int) (hm:Vk (bl s) 4=m) (hm4:Vk (bl (s.extract 1 s.size)) 4=m4) (hm2:Vk (bl (s.extract 1 s.size)) 2=m2) (hm1:Vk (bl (s.extract 1 s.size)) 1=m1) (nL:s[0].toNat≠94) (gN:s[0].toNat≠45) (fX:s[0].toNat≠62) (lP:s[0].toNat≠63) (li:s[0].toNat≠97) (ub:s[0].toNat≠115) (hc:True) (hm0:m<0) (h3:s.size=3) (hx2:((s.extract 0 2).toList==[61,115])=false):
 Calls prog 141 #[.string s] w λe w'=>e=.returned (.tuple #[Tm w0 0,.bool false])/\Below w.heap.size w w':=by
 refine abT ?_;intro _ D_;exact zz2
def EM (s:ByteArray)(w:World)(hs:s.size<=120)(h1:1<=s.size)(hp:Va (bl s)=none)(hn:Vs (bl s)=none)(U_:selector (bl s)=false)
 (m m4 m2 m1:Int) (hm:Vk (bl s) 4=m) (hm4:Vk (bl (s.extract 1 s.size)) 4=m4) (hm2:Vk (bl (s.extract 1 s.size)) 2=m2) (hm1:Vk (bl (s.extract 1 s.size)) 1=m1) (nL:s[0].toNat≠94) (gN:s[0].toNat≠45) (fX:s[0].toNat≠62) (lP:s[0].toNat≠63) (li:s[0].toNat≠97) (ub:s[0].toNat≠115) (hc:True) (hm0:m<0) (h3:s.size≠3):
 Calls prog 141 #[.string s] w λe w'=>e=.returned (.tuple #[Tm w0 0,.bool false])/\Below w.heap.size w w':=by
 refine abT ?_;intro _ D_;exact zz3
end Go.Proofs.Rz
