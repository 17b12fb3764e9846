import Derived.Deep.LoopGhost
import Derived.StillTailTactics
import Derived.Deep.Cut
import Derived.Deep.RegionHeld3
import Derived.WalkKit
import Derived.ProofKit
import Derived.ChangeMaps5
import Derived.Below
import Derived.Carry
import Derived.OwnWalk
import Derived.ScopeJumps
import Derived.WalkMore
import Derived.LaidEql
import Derived.ChangeKeysEq
import Derived.Maps.RangeRun
set_option linter.all false
set_option maxHeartbeats 4000000
set_option maxRecDepth 100000
def Go.UQ {a:Prop}(h:a):Go.RowKit.Hid a:=h
abbrev Go.VJ (b o:Nat):Go.Addr:=⟨b,o,none⟩
abbrev Go.VG (b:Nat):Go.Value:=.pointer (some ⟨b,0,none⟩)
abbrev Go.VI (n:Int):Go.Value:=.int .i64 n
theorem Go.RowKit.Hid.o {p:Prop}(h:Go.RowKit.Hid p):p:=h
theorem Go.Shut.o {p:Prop}(h:Go.Shut p):p:=h.out
namespace Go
def Z9:=@Go.World.cell?_of_block
def Z8:=@List.getElem?_eq_getElem
def Z7:=@List.getElem?_eq_some_iff
def Z5:=@Array.getElem?_eq_some_iff
def Z4:=@Go.MapKept.heap_alloc
def ZY:=@Nat.lt_of_lt_of_le
def ZX:=@if_neg
def ZW:=@Go.RowKit.Below.heap_setCell
def ZV:=@Go.RowKit.Below.heap_alloc
def ZU:=@if_pos
def ZT:=@Go.wp_region_held_drew
def ZR:=@Go.RowKit.Below.refl
def ZQ:=@Go.bodyPost_ret
def ZP:=@List.getElem?_append_right
def ZO:=@Go.AllReadyH.cons
def ZN:=@Nat.le_refl
def ZM:=@List.mem_cons
def ZL:=@Go.ByteArray.toList_eq
def ZK:=@List.mem_of_getElem?
def ZJ:=@Go.World.size_alloc
def ZI:=@List.length_cons
def ZH:=@List.getElem?_append_left
def ZG:=@Option.map_some
def ZF:=@beq_eq_false_iff_ne
def ZE:=@Go.World.block_lt_of_cell?
def ZC:=@Nat.le_trans
def ZB:=@Bool.and_eq_true
def ZA:=@Go.AllReadyH.nil
def Zz:=@Array.getElem?_modify
def Zy:=@List.mem_map
def Zx:=@List.not_mem_nil
def Zw:=@List.length_append
def Zv:=@Go.wpAnyH_ready
def Zu:=@Go.run_underlying
def Zt:=@Classical.byContradiction
def Zr:=@Go.World.frozen?_of_block
def Zq:=@decide_eq_true_eq
def Zp:=@Int.toNat_natCast
def Zo:=@List.mem_cons_of_mem
def Zn:=@List.getElem?_drop
def Zm:=@Option.map_none
def Zl:=@List.getElem?_take_of_lt
def Zk:=@List.drop_eq_nil_of_le
def Zj:=@UInt8.toNat_inj
def Zi:=@List.isPrefixOf_iff_prefix
def Zh:=@List.length_drop
def Zg:=@if_false
def Zf:=@Array.getElem?_toList
def Ze:=@Go.wpAnyH_take
def Zd:=@Go.ChangeMaps.heap_setBlock_other
def Zc:=@List.map_cons
def Zb:=@Go.ChangeMaps.heap_setBlock_same
def Za:=@List.length_take
def Y9:=@List.all_eq_true
def Y8:=@List.getElem?_eq_none
def Y7:=@Option.some.inj
def Y6:=@if_true
def Y5:=@Go.MapKept.run_getObj_map
def Y4:=@List.getElem?_modify
def Y3:=@Bool.eq_false_iff
def Y2:=@Option.some.injEq
def Y1:=@List.append_assoc
def Y0:=@Nat.sub_self
def YZ:=@List.findIdx?_eq_some_iff_getElem
def YX:=@Option.getD_some
def YW:=@Go.World.ownsRow_nil
def YV:=@congrArg
def YU:=@Nat.zero_add
def YT:=@List.mem_append
def YS:=@List.nodup_cons
def YR:=@List.cons_append
def YQ:=@Go.info_parts
def YP:=@Int.eq_ofNat_of_zero_le
def YO:=@List.getElem?_map
def YN:=@Go.MapKept.run_setObj_map
def YM:=@List.drop_append
def YL:=@Prod.mk.injEq
def YK:=@Go.World.frozen?_setCell
def YJ:=@List.length_nil
def YI:=@List.findIdx?_eq_none_iff
def YH:=@beq_iff_eq
def YG:=@List.mem_iff_getElem?
def YF:=@List.getElem?_toArray
def YE:=@or_false
def YD:=@List.mem_range
def YC:=@List.cons.injEq
def YB:=@decide_eq_true_iff
def YA:=@Option.bind_some
def Yz:=@Array.size_modify
def Yy:=@Nat.zero_le
def Yx:=@List.drop_eq_getElem_cons
def Yw:=@List.take_append_drop
def Yv:=@List.take_length
def Yu:=@Nat.zero_mul
def Yt:=@Nat.add_zero
def Yr:=@Go.MapKept.run_checkKey
def Yq:=@List.eq_nil_of_length_eq_zero
def Yp:=@List.drop_append_of_le_length
def Yo:=@Go.World.cell?_setCell_far
def Yn:=@Array.getElem?_setIfInBounds
def Ym:=@Go.MapKept.run_findKey
def Yl:=@Option.map_eq_some_iff
def Yk:=@Nat.testBit_succ
def Yj:=@List.getElem?_take_eq_none
def Yi:=@List.filter_append
def Yh:=@Array.getElem?_append_left
def Yg:=@List.nil_append
def Yf:=@Bool.eq_iff_iff
def Ye:=@List.mem_of_mem_drop
def Yd:=@List.getElem?_of_mem
def Yc:=@List.take_add_one
def Yb:=@Nat.pow_le_pow_right
def Ya:=@List.mem_append_left
def X9:=@List.length_reverse
def X8:=@List.drop_succ_cons
def X7:=@Go.ChangeMaps.map_eraseIdx
def X6:=@List.countP_cons_of_pos
def X5:=@List.drop_zero
def X0:=@Option.bind_eq_some_iff
def XZ:=@List.mem_cons_self
def XY:=@List.set_cons_succ
def XW:=@Bool.false_eq_true
def XV:=@Option.isSome_none
def XU:=@List.take_of_length_le
def XT:=@Nat.min_eq_left
def XR:=@List.append_nil
def XQ:=@decide_eq_false
def XP:=@List.head?_cons
def XO:=@List.takeWhile_append_of_pos
def XM:=@List.mem_filter
def XL:=@Nat.testBit_and
def XK:=@Int.natCast_add
def XJ:=@Go.WideShapes.add_plain
def XI:=@List.length_filter_le
def XH:=@List.ext_getElem?
def XG:=@Array.getElem?_append_right
def XF:=@Go.DataW.trod_struct
def XE:=@List.setIfInBounds_toArray
def XD:=@List.takeWhile_cons_of_neg
def XC:=@Nat.pow_lt_pow_right
def XB:=@Go.IntKind.wrap_u32
def XA:=@Nat.lt_succ_self
def Xz:=@List.filter_cons
def Xy:=@Nat.testBit_zero
def Xx:=@Array.getElem?_eq_getElem
def Xw:=@List.mem_of_find?_eq_some
def Xv:=@Go.World.grownBy_alloc
def Xu:=@Nat.testBit_two_pow
def Xt:=@Array.length_toList
def Xr:=@List.find?_some
def Xq:=@List.take_left'
def Xp:=@List.find?_eq_none
def Xo:=@List.countP_cons_of_neg
def Xn:=@List.getElem?_cons_succ
def Xm:=@Go.wpList_step
def Xl:=@List.getElem_cons_zero
def Xk:=@List.getElem_cons_succ
def Xj:=@List.map_nil
def Xi:=@List.nodup_append
def Xh:=@decide_eq_true
def Xg:=@Nat.lt_trichotomy
def Xf:=@List.reverse_cons
def Xe:=@List.size_toArray
def Xd:=@Go.DataW.trod_string
def Xc:=@Go.DataW.trod_int
def Xb:=@List.eraseIdx_sublist
def W9:=@Or.inl
def WZ:=@Array.eq_empty_of_size_eq_zero
def WY:=@Bool.false_or
def WX:=@List.any_cons
def WW:=@List.getElem_toArray
def WV:=@Nat.eq_of_testBit_eq
def WU:=@Bool.or_eq_true
def WT:=@List.foldl_cons
def WS:=@Int.natCast_one
def WR:=@List.filter_eq_self
def WQ:=@List.getElem_of_mem
def WO:=@Go.World.ownsRow.alloc
def WM:=@List.set_cons_zero
def WL:=@Go.step_scope
def WJ:=@List.mem_singleton
def WI:=@List.eraseIdx_of_length_le
def WH:=@List.drop_take
def WG:=@Option.isSome_some
def WE:=@Nat.mod_two_eq_zero_or_one
def WC:=@List.findIdx?_cons
def WB:=@List.mem_or_eq_of_mem_set
def WA:=@List.getElem?_eq_none_iff
def Wy:=@List.foldl_append
def Wx:=@Go.wpList_append_own
def Wv:=@Go.run_storeCells_at
def Wu:=@List.getElem?_set
def Ws:=@Go.World.cells?_some
def Wq:=@Go.run_range_map
def Wp:=@Bool.true_and
def Wn:=@Nat.add_assoc
def Wj:=@Go.IntKind.wrap_i64
def Wh:=@Array.toList_inj
def V9:=@List.getElem_mem
def V8:=@List.any_eq_true
def V7:=@Option.getD_none
def V6:=@decide_eq_false_iff_not
def VZ:=@List.length_eq_zero_iff
def VY:=@Int.not_le
def VX:=@Go.run_entry_at
def VW:=@Nat.lt_trans
def VU:=@List.map_append
def VT:=@Go.World.var?_cell
def VR:=@Nat.le_succ
def VQ:=@List.drop_drop
def VP:=@Go.setRow_heap
def VO:=@Go.run_next_at
def VN:=@Go.run_make
def VL:=@Ne.symm
def VK:=@and_true
end Go
namespace Go
variable {p q:Prop}
def sH(h:p:=by simp at e):p:=h
def Ei(h:p:=by simp only;omega):p:=h
def VH(h:p:=by omega):p:=h
def pI(h:p:=by rw[e]):p:=h
def zb4(h:p:=by simp[World.setCell]):p:=h
def Vy(h:p:=by simp):p:=h
def zb6(h:p:=by rw[hs];simp):p:=h
def zb7(h:p:=by simp[U9]):p:=h
def uI(h:p:=by simp[TS]):p:=h
def PO(h:p:=by intro e;injection e with e1 e2;omega):p:=h
def Ez(h:p:=by rw[MK];decide):p:=h
def Vz(h:p:=by decide):p:=h
def akp(h:p:=by simp at hc;rw[<- hc];decide):p:=h
def bF(h:p:=by first|rfl|simp):p:=h
def jS(h:p:=by rw[HR.o];rfl):p:=h
def VE(h:p:=by kernel_rfl):p:=h
def lK(h:p:=by simp[go_sem]):p:=h
def EJ(h:p:=by show w.heap.size<W1.heap.size;omega):p:=h
def afu(h:p:=by have:=Wg.o _ e;omega):p:=h
def sK(h:p:=by first|rfl|trivial):p:=h
def Uu(h:p:=by go_num):p:=h
def wB(h:p:=by have:=(Nd.o.2 e).2;omega):p:=h
def ale(h:p:=by first|omega|(simp;omega)|assumption):p:=h
def anQ(h:p:=by simp[Instr.findNow,hk,Instr.sameNow,hs,h2];omega):p:=h
def aky(h:p:=by have:=hb.size;simp only[ZJ];omega):p:=h
def qP(h:p:=by unfold Addr.add;split<;>simp_all):p:=h
def adk(h:p:=by cases n<;>rfl):p:=h
def amb(h:p:=by obtain⟨es,c,h1,h2⟩:=h;exact⟨es,c,e.trans h1,h2⟩):p:=h
def JO(h:p:=by simp[ChangeMaps.setBlock]):p:=h
def ak2(h:p:=by simpa using YV List.length hl):p:=h
def Nv(h:p:=by simpa using h):p:=h
def G8(h:p:=by rw[VB];omega):p:=h
def aed(h:p:=by rw[Za];omega):p:=h
def Vo(h:p:=by simp;omega):p:=h
def SE(h:p:=by unfold maxLen;omega):p:=h
def aps(h:p:=by rw[hW3,aj2 T'];exact M_):p:=h
def apy(h:p:=by rw[hW3];exact SQ A_ zt2 _ _ _ _ _ _):p:=h
def JU(h:p:=by simp[results,results141,go_sem,q0,q1,q2,q3,q4,q5]):p:=h
def an6(h:p:=by rw[hg];exact Zj.1 (by rw[C'];rfl)):p:=h
def Hz(h:p:=by rw[VB];exact hlt):p:=h
def Sv(h:p:=by rw[e];rfl):p:=h
def Ey(h:p:=by simp only[ZJ];omega):p:=h
def afC(h:p:=by have:=h.size;simpa[World.setCell]using this):p:=h
def xM(h:p:=by simp[World.setCell];omega):p:=h
def xY(h:p:=by intro e';injection e' with e1 e2;omega):p:=h
def EO(h:p:=by cases e):p:=h
def vF(h:p:=by simp at h):p:=h
def an1(h:p:=by unfold Ph;rw[Fi.o.1,Fi.o.2.1];exact hok):p:=h
def vH(h:p:=by simp[Value.oneCell']):p:=h
def ql(h:p:=by unfold EG;rw[hx];rfl):p:=h
def ako(h:p:=by simpa[World.setCell]using h.lt):p:=h
def anV(h:p:=by have:=hg2.size;simp only[ZJ]at this;omega):p:=h
def UG(h:p:=by go_keep):p:=h
def Ar(h:p:=by rw[Wj];omega):p:=h
def Ox(h:p:=by assumption):p:=h
def abA(h:p:=by intro e;injection e with e1 e1;omega):p:=h
def aaD(h:p:=by rw[hlen];omega):p:=h
def MO(h:p:=by cases h):p:=h
def kR(h:p:=by rw[hs];simp[hy]):p:=h
def mO(h:p:=by simp[U9,hs]):p:=h
def apr(h:p:=by simp only[e,Zg];exact h4.same (hg.block _ h4.lt (λe'=>by injection e' with e';exact e e'))):p:=h
def aol(h:p:=by injection e with e;exact UA hc h.map e):p:=h
def aoU(h:p:=by simp only[World.setCell,Yz];exact hj.lt):p:=h
def anK(h:p:=by simp only[World.setCell,Yz];exact hml):p:=h
def aoA(h:p:=by rw[RN W0.drew sb l HN.o.1.drew.map,hl];rfl):p:=h
def adi(h:p:=by rw[<- hp];simp):p:=h
def amu(h:p:=by rw[<- hk];simp):p:=h
def afc(h:p:=by show w.heap.size<=w.heap.size+1+1;omega):p:=h
def agL(h:p:=by simp[World.setRow]):p:=h
def oV(h:p:=by simp[Mm.rows]):p:=h
def alW(h:p:=by unfold World.iterSeen;rw[hit]):p:=h
def akT(h:p:=by simpa using hc):p:=h
def GL(h:p:=by simp[List.isPrefixOf]):p:=h
def afp(h:p:=by rw[e]at h1;simp at h1):p:=h
def akU(h:p:=by rw[YM,Zk (by omega),show nm.length+1-nm.length=1 from by omega];rfl):p:=h
def afd(h:p:=by simp;rintro rfl;revert hc;decide):p:=h
def al7(h:p:=by simp at hy;rw[<- hy,Y3];intro hs;simp[isSmall]at hs;omega):p:=h
def akE(h:p:=by rw[<- h.2];simp;omega):p:=h
def agw(h:p:=by have:=hr1 x;omega):p:=h
def aml(h:p:=by rcases e with e|e;omega;have:=HN.o.2.2 _ e;omega):p:=h
def akt(h:p:=by rw[RN W0.drew sb l L0.o.1.drew.map,hl];rfl):p:=h
def apO(h:p:=by rw[hl]at e;have:=PL e;subst this;exact h):p:=h
def ak8(h:p:=by rw[<- e];exact .inr x9):p:=h
def agG(h:p:=by rw[h.len];exact hc):p:=h
def eP(h:p:=by rw[h.len];omega):p:=h
def agI(h:p:=by rw[<- HN.o];exact hjn):p:=h
def aeV(h:p:=by rw[<- HN.o];omega):p:=h
def alx(h:p:=by have:=ho.1 e;cases this):p:=h
def akN(h:p:=by rw[h2,Option.map_map];rfl):p:=h
def adY(h:p:=by rw[<- ho.len];exact hc):p:=h
def aot(h:p:=by unfold Im.copy;rw[hcl,y'];simp only;rw[h.rG Vn]):p:=h
def xq(h:p:=by rw[<- hlen];exact hd):p:=h
def al9(h:p:=by unfold Ua;rw[hcl];exact⟨Vn,by rw[ZU rfl]⟩):p:=h
def amm(h:p:=by rw[<- hr];unfold Im.nP;rw[ht,ZU rfl,hi,hx];simp only;rw[hk];rfl):p:=h
def acn(h:p:=by rw[hW1];simp):p:=h
def aj1(h:p:=by rw[<- e];exact .inr (.inr (.inl hk))):p:=h
def ani(h:p:=by rw[hW1];exact below2 _ _ _):p:=h
def apB(h:p:=by rw[hW1];exact VD (by intro e;injection e with e1 e2;omega)):p:=h
def abp(h:p:=by rw[hW1];simp[World.setCell]):p:=h
def anI(h:p:=by show w.heap.size<w4.heap.size;omega):p:=h
def zn(h:p:=by rw[HK.o];rfl):p:=h
def JK(h:p:=by simp[results,results155,go_sem]<;>rfl):p:=h
def jv(h:p:=by rw[hW1,hzz];exact(Z4 _ _).1):p:=h
def abJ(h:p:=by rw[hW1,hzz];exact set2 LO):p:=h
def ac1(h:p:=by show w.heap.size<W3.heap.size;omega):p:=h
def ajP(h:p:=by rw[hW1];exact((Vt.refl _ (λk=>k=z)).setCell _ _ (λ_=>rfl)).setCell _ _ (λ_=>rfl)):p:=h
def ag8(h:p:=by have:=hfw k e;omega):p:=h
def aoP(h:p:=by rw[hW1,hzz];exact((Vt.refl _ (λk=>k=W1.heap.size)).setCell _ _ (λ_=>rfl)).setCell _ _ (λ_=>rfl)):p:=h
def aoC(h:p:=by rw[e];exact⟨by have:=HH.o.Qj.Ut.size;omega,Rp,λe'=>by have:=(HH.o.lo z e').2.1;omega,λe'=>by have:=(HH.o.dead z e').2.1;omega⟩):p:=h
def fQ(h:p:=by rw[hW1];exact(ZR _ _).alloc UM _):p:=h
def Pq(h:p:=by rw[V_];rfl):p:=h
def amO(h:p:=by have:=(HH.o.dead z e').2.1;omega):p:=h
def aoz(h:p:=by have:=(HH.o.lo z e').2.1;omega):p:=h
def amh(h:p:=by have:=HH.o.Qj.Ut.size;omega):p:=h
def pX(h:p:=by unfold VA;simp[hk]):p:=h
def JD(h:p:=by unfold VA;simp[hk,hst]):p:=h
def adz(h:p:=by unfold Kn.wrap64 Go.RowKit.wrap64;exact Wj _):p:=h
def jh(h:p:=by unfold VA;simp[hk,hst,ho]):p:=h
def abf(h:p:=by rw[hW1];exact(Z4 _ _).1):p:=h
def Ea(h:p:=by simp only[ZI];omega):p:=h
def iq(h:p:=by rw[<- e];exact B4):p:=h
def ahZ(h:p:=by show w.heap.size<w2.heap.size;omega):p:=h
def ahU(h:p:=by rw[hV0];exact(ZR _ _).alloc UM _):p:=h
def apb(h:p:=by rw[hV0,t_];exact(Z4 _ _).1):p:=h
def am3(h:p:=by rw[t_];exact hc2.size):p:=h
def ajT(h:p:=by rw[SW];exact(ZR _ _).alloc UM _):p:=h
def amn(h:p:=by rw[SW,u_];exact(Z4 _ _).1):p:=h
def amR(h:p:=by rw[u_];exact hc3.size):p:=h
def anf(h:p:=by rw[hV0,u_];exact(Z4 _ _).1):p:=h
def aob(h:p:=by rw[u_];exact hc2.size):p:=h
def al4(h:p:=by rw[SW,t_];exact(Z4 _ _).1):p:=h
def aok(h:p:=by rw[t_];exact hc3.size):p:=h
def air(h:p:=by rw[hV2];exact(ZR _ _).alloc UM _):p:=h
def amD(h:p:=by rw[hV2,t_];exact(Z4 _ _).1):p:=h
def amE(h:p:=by rw[hV2,u_];exact(Z4 _ _).1):p:=h
def zH(h:p:=by simp[U9]at hro;show f.st.length<16;omega):p:=h
def QW(h:p:=by simp[U9]at hst;omega):p:=h
def aik(h:p:=by rw[e];have:=h3.lo fb (by simp);exact⟨this.1,this.2.1,this.2.2,h3.LY.1.raw.Vb⟩):p:=h
def aiu(h:p:=by simp only[ZI]at rS ⊢;omega):p:=h
def aa6(h:p:=by have:=HZ.o.2.2.1;omega):p:=h
def ahk(h:p:=by have h1:=hsz.1;have h11:=hsz.2;simp only[YJ]at h11;omega):p:=h
def qN(h:p:=by rw[e]at hv;cases hv):p:=h
def fM(h:p:=by have:=HH.o.lt;omega):p:=h
def ag6(h:p:=by simp[results,results108,go_sem,z0,z1,z2,z3,z4,z5]):p:=h
def ai0(h:p:=by simp[results,results107,go_sem,z0,z1,z2,z3,z4,z5]):p:=h
def aia(h:p:=by simp only[ZJ];first|omega|(show w.heap.size+1<=wr.heap.size+1;omega)):p:=h
def ah7(h:p:=by rw[Wg.o];exact Qu.snoc HY.o.2 _ _ HI.o.2.1):p:=h
def aie(h:p:=by rw[Wg.o,Zw,<- Db.o];exact D1.o):p:=h
def aeD(h:p:=by rw[hb,hgl]at e;exact hne e.symm):p:=h
def ac4(h:p:=by rw[hz];exact ZN _):p:=h
def ajy(h:p:=by rw[hW];exact ZW W _ v k yV):p:=h
def Oa(h:p:=by rw[hK]):p:=h
def agU(h:p:=by unfold Im.drop;rw[hc];simp only;rw[lq hk,hw]):p:=h
def aoY(h:p:=by first|omega|(have:=YV List.length hst;simp at this;omega)):p:=h
def sJ(h:p:=by have:=HL.o.2.2;omega):p:=h
def ahq(h:p:=by rw[X9,Za,XT HL.o.1]):p:=h
def ajp(h:p:=by rw[X9,Za,XT HL.o.1];exact HI.o.2.2.2.2.2):p:=h
def aiL(h:p:=by simp only[Zh];have:=HL.o.2.1;omega):p:=h
def ajx(h:p:=by rw[show N-g=N-(g+1)+1 from by omega];exact oY):p:=h
def gZ(h:p:=by rw[Wg.o];exact C'):p:=h
def yO(h:p:=by intro e;injection e with e;exact Te e):p:=h
def ahM(h:p:=by have:=HY.o.2.2.2;omega):p:=h
def JB(h:p:=by simp[VA,he]):p:=h
def amB(h:p:=by rw[SU];exact(ZW _ _ _ _ yV).trans (ZW _ _ _ _ yV)):p:=h
def anM(h:p:=by rw[hK2];exact hs2.trans (Vu.below hs2.rk (ZR _ _).drew)):p:=h
def aos(h:p:=by rw[hK2];exact hs2.trans (Vu.below hs2.rk (UF _ _).drew)):p:=h
def aiM(h:p:=by first|(cases e;done)|(have h2:=OS.o;simpa using h2)):p:=h
def iQ(h:p:=by rw[HX.o.2.2.2.1];exact HI.o.2.2.2.2):p:=h
def an5(h:p:=by rw[S1];exact af o):p:=h
def ama(h:p:=by rw[<- hr0,hrun];rfl):p:=h
def alX(h:p:=by rw[<- hr0,hrun]):p:=h
def agY(h:p:=by rw[QK (QK Wo 0 _) 1 _];rfl):p:=h
def amY(h:p:=by rw[HX.o.2.2.2.2.2.2];exact HH.o.2.rk.QF (by rw[HX.o.2.2.1];exact ZN _)):p:=h
def aof(h:p:=by rw[HX.o.2.2.1];exact ZN _):p:=h
def jk(h:p:=by have:=h.zu;omega):p:=h
def agX(h:p:=by rw[<- LA];exact DB):p:=h
def ad8(h:p:=by simp[results,results156,go_sem]):p:=h
def acX(h:p:=by rw[MY];simp):p:=h
def ad1(h:p:=by rw[<- HP.o,<- hsp,N9]):p:=h
def amC(h:p:=by rw[<- VB,e0];exact hl0):p:=h
def an3(h:p:=by rw[<- VB,e1];exact Rv):p:=h
def alU(h:p:=by have:=hb.size;simp only[ZJ]at this;omega):p:=h
def aoh(h:p:=by simp only[ZJ]at hg;omega):p:=h
def AY(h:p:=by simp[results,results156,go_sem,r0,r1,r2,r3,r4,r5]):p:=h
end Go
namespace Go
variable {p q:Prop}
def zt0(h:p:=by exact⟨by simp[kinds],Ei,Ei,λe=>sH,λe=>sH⟩):p:=h
def KP(h:p:=by exact⟨rfl,rfl⟩):p:=h
def zt2(h:p:=by exact Nat.le_of_lt y_):p:=h
def UM(h:p:=by exact ZN _):p:=h
def zt4(h:p:=by exact(h8 VH).2 h3):p:=h
def fZ(h:p:=by exact⟨gG hz h.1,h.2⟩):p:=h
def zt6(h:p:=by exact⟨rfl,(ZR _ _).alloc (ZN _) _⟩):p:=h
def zt7(h:p:=by exact(ZR _ _).alloc (ZN _) _):p:=h
def Vx(h:p:=by exact⟨_,rfl⟩):p:=h
def zt9(h:p:=by exact⟨0,rfl,VH,λj h=>VH⟩):p:=h
def agB(h:p:=by exact .inl (.inr ⟨rfl,VH⟩)):p:=h
def vJ(h:p:=by exact .inr (.inl e)):p:=h
def apu(h:p:=by exact .inr (.inr e)):p:=h
def akJ(h:p:=by exact λk hk=>by injection hk with hk;omega):p:=h
def akS(h:p:=by exact λe=>by injection e with e;omega):p:=h
def NP(h:p:=by exact .inl rfl):p:=h
def nO(h:p:=by exact Yy _):p:=h
def afa(h:p:=by exact⟨rfl,rfl,rfl,zb4,λk hk hne=>ZW _ _ _ _ (by intro e;exact hne pI)⟩):p:=h
def uq(h:p:=by exact⟨rfl,rfl,rfl,ZN _,λ_ _=>rfl⟩):p:=h
def apz(h:p:=by exact show 0<W2.drew.heap.size from tv):p:=h
def apt(h:p:=by exact(oE.o.below hge hi1.o.below) kk t l sd jp st pZ.o):p:=h
def akX(h:p:=by exact HP.o _ (by rw[x8.o];simp)):p:=h
def Nh(h:p:=by exact λ_ _ _ h=>h):p:=h
def Gu(h:p:=by exact Or.inr ⟨by rfl,rfl⟩):p:=h
def aj8(h:p:=by exact ZV _ _ _ Vy):p:=h
def apn(h:p:=by exact⟨rfl,VH⟩):p:=h
def EH(h:p:=by exact hno i x):p:=h
def NU(h:p:=by exact⟨h,Ext.refl m⟩):p:=h
def LW(h:p:=by exact Ext.refl m):p:=h
def akf(h:p:=by exact λy hy=>hf.st y (Ye hy)):p:=h
def alJ(h:p:=by exact hf.st to (Ye zb6)):p:=h
def agt(h:p:=by exact λv hv=>hf.st v (List.mem_of_mem_take (List.mem_reverse.1 hv))):p:=h
def JQ(h:p:=by exact .inr rfl):p:=h
def apW(h:p:=by exact λy hy=>(hf.st y hy).ext hb.2):p:=h
def apN(h:p:=by exact a1 hb.2 uI zb7 (λy hy=>(hf.st y hy).ext hb.2)):p:=h
def wK(h:p:=by exact⟨_,_,hm⟩):p:=h
def EZ(h:p:=by exact λh=>h):p:=h
def aap(h:p:=by exact λ_ _ _ _ _ h=>h.elim):p:=h
def Dx(h:p:=by exact λ_=>.inl rfl):p:=h
def anL(h:p:=by exact(ho _ _ _ _ VH).trans (h.c1 j hj)):p:=h
def amj(h:p:=by exact((ho _ _ _ _ VH).trans (ho _ _ _ _ VH)).trans (h.c2 j hj)):p:=h
def aoM(h:p:=by exact(((ho _ _ _ _ VH).trans (ho _ _ _ _ VH)).trans (ho _ _ _ _ VH)).trans (h.c3 j hj)):p:=h
def alb(h:p:=by exact(VD PO).trans z1):p:=h
def amZ(h:p:=by exact hb1.mono Vy):p:=h
def Qi(h:p:=by exact λk _ e=>e):p:=h
def ao2(h:p:=by exact⟨p,s,hp,.inl rfl⟩):p:=h
def lF(h:p:=by exact λk _ e=>.inr e):p:=h
def apV(h:p:=by exact⟨p,hp,rfl⟩):p:=h
def akj(h:p:=by exact left_shrinks es seen en hen):p:=h
def aK(h:p:=by exact λk hk e=>VH):p:=h
def alj(h:p:=by exact⟨Vt.of_below hb3 _,(hb3.block _ tG).trans i1⟩):p:=h
def mF(h:p:=by exact⟨VH,VH⟩):p:=h
def apQ(h:p:=by exact .inr (.inr (.inr (.inr (.inr (.inr (.inr (.inr (.inl ⟨r,hd,rfl,by rw[<- h,e];rfl⟩))))))))):p:=h
def alc(h:p:=by exact .inr (.inr (.inr (.inr (.inr (.inr (.inr (.inr (.inr (.inl ⟨r,hd,rfl,by rw[<- h,e];rfl⟩)))))))))):p:=h
def sV(h:p:=by exact λh=>absurd h.1 Ez):p:=h
def aph(h:p:=by exact λh=>by have:=h.1;rw[MK]at this;revert this;decide):p:=h
def oG(h:p:=by exact .inr (.inl rfl)):p:=h
def aaW(h:p:=by exact aJ hu):p:=h
def ao7(h:p:=by exact h0 _ Vz):p:=h
def an0(h:p:=by exact .inr (λc hc=>akp)):p:=h
def apF(h:p:=by exact .inr (.inr (.inr (.inr (.inr (.inr (.inr (.inr (.inl ⟨d,⟨h1,hm,hd⟩,rfl,rfl⟩))))))))):p:=h
def apR(h:p:=by exact⟨d,⟨h1,hm,hd⟩,rfl,rfl⟩):p:=h
def ak9(h:p:=by exact .inr (.inr (.inr (.inr (.inr (.inr (.inr (.inr (.inr (.inl ⟨d,⟨h1,hm,hd⟩,rfl,rfl⟩)))))))))):p:=h
def aeu(h:p:=by exact Oy h):p:=h
def alK(h:p:=by exact λn h0 h1=>by rw[XB];omega):p:=h
def alz(h:p:=by exact((ZR _ W).alloc (ZN _) _).trans (hb1.mono Vy)):p:=h
def agl(h:p:=by exact⟨bF,HB.o⟩):p:=h
def jJ(h:p:=by exact λk _ e=>.inl e):p:=h
def lT(h:p:=by exact⟨p,s,hps,.inl e⟩):p:=h
def Ji(h:p:=by exact λ_ _=>rfl):p:=h
def tN(h:p:=by exact .inl e.symm):p:=h
def aj3(h:p:=by exact .inr ⟨s,by subst e;exact hs⟩):p:=h
def EP(h:p:=by exact .inr (.inr (.inl e))):p:=h
def aeg(h:p:=by exact .inr (.inr (.inr e))):p:=h
def x9(h:p:=by exact .inr (.inr hk)):p:=h
def akH(h:p:=by exact λe=>Z2 (by rw[<- e];exact hj)):p:=h
def amr(h:p:=by exact⟨1,k,rfl,.inl ⟨k,hkn,rfl,.inl (HA.o.2 VH),G'.o,λ_=>rfl,λh=>absurd (HA.o.2 VH) h⟩,ZR _ _⟩):p:=h
def ala(h:p:=by exact hb1.block _ HM.o.lt):p:=h
def alD(h:p:=by exact .inl ⟨j,x,rfl,HX.o,rfl,rfl⟩):p:=h
def vg(h:p:=by exact⟨rfl,rfl,rfl⟩):p:=h
def adf(h:p:=by exact .inr (.inr (.inr (.inl e)))):p:=h
def mM(h:p:=by exact .inr (.inr (.inr (.inr (.inl e))))):p:=h
def yg(h:p:=by exact⟨hk,rfl⟩):p:=h
def JR(h:p:=by exact λh=>e h.symm):p:=h
def aga(h:p:=by exact λs=>h.ap.yQ c s hc):p:=h
def dY(h:p:=by exact λk hg e=>h.gl k e hg):p:=h
def Ou(h:p:=by exact⟨rfl,K,HS.o⟩):p:=h
def aoN(h:p:=by exact .inr (.inr (.inl (.inr (.inr (.inl e)))))):p:=h
def aaN(h:p:=by exact .inr (.inr (.inr (.inr (.inr e))))):p:=h
def agD(h:p:=by exact⟨h.ap.Bc,h.ap.Bo,h.ap.zF,h.ap.IQ,h.ap.yQ,h.ap.DU⟩):p:=h
def Dv(h:p:=by exact⟨n.toNat,VH⟩):p:=h
def agc(h:p:=by exact fo _ _ _ _ VH):p:=h
def alR(h:p:=by exact⟨rfl,(ZR _ w).alloc (ZN _) _⟩):p:=h
def akQ(h:p:=by exact(Vt.refl w _).setCell _ _ (λ_=>.inl rfl)):p:=h
def akC(h:p:=by exact .inr (.inl ⟨p,s,hp,.inl rfl⟩)):p:=h
def akF(h:p:=by exact λe w' ⟨h1,h2⟩=>⟨.only,h1,trivial,B3 _,λq hq=>(by cases hq),Vt.of_below h2 _⟩):p:=h
def aj9(h:p:=by exact(VD PO).trans f1):p:=h
def qY(h:p:=by exact⟨by rw[HN.o];rfl,rfl⟩):p:=h
def alh(h:p:=by exact⟨by rw[HB.o];rfl,HH.o.drewN _⟩):p:=h
def aar(h:p:=by exact⟨jS,HB.o⟩):p:=h
def JH(h:p:=by exact⟨rfl,((ZR _ _).alloc (ZN _) _)⟩):p:=h
def E8(h:p:=by exact λW=>VE):p:=h
def FI(h:p:=by exact λa W=>lK):p:=h
def fU(h:p:=by exact Zo _ hg):p:=h
def Po(h:p:=by exact XZ ..):p:=h
def ig(h:p:=by exact Zo _ (Zy.2 ⟨p,hp,rfl⟩)):p:=h
def qM(h:p:=by exact λk e=>by rw[e];exact⟨hlo.1,hlo.2.2⟩):p:=h
def DL(h:p:=by exact λk hk=>h0.lt hk):p:=h
def aeb(h:p:=by exact⟨(h.lo k hk).1,ZY (h.lo k hk).2.1 hch.size,(h.lo k hk).2.2⟩):p:=h
def iV(h:p:=by exact λ_ hk=>⟨hk,rfl⟩):p:=h
def aoL(h:p:=by exact Zy.2 ⟨p,hp,rfl⟩):p:=h
def ac0(h:p:=by exact Zy.2 ⟨p,hp,e⟩):p:=h
def ai6(h:p:=by exact hch.block k (h.dead k hk).2.1 e):p:=h
def qX(h:p:=by exact(Vt.refl W1 _).drew.then hc3 (λk _ e=>e)):p:=h
def fD(h:p:=by exact hbk _ (ZN _) EJ):p:=h
def jl(h:p:=by exact λe=>by have:=hfw _ e;omega):p:=h
def ajS(h:p:=by exact⟨hst.b,hst.cb,hst.md⟩):p:=h
def aci(h:p:=by exact Vt.of_below hB1 (λ_=>False)):p:=h
def Js(h:p:=by exact λ_ _ e=>e.elim):p:=h
def yG(h:p:=by exact B.sg.LY.1.raw.same rfl):p:=h
def qZ(h:p:=by exact hc3.block _ l1 HB.o.n1):p:=h
def iw(h:p:=by exact hc3.block _ l3 HB.o.n2):p:=h
def iY(h:p:=by exact hc2.block _ l1 HB.o.n1):p:=h
def ahs(h:p:=by exact⟨rfl,rfl,K,HB.o.gave h0 hc2⟩):p:=h
def iL(h:p:=by exact hc2.block _ xF vi):p:=h
def uY(h:p:=by exact hc3.block _ lo Te):p:=h
def ail(h:p:=by exact hk4 _ A6 (by show w.heap.size<=w2.heap.size;omega)):p:=h
def aiQ(h:p:=by exact λe=>by have:=Wg.o _ e;simp only at this;omega):p:=h
def ape(h:p:=by exact Vt.of_below j_ (λ_=>False)):p:=h
def amG(h:p:=by exact j_.block fb SF.Vb.lt):p:=h
def aiT(h:p:=by exact Vt.of_below hB4 (λ_=>False)):p:=h
def ai9(h:p:=by exact hB4.block fb T5.Vb.lt):p:=h
def amJ(h:p:=by exact Vt.of_below hB2 (λ_=>False)):p:=h
def amM(h:p:=by exact hB2.block fb LL.Vb.lt):p:=h
def ane(h:p:=by exact hcc.block _ l2 HB.o.n1):p:=h
def aoF(h:p:=by exact hcc.block _ l3 HB.o.n1):p:=h
def fV(h:p:=by exact λe=>by simp only at e;omega):p:=h
def aaY(h:p:=by exact λe=>afu):p:=h
def Jw(h:p:=by exact λ_ _ _ h=>akO Vz h):p:=h
def IB(h:p:=by exact VR _):p:=h
def Oc(h:p:=by exact⟨jS,hb.alloc VH _⟩):p:=h
def zq(h:p:=by exact HH.o.alloc _):p:=h
def aeF(h:p:=by exact λk e=>hoth k (key _ _ (h.lc k e) Vy)):p:=h
def iH(h:p:=by exact λk e=>⟨e,hoth k (key _ _ e Vy)⟩):p:=h
def adE(h:p:=by exact λk e=>hoth k (key _ _ (h.lo k e) Vy)):p:=h
def fB(h:p:=by exact⟨(hoth _ (key _ _ h2 Vy)).trans h1,h2⟩):p:=h
def acJ(h:p:=by exact λ_=>uK hgl Vy Vy):p:=h
def yV(h:p:=by exact λx=>e x):p:=h
def acR(h:p:=by exact⟨rfl,pW HB.o (ZN _) _ _⟩):p:=h
def O5(h:p:=by exact⟨rfl,HR.o⟩):p:=h
def adS(h:p:=by exact⟨j+1,a,Uu,rfl,VH,VH,HR.o,sK⟩):p:=h
def adQ(h:p:=by exact⟨hk,hen⟩):p:=h
def SH(h:p:=by exact⟨hF,hO,hb⟩):p:=h
def aoy(h:p:=by exact UF _ (.cells #[.bool false,VI bn] 79)):p:=h
def aeh(h:p:=by exact UF w4 (.cells #[.bool v.obj,VI v.n] 79)):p:=h
def aoR(h:p:=by exact UZ.pre HF.o.run hw):p:=h
def jg(h:p:=by exact HH.o.QF (VR _)):p:=h
def iJ(h:p:=by exact ZV _ _ _ (by rw[UN,UN,UN];exact hzl)):p:=h
def an4(h:p:=by exact Ye zb6):p:=h
def abQ(h:p:=by exact⟨K,rfl,HR.o⟩):p:=h
def ais(h:p:=by exact hb3.block _ (by show w.heap.size<X2.heap.size;omega)):p:=h
def gy(h:p:=by exact λg hg=>by cases hg):p:=h
def eU(h:p:=by exact IL HH.o.1.ok RW.o):p:=h
def ahB(h:p:=by exact Nd.o.1.same (λe=>(z_.Ut.block ab wB (λx=>x.1 (Nd.o.2 e).1)))):p:=h
def aiN(h:p:=by exact λe=>⟨(z_.lab ab wB).trans (Nd.o.2 e).1,ZY wB z_.Ut.size⟩):p:=h
def aho(h:p:=by exact r_.Ut.block _ (ZY VH z_.Ut.size) (λx=>x.1 ((z_.lab _ VH).trans (HH.o.1.QF (ZN _))))):p:=h
def anG(h:p:=by exact λx=>x.1 (HH.o.1.QF (VR _))):p:=h
def aep(h:p:=by exact⟨HH.o.2.trans ST,(ST.lab _ hw1).trans (HH.o.1.QF (VR _))⟩):p:=h
def am7(h:p:=by exact⟨K',rfl,HZ.o⟩):p:=h
def ano(h:p:=by exact⟨K',by rw[<- pn.o];rfl,HZ.o.trans (Vu.below HZ.o.rk (ZR _ _).drew)⟩):p:=h
def abD(h:p:=by exact ZV w3 _ w.heap.size VH):p:=h
def ajO(h:p:=by exact λx=>x.1 (Nd.o.2 e).1):p:=h
def ajC(h:p:=by exact r_.Ut.block _ (ZY VH Wt.Ut.size) (λx=>x.1 ((Wt.lab _ VH).trans (HH.o.1.QF (ZN _))))):p:=h
def aiJ(h:p:=by exact(Od w.heap.size VH).trans (ZV X2 _ w.heap.size VH)):p:=h
def iP(h:p:=by exact ZC h.zw (Nat.le_of_lt h.zu)):p:=h
def ai7(h:p:=by exact(sI.o.N8 _ _ _ _ _).alloc _):p:=h
def aod(h:p:=by exact N1.o.hz.N8 _ _ _ _ _):p:=h
def aiC(h:p:=by exact⟨rfl,N1.o.to.N8 L_ (ZN _) _ _ _ _ _⟩):p:=h
def apa(h:p:=by exact J_.o.hz.N8 _ _ _ _ _):p:=h
def aoK(h:p:=by exact⟨rfl,_,ale,J_.o.to.N8 L_ (ZN _) _ _ _ _ _⟩):p:=h
def amf(h:p:=by exact⟨rfl,_,ale,N1.o.to.N8 L_ (ZN _) _ _ _ _ _⟩):p:=h
def LG(h:p:=by exact⟨hD,hB,hb⟩):p:=h
def yL(h:p:=by exact⟨R',S5.o.ref hr⟩):p:=h
def ahd(h:p:=by exact λe=>⟨(Hc e).1,(Hc e).2.1⟩):p:=h
def adX(h:p:=by exact UF w4 (.cells #[.bool false,VI 0] 79)):p:=h
def FM(h:p:=by exact λ_=>by have:=HC.o;omega):p:=h
def ahy(h:p:=by exact P1.o.to (W_.o).drew.to hg1 L_):p:=h
def aox(h:p:=by exact W_.o.hz.N8 _ _ _ _ _):p:=h
def ajD(h:p:=by exact⟨rfl,W_.o.to.N8 L_ (ZN _) _ _ _ _ _⟩):p:=h
def ah0(h:p:=by exact⟨YV _ HV.o.symm,j,hj,W_.o.to.N8 L_ (ZN _) _ _ _ _ _,HJ.o⟩):p:=h
end Go
namespace Go
section
variable {P : Program} {md : Region.Mode} {ops : Array Oper} {Q : Exit -> Act -> World -> Prop} {S : World -> Prop}
def Uh (i:Nat){oi:Oper}{v:Value}{fuel:Nat}{listed:Array Bool}{a:Act}{w:World}
 (h:wpAnyH P md ops Q S fuel (listed.setIfInBounds i true) (a.put oi.dst v) w)
 (hi:ops[i]?=some oi:=by rfl) (hs:Region.noSelect ops=true:=by kernel_rfl) (hf:Region.free md ops listed i=true:=by kernel_rfl) (hr:(Region.ready md ops listed).contains i=true:=by kernel_rfl)
 (hQ:∀c a w,Q (.panic c) (a.put oi.dst v) w->Q (.panic c) a w:=by exact λ_ _ _ h=>h) (hw:Region.wanted oi (yielded ops a.tmps)=true:=by rfl)
 (hy:∀w,S w->(execOp a.eval oi).run P w=.ok (.value v) w:=by intro w hSw;(try dsimp only at hSw);go_simp<;>with_reducible rfl) (hS:S w:=by assumption):wpAnyH P md ops Q S (fuel+1) listed a w:=
 Ze hi hs hf hr hQ (W9 ⟨hw,hy⟩) hS h
def Ur (i:Nat){oi:Oper}{v:Value}{fuel:Nat}{listed:Array Bool}{a a':Act}{w:World}
 (h:wpAnyH P md ops Q S fuel (listed.setIfInBounds i true) a' w)
 (hi:ops[i]?=some oi:=by rfl) (hs:Region.noSelect ops=true:=by kernel_rfl) (hf:Region.free md ops listed i=true:=by kernel_rfl) (hr:(Region.ready md ops listed).contains i=true:=by kernel_rfl)
 (hQ:∀c a w,Q (.panic c) (a.put oi.dst v) w->Q (.panic c) a w:=by exact λ_ _ _ h=>h) (hw:Region.wanted oi (yielded ops a.tmps)=true:=by rfl)
 (hy:∀w,S w->(execOp a.eval oi).run P w=.ok (.value v) w:=by intro w hSw;(try dsimp only at hSw);go_simp<;>with_reducible rfl) (hS:S w:=by assumption)
 (he:a.put oi.dst v=a':=by simp only[Act.put,WW,Xl,Xk,XE,WM,XY];rfl):wpAnyH P md ops Q S (fuel+1) listed a w:=
 Ze hi hs hf hr hQ (W9 ⟨hw,hy⟩) hS (he ▸ h)
def Ul (i:Nat){o:Oper}{fuel:Nat}{listed:Array Bool}{a:Act}{w:World}
 (h:∀K':Act->World->Prop,Shut (∀a w,S w->(S w->wpAnyH P md ops Q S fuel (listed.setIfInBounds i true) a w)->K' a w)->if Region.wanted o (yielded ops a.tmps)=true then Oper.wp P o a w K' Q else K' (a.put o.dst undef) w)
 (hr:Region.ready md ops listed=[i]:=by kernel_rfl) (ho:ops[i]?=some o:=by rfl):wpAnyH P md ops Q S (fuel+1) listed a w:=
 Zv hr Vy (ZO ho h ZA)
def Shut.go {X K:Act->World->Prop}(k:Shut (∀a w,S w->(S w->X a w)->K a w)){a:Act}{w:World}(h:S w->X a w)(hs:S w:=by go_keep):K a w:=k.o a w hs h
def UE {fuel:Nat}{listed:Array Bool}{a a':Act}{w:World}(h:wpAnyH P md ops Q S fuel listed a' w)
 (he:a=a':=by simp only[Act.put,WW,Xl,Xk,XE,WM,XY];rfl):wpAnyH P md ops Q S fuel listed a w:=he ▸ h
end
end Go
namespace Kn
open Go Go.RowKit
def SK (a b:ByteArray):(a==b)=true↔a=b:=by
 cases a with|mk a=>cases b with|mk b=>
 have e:((⟨a⟩:ByteArray)==⟨b⟩)=(a==b):=rfl;rw[e,YH];exact⟨λh=>by rw[h],λh=>by injection h⟩
def Vf (a b:ByteArray):(a==b)=false↔a≠b:=by
 rw[Ne,<- SK a b,Bool.not_eq_true]
def Tq (a:ByteArray):(a==a)=true:=(SK a a).2 rfl
def Holds (es:Array MapEntry)(l:List (ByteArray×Value)):Prop:=es.toList.map (λe=>(e.key,e.val))=l.map (λp=>(Value.string p.1,p.2))
def D8 (w:World)(b:Nat)(l:List (ByteArray×Value)):Prop:=∃es clock,w.heap[b]?=some (.map es clock)/\Holds es l
def put:List (ByteArray×Value)->ByteArray->Value->List (ByteArray×Value)
 | [],s,v=>[(s,v)]
 | (k,x)::r,s,v=>if s==k then (s,v)::r else (k,x)::put r s v
def Dq {e:MapEntry}{es:List MapEntry}{l:List (ByteArray×Value)}(h:(e::es).map (λe=>(e.key,e.val))=l.map (λp=>(Value.string p.1,p.2))):
 ∃k v r,l=(k,v)::r/\e.key=.string k/\e.val=v/\es.map (λe=>(e.key,e.val))=r.map (λp=>(Value.string p.1,p.2)):=by
 cases l with
 | nil=>simp at h
 | cons p r=>
  simp only[Zc,YC,YL]at h;exact⟨p.1,p.2,r,rfl,h.1.1,h.1.2,h.2⟩
theorem Lr (s:ByteArray):∀(es:List MapEntry) (l:List (ByteArray×Value)) (i:Nat),es.map (λe=>(e.key,e.val))=l.map (λp=>(Value.string p.1,p.2))->
 (l.lookup s=none/\Instr.findNow .string (.string s) es i=some none/\put l s=λv=>l++[(s,v)])\/
 (∃j v,l.lookup s=some v/\Instr.findNow .string (.string s) es i=some (some (i+j,v))/\(es[j]?).map (·.key)=some (.string s)/\put l s=λx=>l.set j (s,x))
 | [],l,i,h=>by
  cases l with
  | nil=>left;exact⟨rfl,rfl,by funext v;rfl⟩
  | cons p r=>simp at h
 | e::es,l,i,h=>by
  obtain⟨k,v,r,rfl,hk,hv,hr⟩:=Dq h
  cases hs:(s==k) with
  | true=>
   right;refine⟨0,v,by simp[List.lookup,hs],by simp[Instr.findNow,hk,Instr.sameNow,hs,hv],?_,?_⟩
   . have e:=(SK s k).1 hs;simp[hk,e]
   . funext x;simp[put,hs]
  | false=>
   rcases Lr s es r (i+1) hr with⟨h1,h2,h3⟩|⟨j,x,h1,h2,h3,h4⟩
   . left;refine⟨by simp[List.lookup,hs,h1],by simp[Instr.findNow,hk,Instr.sameNow,hs,h2],?_⟩;funext v;simp[put,hs,h3]
   . right;refine⟨j+1,x,by simp[List.lookup,hs,h1],anQ,by simpa using h3,?_⟩;funext v;simp[put,hs,h4]
def MQ (s:ByteArray):MapKept.IsKey .string (.string s):=by simp[MapKept.IsKey]
variable {w : World}
def MF {P:Program}{b:Nat}{l:List (ByteArray×Value)}(h:D8 w b l){t k e:TypeId}(ht:P.underlying t=some (.map k e))(hk:P.underlying k=some .string){z:Value}
 (hz:(zeroValue e).run P w=.ok z w) (s:ByteArray):(Instr.lookup t (.map (some b)) (.string s) false).run P w=.ok ((l.lookup s).getD z) w:=by
 obtain⟨es,clock,hb,hl⟩:=h;rcases Lr s es.toList l 0 hl with⟨h1,h2,_⟩|⟨j,x,h1,h2,_,_⟩
 . simp[Instr.lookup,Zu ht,Y5 hb,Yr hk (MQ s),Ym hk h2,Result.andThen,h1,hz]
 . simp[Instr.lookup,Zu ht,Y5 hb,Yr hk (MQ s),Ym hk h2,Result.andThen,h1]
def D8.lt {b:Nat}{l:List (ByteArray×Value)}(h:D8 w b l):b<w.heap.size:=by
 obtain⟨es,clock,hb,_⟩:=h;exact(Z5.1 hb).1
variable {w' : World}
def Tc {w wr w1:World}{B:Nat}{e:TypeId}{size n:Nat}{v:Value}{xs:List Value}{o:Obj}(hb:Below B w wr)(hB:B<=w.heap.size)(hown:wr.ownsRow B e size v n xs)
 (hg:(wr.alloc o).grownBy w1 v.ownBlock):Below B w w1:=
 (hb.alloc (ZC hB hb.size) o).grown hg aky (λk hk=>(hown.lt k hk).1)
def Us (w:World)(xs:List Value)(e:TypeId):∀j u,xs[j]?=some u->(w.alloc (.cells xs.toArray e)).cell? ((VJ w.heap.size 0).add j)=some u:=by
 intro j u hj;have hadd:(VJ w.heap.size 0).add j=(VJ w.heap.size j):=qP;rw[hadd];have e1:=(Z4 w (.cells xs.toArray e)).1;simp only[World.cell?,e1];simpa using hj
def oM {H:Type}{enc:TypeId×Value->H}{P:Program}{f:Func}{s:ChangeSpec}{apart fresh handsOn again:Bool}{W W':World}{args:Array Value}{v:Value}{ds gs:List (DataW H)}{before pa pv:List MemPlace}
 (hW:DataW.Whole enc P f.params.toList s.vars apart W args.toList ds gs before)
 (hres:∀(b:Nat) (sp:Nat->Bool) (hd:Bool),DataW.TrodAll enc P W' b sp hd f.resultTypes.toList (v.resultList f.resultTypes.size) (s.fn H (ds++gs)).results [])
 (hargs:∀sp:Nat->Bool,(∀p∈before,sp p.block=true)->DataW.TrodAll enc P W' 0 sp true f.params.toList args.toList (s.fn H (ds++gs)).args pa)
 (hvars:∀sp:Nat->Bool,(∀p∈before,sp p.block=true)->DataW.TrodVars enc P W' sp s.vars (s.fn H (ds++gs)).vars pv)
 (hps:before=pa++pv) (hb:Below W.heap.size W W')
 (hok:∀(j:Nat) (t:TypeId) (r:Value),f.resultTypes[j]?=some t->(v.resultList f.resultTypes.size)[j]?=some r->Value.okWide P W' .any 0 t r):
 s.post enc P f apart fresh handsOn again W args v W':=by
 have hlt:=hW.lt;have hold:∀p∈before,(λb=>decide (b<W.heap.size)) p.block=true:=λp hp=>by simpa using hlt p hp
 refine⟨ds,gs,before,[],pa,pv,hW,hres _ _ _,hargs _ hold,hvars _ hold,World.keptBut_mono (λp hp=>⟨hp,?_⟩) (hb.frame (·∈before)),λ_=>?_⟩
 . exact Or.inr (by simpa[hps]using hp)
 . obtain⟨_,_,_,_,_,hz,hn⟩:=hW;refine⟨hok,_,_,([]++pa)++pv,⟨[]++pa,pv,ChangeShapes.trodAll_append (hargs _ (λ_ _=>rfl)) (hres _ _ _),hvars _ (λ_ _=>rfl),rfl,?_,?_⟩,?_⟩
   . intro b off hp;have hm:MemPlace.cell b off∈before:=by rw[hps];simpa using hp
     have:=hlt _ hm;rw[hb.frozen (p:=(VJ b off)) this];exact hz b off hm
   . intro ha;have:=hn ha;rw[hps]at this;simpa using this
   . intro p hp _;rw[hps];simpa using hp
end Kn
namespace Kn
open Go
def gotos (P:Program)(c:Code)(Q:Exit->Act->World->Prop):Nat->Exit->Act->World->Prop
 | 0,.goto _,_,_=>False
 | n+1,.goto l,a,w=>∃rest,findLabel c l=some rest/\rest.wp P (gotos P c Q n) a w
 | _,e,a,w=>Q e a w
variable {w : World}
def G5 {P:Program}{c:Code}{Q:Exit->Act->World->Prop}{n:Nat}{a:Act}:gotos P c Q n .normal a w=Q .normal a w:=adk
def BP {P:Program}{c:Code}{Q:Exit->Act->World->Prop}{n i:Nat}{a:Act}:gotos P c Q n (.exit i) a w=Q (.exit i) a w:=adk
def Gs {P:Program}{c:Code}{Q:Exit->Act->World->Prop}{n:Nat}{a:Act}:gotos P c Q n .ret a w=Q .ret a w:=adk
def Fg {P:Program}{c:Code}{Q:Exit->Act->World->Prop}{n:Nat}{ch:List PanicEntry}{a:Act}:gotos P c Q n (.panic ch) a w=Q (.panic ch) a w:=adk
def KD {P:Program}{c:Code}{Q:Exit->Act->World->Prop}{n:Nat}{a:Act}:gotos P c Q n .outgrown a w=Q .outgrown a w:=adk
def Em (J:Nat->Act->World->Prop)(Q:Exit->Act->World->Prop):Exit->Act->World->Prop
 | .goto l,a,w=>J l a w
 | e,a,w=>Q e a w
def L9 {P:Program}{a:Act}{Q:Exit->Act->World->Prop}{c:Code}(J:Nat->Nat->Act->World->Prop)
 (first:c.wp P (Em (λl a w=>∃n,J n l a w) Q) a w)
 (pass:∀n l a w,J n l a w->∃rest,findLabel c l=some rest/\rest.wp P (Em (λl' a' w'=>∃n',n'<n/\J n' l' a' w') Q) a w):(Code.scope c).wp P Q a w:=by
 intro b k cs
 have key:∀n l a w,J n l a w->∃e a' w',Q e a' w'/\∀rest,findLabel c l=some rest->Arrives P (lone (b.at a (.code rest::.inScope c::k)) cs w) b k cs e a' w':=by
  intro n
  induction n using Nat.strongRecOn with
  | _ n ih=>
   intro l a w hJ;obtain⟨rest,hf,hw⟩:=pass n l a w hJ;obtain⟨e,a₁,w₁,hq,harr⟩:=hw b (.inScope c::k) cs;have one:∀ {r},findLabel c l=some r->r=rest:=λh=>by rw[hf]at h;injection h with h;exact h.symm
   cases e with
   | normal=>exact⟨.normal,a₁,w₁,hq,λr hr=>by rw[one hr];exact Steps.trans harr (.one step_inScope)⟩
   | exit id=>exact⟨.exit id,a₁,w₁,hq,λr hr=>by rw[one hr];exact λk' hk=>harr k' (by simp[exitTo,hk])⟩
   | goto l'=>
    obtain⟨n',hlt,ry⟩:=hq;obtain⟨rest',hf',_⟩:=pass n' l' a₁ w₁ ry;have hg:gotoIn l' (.inScope c::k)=some (.code rest'::.inScope c::k):=by simp[gotoIn,hf']
    obtain⟨e₂,a₂,w₂,hq₂,harr₂⟩:=ih _ hlt l' a₁ w₁ ry;exact⟨e₂,a₂,w₂,hq₂,λr hr=>by rw[one hr];exact .of_steps (harr _ hg) (harr₂ rest' hf')⟩
   | ret=>exact⟨_,a₁,w₁,hq,λr hr=>by rw[one hr];exact harr⟩
   | panic ch=>exact⟨_,a₁,w₁,hq,λr hr=>by rw[one hr];exact harr⟩
   | outgrown=>exact⟨_,a₁,w₁,hq,λr hr=>by rw[one hr];exact harr⟩
 obtain⟨e,a₁,w₁,hq,harr⟩:=first b (.inScope c::k) cs
 cases e with
 | normal=>exact⟨.normal,a₁,w₁,hq,.head WL (Steps.trans harr (.one step_inScope))⟩
 | exit id=>exact⟨.exit id,a₁,w₁,hq,λk' hk=>.head WL (harr k' (by simp[exitTo,hk]))⟩
 | goto l'=>
  obtain⟨n,ry⟩:=hq;obtain⟨rest',hf',_⟩:=pass n l' a₁ w₁ ry;have hg:gotoIn l' (.inScope c::k)=some (.code rest'::.inScope c::k):=by simp[gotoIn,hf']
  obtain⟨e₂,a₂,w₂,hq₂,harr₂⟩:=key _ l' a₁ w₁ ry;exact⟨e₂,a₂,w₂,hq₂,.of_steps (.head WL (harr _ hg)) (harr₂ rest' hf')⟩
 | ret=>exact⟨_,a₁,w₁,hq,.of_steps (.one WL) harr⟩
 | panic ch=>exact⟨_,a₁,w₁,hq,.of_steps (.one WL) harr⟩
 | outgrown=>exact⟨_,a₁,w₁,hq,.of_steps (.one WL) harr⟩
def wp_mono' {P:Program}{c:Code}{Q Q':Exit->Act->World->Prop}{a:Act}(h:c.wp P Q a w)(hQ:∀e a w,Q e a w->Q' e a w):c.wp P Q' a w:=by
 intro b k cs;obtain⟨e,a₁,w₁,hq,harr⟩:=h b k cs;exact⟨e,a₁,w₁,hQ _ _ _ hq,harr⟩
def KT {P:Program}{a:Act}{Q:Exit->Act->World->Prop}{c:Code}(n:Nat)(h:c.wp P (gotos P c Q n) a w):(Code.scope c).wp P Q a w:=by
 refine L9 (λm l a w=>gotos P c Q m (.goto l) a w) (wp_mono' h ?_) ?_
 . intro e a w he
   cases e with
   | goto l=>exact⟨n,he⟩
   | normal=>rw[G5]at he;exact he
   | exit i=>rw[BP]at he;exact he
   | ret=>rw[Gs]at he;exact he
   | panic ch=>rw[Fg]at he;exact he
   | outgrown=>rw[KD]at he;exact he
 . intro m l a w hm
   cases m with
   | zero=>exact hm.elim
   | succ m=>
    obtain⟨rest,hf,hw⟩:=hm;refine⟨rest,hf,wp_mono' hw ?_⟩;intro e a w he
    cases e with
    | goto l=>exact⟨m,XA m,he⟩
    | normal=>rw[G5]at he;exact he
    | exit i=>rw[BP]at he;exact he
    | ret=>rw[Gs]at he;exact he
    | panic ch=>rw[Fg]at he;exact he
    | outgrown=>rw[KD]at he;exact he
def JE {P:Program}{a:Act}{Q:Exit->Act->World->Prop}{c:Code}(n:Nat)
 (h:∀G:Nat->Exit->Act->World->Prop,RowKit.Hid (∀m a w,Q .ret a w->G m .ret a w)->RowKit.Hid (∀m l rest a w,findLabel c l=some rest->rest.wp P (G m) a w->G (m+1) (.goto l) a w)->c.wp P (G n) a w):(Code.scope c).wp P Q a w:=
 KT n (h (gotos P c Q) (λm a w hq=>by show gotos P c Q m .ret a w;rw[Gs];exact hq) (λm l rest a w hf hw=>⟨rest,hf,hw⟩))
def Aa {P:Program}{a:Act}{Q:Exit->Act->World->Prop}{c:Code}(J:Nat->Nat->Act->World->Prop)
 (pass:∀n l a w,J n l a w->∀G:Exit->Act->World->Prop,RowKit.Hid (∀a w,Q .ret a w->G .ret a w)->RowKit.Hid (∀n' l' a' w',n'<n->J n' l' a' w'->G (.goto l') a' w')->∃rest,findLabel c l=some (.seq .skip rest)/\rest.wp P G a w)
 (first:∀G:Exit->Act->World->Prop,RowKit.Hid (∀n l rest a w,J n l a w->findLabel c l=some (.seq .skip rest)->rest.wp P G a w)->c.wp P G a w):(Code.scope c).wp P Q a w:=
 L9 J (first _ (λn l rest a w h hf=>by
  obtain⟨rest',hf',hw⟩:=pass n l a w h (Em (λl a w=>∃n,J n l a w) Q) (λa w h=>h) (λn' l' a' w' _ h=>⟨n',h⟩);rw[hf]at hf';injection hf' with e;injection e with _ e;rw[e]
  exact hw)) (λn l a w h=>by
   obtain⟨rest,hf,hw⟩:=pass n l a w h (Em (λl' a' w'=>∃n',n'<n/\J n' l' a' w') Q) (λa w h=>h) (λn' l' a' w' hlt h=>⟨n',hlt,h⟩)
   exact⟨_,hf,wp_seq (wp_skip hw)⟩)
end Kn
namespace Kn
open Go Go.RowKit
structure Vt (w w':World)(S:Nat->Prop):Prop where
 os:w'.os=w.os
 tape:w'.tape=w.tape
 output:w'.output=w.output
 size:w.heap.size<=w'.heap.size
 block:∀k,k<w.heap.size->¬S k->w'.heap[k]?=w.heap[k]?
def Vt.refl (w:World)(S:Nat->Prop):Vt w w S:=⟨rfl,rfl,rfl,ZN _,λ_ _ _=>rfl⟩
variable {w w' : World}
def Vt.of_below (h:Below w.heap.size w w')(S:Nat->Prop):Vt w w' S:=⟨h.os,h.tape,h.output,h.size,λk hk _=>h.block k hk⟩
def Vt.QY {k:Nat}(h:w.grownBy w' (some k)):Vt w w' (·=k):=⟨h.os,h.tape,h.output,h.size,λj hj hn=>h.block j hj (λe=>by injection e with e;exact hn e)⟩
def Vt.mono {S S':Nat->Prop}(h:Vt w w' S)(hS:∀k,k<w.heap.size->S k->S' k):Vt w w' S':=⟨h.os,h.tape,h.output,h.size,λk hk hn=>h.block k hk (λhs=>hn (hS k hk hs))⟩
variable {w1 w2 : World}
def Vt.trans {S:Nat->Prop}(h1:Vt w w1 S)(h2:Vt w1 w2 S):Vt w w2 S:=
 ⟨h2.os.trans h1.os,h2.tape.trans h1.tape,h2.output.trans h1.output,ZC h1.size h2.size,λk hk hn=>(h2.block k (ZY hk h1.size) hn).trans (h1.block k hk hn)⟩
def Vt.then {S S':Nat->Prop}(h1:Vt w w1 S)(h2:Vt w1 w2 S')(hS:∀k,k<w.heap.size->S' k->S k):Vt w w2 S:=
 ⟨h2.os.trans h1.os,h2.tape.trans h1.tape,h2.output.trans h1.output,ZC h1.size h2.size,λk hk hn=>(h2.block k (ZY hk h1.size) (λhs=>hn (hS k hk hs))).trans (h1.block k hk hn)⟩
def Vt.below {S:Nat->Prop}{B:Nat}(h:Vt w w' S)(hB:B<=w.heap.size)(hS:∀k,k<w.heap.size->S k->B<=k):Below B w w':=
 ⟨h.os,h.tape,h.output,h.size,λk hk=>h.block k (ZY hk hB) (λhs=>by have:=hS k (ZY hk hB) hs;omega)⟩
def Vt.alloc {S:Nat->Prop}(h:Vt w w1 S)(o:Obj):Vt w (w1.alloc o) S:=h.trans ⟨rfl,rfl,rfl,Vy,λk hk _=>ZV w1 o k hk⟩
def Vt.setCell {S:Nat->Prop}(h:Vt w w1 S)(a:Addr)(v:Value)(ha:a.block<w.heap.size->S a.block):Vt w (w1.setCell a v) S:=
 ⟨h.os,h.tape,h.output,by simp only[World.setCell,Yz];exact h.size,λk hk hn=>(ZW w1 a v k (λe=>hn (by subst e;exact ha hk))).trans (h.block k hk hn)⟩
def Vt.drew {S:Nat->Prop}(h:Vt w w1 S):Vt w w1.drew S:=⟨h.os,h.tape,h.output,h.size,h.block⟩
def IJ {a b:ByteArray}(h:¬a=b):(a.toList==b.toList)=false:=by
 refine ZF.2 λe=>h ?_;rw[ZL,ZL]at e;cases a;cases b;congr 1;exact Wh.1 e
def UL (w:World)(p:Nat):Prop:=∃cs t,w.heap[p]?=some (.cells cs t (0,0))
def UL.lt {p:Nat}(h:UL w p):p<w.heap.size:=by obtain⟨cs,t,h⟩:=h;exact(Z5.1 h).1
def UL.same {p:Nat}(h:UL w p)(e:w'.heap[p]?=w.heap[p]?):UL w' p:=by obtain⟨cs,t,h⟩:=h;exact⟨cs,t,e.trans h⟩
def UL.free {p:Nat}(h:UL w p)(o:Nat):w.frozen? (VJ p o)=false:=by
 obtain⟨cs,t,h⟩:=h;simp only[World.frozen?,h];simp
def UL.alloc {p:Nat}(h:UL w p)(o:Obj):UL (w.alloc o) p:=h.same (ZV w o p h.lt)
def UL.setCell {p:Nat}(h:UL w p)(a:Addr)(v:Value):UL (w.setCell a v) p:=by
 by_cases e:p=a.block
 . obtain⟨cs,t,h⟩:=h;subst e;exact⟨_,t,by simp only[World.setCell,Zz,ZU,h];rfl⟩
 . exact h.same (ZW w a v p e)
def Hl {P:Program}{p q:Nat}(hp:UL w p)(hq:UL w q):(sameAddr (VJ p 0) (VJ q 0)).run P w=.ok (decide (p=q)) w:=by
 by_cases h:p=q
 . subst h;rw[run_sameAddr_same];simp
 . obtain⟨_,_,hp⟩:=hp;obtain⟨_,_,hq⟩:=hq;rw[run_sameAddr_other w (λe=>h (by injection e)) hp hq];simp[h]
def N7 {P:Program}{t e:TypeId}{i:TypeInfo}(ht:P.underlying t=some (.pointer e))(he:P.info? e=some i)(hs:i.size≠0){p q:Nat}(hp:UL w p)(hq:UL w q):
 (Op.equal t (VG p) (VG q)).run P w=.ok (decide (p=q)) w:=by
 have h:∀d:Nat,(Op.equalIn (d+1) t (VG p) (VG q)).run P w=.ok (decide (p=q)) w:=λd=>by
  simp[Op.equalIn,Zu ht,Go.sizeOf,typeInfo,he,hs,Hl hp hq]
 exact h 9999
def Born (es:Array MapEntry)(clock:Nat):Prop:=(∀x∈es.toList,x.born<clock)/\(es.toList.map (·.born)).Nodup
def D5:Born #[] 0:=⟨Vy,Vy⟩
def zL {es:Array MapEntry}{clock:Nat}(h:Born es clock)(k v:Value):Born (es.push {key:=k,val:=v,born:=clock}) (clock+1):=by
 refine⟨λx hx=>?_,?_⟩
 . simp only[Array.toList_push,YT,WJ]at hx;rcases hx with hx|rfl
   . have:=h.1 x hx;omega
   . exact XA _
 . simp only[Array.toList_push,VU,Zc,Xj];refine Xi.2 ⟨h.2,Vy,?_⟩;intro a ha b hb;simp at hb;obtain⟨x,hx,rfl⟩:=Zy.1 ha;have:=h.1 x hx;omega
def y9 {es es':Array MapEntry}{clock:Nat}(h:Born es clock)(e:es'.toList.map (·.born)=es.toList.map (·.born)):Born es' clock:=by
 refine⟨λx hx=>?_,by rw[e];exact h.2⟩;have hm:x.born∈es.toList.map (·.born):=by rw[<- e];exact Zy.2 ⟨x,hx,rfl⟩
 obtain⟨y,hy,hyx⟩:=Zy.1 hm;have:=h.1 y hy;omega
def Fz (es:Array MapEntry)(j:Nat)(k v:Value):(es.modify j λe=>{e with key:=k,val:=v}).toList.map (·.born)=es.toList.map (·.born):=by
 apply XH;intro i;simp only[YO,Zf,Zz];by_cases h:j=i
 . subst h;cases es[j]?<;>simp
 . simp[h]
def Eb {es:Array MapEntry}{clock:Nat}(h:Born es clock)(j:Nat):Born (es.eraseIdxIfInBounds j) clock:=by
 have e:(es.eraseIdxIfInBounds j).toList=es.toList.eraseIdx j:=by
  unfold Array.eraseIdxIfInBounds;by_cases hj:j<es.size
  . simp[hj]
  . simp[hj];rw[WI (by simpa using hj)]
 refine⟨λx hx=>h.1 x (by rw[e]at hx;exact(Xb _ _).mem hx),?_⟩;rw[e];exact((Xb _ _).map _).nodup h.2
def Uniq (l:List (ByteArray×Value)):Prop:=(l.map (·.1)).Nodup
def SMap (w:World)(b:Nat)(l:List (ByteArray×Value)):Prop:=∃es clock,w.heap[b]?=some (.map es clock)/\Holds es l/\Born es clock/\Uniq l
def SMap.str {b:Nat}{l:List (ByteArray×Value)}(h:SMap w b l):D8 w b l:=by obtain⟨es,c,h1,h2,_⟩:=h;exact⟨es,c,h1,h2⟩
def SMap.lt {b:Nat}{l:List (ByteArray×Value)}(h:SMap w b l):b<w.heap.size:=h.str.lt
def SMap.same {b:Nat}{l:List (ByteArray×Value)}(h:SMap w b l)(e:w'.heap[b]?=w.heap[b]?):SMap w' b l:=amb
def OL {b:Nat}(h:w.heap[b]?=some (.map #[] 0)):SMap w b []:=⟨#[],0,h,rfl,D5,by simp[Uniq]⟩
def S9 (l:List (ByteArray×Value))(s t:ByteArray)(v:Value):(put l s v).lookup t=if t=s then some v else l.lookup t:=by
 induction l with
 | nil=>
  by_cases h:t=s
  . subst h;simp[put,List.lookup,Tq]
  . simp[put,List.lookup,(Vf t s).2 h,h]
 | cons p r ih=>
  obtain⟨k,x⟩:=p
  cases hs:(s==k) with
  | true=>
   have e:=(SK s k).1 hs;subst e;by_cases h:t=s
   . subst h;simp[put,hs,List.lookup,Tq]
   . simp[put,hs,List.lookup,(Vf t s).2 h,h]
  | false=>
   simp only[put,hs];by_cases h:t=s
   . subst h;rw[ZU rfl]at ih ⊢;simp[List.lookup,hs,ih]
   . rw[ZX h]at ih ⊢
     cases htk:(t==k) with
     | true=>simp[List.lookup,htk]
     | false=>simp[List.lookup,htk,ih]
def agi {l:List (ByteArray×Value)}{s t:ByteArray}{v:Value}(h:t∈(put l s v).map (·.1)):t=s\/t∈l.map (·.1):=by
 induction l with
 | nil=>simpa[put]using h
 | cons p r ih=>
  obtain⟨k,x⟩:=p
  cases hs:(s==k) with
  | true=>simp[put,hs]at h ⊢;rcases h with h|h;exact .inl h;exact .inr (.inr h)
  | false=>
   simp only[put,hs,XW,Zg,Zc,ZM]at h ⊢;rcases h with h|h
   . exact .inr (.inl h)
   . rcases ih h with h|h
     . exact .inl h
     . exact .inr (.inr h)
def qO {l:List (ByteArray×Value)}(h:Uniq l)(s:ByteArray)(v:Value):Uniq (put l s v):=by
 unfold Uniq at h ⊢
 induction l with
 | nil=>simp[put]
 | cons p r ih=>
  obtain⟨k,x⟩:=p;rw[Zc,YS]at h
  cases hs:(s==k) with
  | true=>
   have e:=(SK s k).1 hs;subst e;simpa[put,hs]using h
  | false=>
   simp only[put,hs,XW,Zg,Zc,YS];refine⟨λhm=>?_,ih h.2⟩;rcases agi hm with e|hm
   . exact(Vf s k).1 hs e.symm
   . exact h.1 hm
def del (l:List (ByteArray×Value))(s:ByteArray):List (ByteArray×Value):=l.filter (λp=>!(p.1==s))
def ace {l:List (ByteArray×Value)}(h:Uniq l)(s:ByteArray):Uniq (del l s):=(List.filter_sublist.map _).nodup h
def Na (l:List (ByteArray×Value))(s t:ByteArray):(del l s).lookup t=if t=s then none else l.lookup t:=by
 unfold del
 induction l with
 | nil=>by_cases h:t=s<;>simp[h,List.lookup]
 | cons p r ih=>
  obtain⟨k,x⟩:=p
  cases hs:(k==s) with
  | true=>
   have e:=(SK k s).1 hs;subst e;rw[Xz];simp only[hs,Bool.not_true,XW,Zg];rw[ih];by_cases h:t=k
   . simp[h]
   . simp[h,List.lookup,(Vf t k).2 h]
  | false=>
   rw[Xz];simp only[hs,Bool.not_false,Y6];by_cases h:t=s
   . subst h;have h1:=(Vf t k).2 (λe=>(Vf k t).1 hs e.symm);simp only[List.lookup,h1];simpa using ih
   . cases htk:(t==k) with
     | true=>simp[List.lookup,htk,h]
     | false=>simp only[List.lookup,htk];exact ih
def jX {l:List (ByteArray×Value)}{s:ByteArray}{v:Value}(h:l.lookup s=some v):(s,v)∈l:=by
 induction l with
 | nil=>simp[List.lookup]at h
 | cons p r ih=>
  obtain⟨k,x⟩:=p
  cases hs:(s==k) with
  | true=>simp[List.lookup,hs]at h;subst h;rw[(SK s k).1 hs];exact XZ
  | false=>simp[List.lookup,hs]at h;exact Zo _ (ih h)
def oH {l:List (ByteArray×Value)}(hu:Uniq l){s:ByteArray}{v:Value}(h:(s,v)∈l):l.lookup s=some v:=by
 induction l with
 | nil=>cases h
 | cons p r ih=>
  obtain⟨k,x⟩:=p;unfold Uniq at hu;rw[Zc,YS]at hu;rcases ZM.1 h with e|h
  . injection e with e1 e2;subst e1 e2;simp[List.lookup,Tq]
  . have hne:=(Vf s k).2 (λe=>hu.1 (by rw[<- e];exact Zy.2 ⟨_,h,rfl⟩));simp only[List.lookup,hne];exact ih hu.2 h
def yj {P:Program}{b:Nat}{l:List (ByteArray×Value)}(h:SMap w b l){t k e:TypeId}(ht:P.underlying t=some (.map k e))(hk:P.underlying k=some .string)(s:ByteArray)(v:Value):
 ∃w',(Instr.mapUpdate t (.map (some b)) (.string s) v).run P w=.ok () w'/\SMap w' b (put l s v)/\w.grownBy w' (some b)/\w'.heap.size=w.heap.size:=by
 obtain⟨es,clock,hb,hl,Ww,hu⟩:=h;rcases Lr s es.toList l 0 hl with⟨h1,h1,h3⟩|⟨j,x,h1,h1,h3,h4⟩
 . refine⟨ChangeMaps.setBlock w b (.map (es.push {key:=.string s,val:=v,born:=clock}) (clock+1)),?_,⟨_,_,Zb hb _,?_,zL Ww _ _,qO hu s v⟩,⟨rfl,rfl,rfl,JO,λi _ hi=>Zd hb _ (λe=>hi pI)⟩,JO⟩
   . simp[Instr.mapUpdate,Zu ht,Y5 hb,Yr hk (MQ s),Ym hk h1,YN _ hb,Result.andThen,ChangeMaps.setBlock]
   . unfold Holds at hl ⊢;rw[h3];simp[hl]
 . obtain⟨e0,he0,hk0⟩:∃e0,es.toList[j]?=some e0/\e0.key=.string s:=by
    cases he:es.toList[j]? with
    | none=>simp[he]at h3
    | some e0=>exact⟨e0,rfl,by simpa[he]using h3⟩
   have he1:es[j]?=some e0:=by simpa using he0
   refine⟨ChangeMaps.setBlock w b (.map (es.modify j λe=>{e with key:=.string s,val:=v}) clock),?_,⟨_,_,Zb hb _,?_,y9 Ww (Fz es j _ _),qO hu s v⟩,⟨rfl,rfl,rfl,JO,λi _ hi=>Zd hb _ (λe=>hi pI)⟩,JO⟩
   . simp[Instr.mapUpdate,Zu ht,Y5 hb,Yr hk (MQ s),Ym hk h1,he1,hk0,MapKept.run_keyThatStays (MQ s),YN _ hb,Result.andThen,ChangeMaps.setBlock]
   . unfold Holds at hl ⊢;rw[h4];apply XH;intro i;have hi:=YV (λl=>l[i]?) hl;simp only[YO]at hi ⊢;rw[Array.toList_modify,ChangeMaps.modify_eq_set _ _ _ _ he0];by_cases hij:j=i
     . subst hij;have hlt:=(Z5.1 he1).1;have hlen:es.toList.length=l.length:=ak2;have hlt':j<l.length:=by simp at hlen;omega
       simp[hlt,hlt']
     . simp[hij]at hi ⊢;exact hi
theorem CU (s:ByteArray):∀(es:List MapEntry) (l:List (ByteArray×Value)) (i:Nat),es.map (λe=>(e.key,e.val))=l.map (λp=>(Value.string p.1,p.2))->Uniq l->
 (Instr.findNow .string (.string s) es i=some none/\del l s=l)\/(∃j v,Instr.findNow .string (.string s) es i=some (some (i+j,v))/\del l s=l.eraseIdx j)
 | [],l,i,h,_=>by
  cases l with
  | nil=>left;exact⟨rfl,rfl⟩
  | cons p r=>simp at h
 | e::es,l,i,h,hu=>by
  obtain⟨k,v,r,rfl,hk,hv,hr⟩:=Dq h;unfold Uniq at hu;rw[Zc,YS]at hu
  cases hs:(s==k) with
  | true=>
   right;refine⟨0,v,by simp[Instr.findNow,hk,Instr.sameNow,hs,hv],?_⟩;have e:=(SK s k).1 hs;subst e;unfold del;rw[Xz];simp only[hs,Bool.not_true,XW,Zg,List.eraseIdx_zero,List.tail_cons];refine WR.2 (λp hp=>?_);have:(p.1==s)=false:=(Vf _ _).2 (λe=>hu.1 (by rw[<- e];exact Zy.2 ⟨p,hp,rfl⟩));simp[this]
  | false=>
   have hks:=(Vf k s).2 (λe=>(Vf s k).1 hs e.symm)
   have hd:del ((k,v)::r) s=(k,v)::del r s:=by
    unfold del;rw[Xz];simp[hks]
   rcases CU s es r (i+1) hr hu.2 with⟨h2,h3⟩|⟨j,x,h2,h3⟩
   . left;exact⟨by simp[Instr.findNow,hk,Instr.sameNow,hs,h2],by rw[hd,h3]⟩
   . right;refine⟨j+1,x,anQ,by rw[hd,h3];rfl⟩
def C9 (es:Array MapEntry)(j:Nat):(es.eraseIdxIfInBounds j).toList=es.toList.eraseIdx j:=by
 unfold Array.eraseIdxIfInBounds;by_cases hj:j<es.size
 . simp[hj]
 . simp[hj];rw[WI (by simpa using hj)]
def je {P:Program}{b:Nat}{l:List (ByteArray×Value)}(h:SMap w b l){t k e:TypeId}(ht:P.underlying t=some (.map k e))(hk:P.underlying k=some .string)(s:ByteArray)(t2 ty:TypeId):
 ∃w',(Builtin.delete_ #[t,t2] ty #[.map (some b),.string s]).run P w=.ok (.tuple #[]) w'/\SMap w' b (del l s)/\w.grownBy w' (some b)/\w'.heap.size=w.heap.size:=by
 obtain⟨es,clock,hb,hl,Ww,hu⟩:=h;rcases CU s es.toList l 0 hl hu with⟨h2,h3⟩|⟨j,x,h2,h3⟩
 . refine⟨ChangeMaps.setBlock w b (.map es clock),?_,⟨_,_,Zb hb _,by rw[h3];exact hl,Ww,by rw[h3];exact hu⟩,⟨rfl,rfl,rfl,JO,λi _ hi=>Zd hb _ (λe=>hi pI)⟩,JO⟩;simp[Builtin.delete_,Zu ht,Y5 hb,Yr hk (MQ s),Ym hk h2,YN _ hb,Result.andThen,ChangeMaps.setBlock]
 . rw[YU]at h2;refine⟨ChangeMaps.setBlock w b (.map (es.eraseIdxIfInBounds j) clock),?_,⟨_,_,Zb hb _,?_,Eb Ww j,ace hu s⟩,⟨rfl,rfl,rfl,JO,λi _ hi=>Zd hb _ (λe=>hi pI)⟩,JO⟩
   . simp[Builtin.delete_,Zu ht,Y5 hb,Yr hk (MQ s),Ym hk h2,YN _ hb,Result.andThen,ChangeMaps.setBlock]
   . unfold Holds at hl ⊢;rw[C9,h3,X7,X7,hl]
def TM (p:Nat):Value:=(VG p)
def LX (w:World)(b:Nat)(ps:List Nat):Prop:=∃es clock,w.heap[b]?=some (.map es clock)/\es.toList.map (·.key)=ps.map TM/\Born es clock/\ps.Nodup
def LX.lt {b:Nat}{ps:List Nat}(h:LX w b ps):b<w.heap.size:=by obtain⟨es,c,h1,_⟩:=h;exact(Z5.1 h1).1
def LX.same {b:Nat}{ps:List Nat}(h:LX w b ps)(e:w'.heap[b]?=w.heap[b]?):LX w' b ps:=amb
def jT {b:Nat}(h:w.heap[b]?=some (.map #[] 0)):LX w b []:=⟨#[],0,h,rfl,D5,Vy⟩
def kZ {e:MapEntry}{es:List MapEntry}{ps:List Nat}(h:(e::es).map (·.key)=ps.map TM):∃p r,ps=p::r/\e.key=TM p/\es.map (·.key)=r.map TM:=by
 cases ps with
 | nil=>simp at h
 | cons p r=>simp only[Zc,YC]at h;exact⟨p,r,rfl,h.1,h.2⟩
structure Gt (P:Program)(t:TypeId):Prop where
 und:∃e i,P.underlying t=some (.pointer e)/\P.info? e=some i/\i.size≠0
theorem LJ {P:Program}{t:TypeId}(hk:Gt P t){q:Nat}(hq:UL w q):∀(es:List MapEntry) (ps:List Nat) (i:Nat),es.map (·.key)=ps.map TM->(∀p∈ps,UL w p)->
 (q ∉ ps/\(Instr.findAsking t (TM q) es i).run P w=.ok none w)\/(∃j v,ps[j]?=some q/\(Instr.findAsking t (TM q) es i).run P w=.ok (some (i+j,v)) w)
 | [],ps,i,h,_=>by
  cases ps with
  | nil=>left;exact⟨Vy,rfl⟩
  | cons p r=>simp at h
 | e::es,ps,i,h,hc=>by
  obtain⟨p,r,rfl,hkey,hr⟩:=kZ h;obtain⟨el,inf,h1,h2,h3⟩:=hk.und;have heq:=N7 (P:=P) (w:=w) h1 h2 h3 hq (hc p Vy);by_cases MY:q=p
  . subst MY;right;refine⟨0,e.val,Vy,?_⟩;unfold Instr.findAsking;rw[hkey];simp[TM,heq]
  . have hstep:(Instr.findAsking t (TM q) (e::es) i).run P w=(Instr.findAsking t (TM q) es (i+1)).run P w:=by
     rw[Instr.findAsking,hkey];simp[TM,heq,MY]
    rcases LJ hk hq es r (i+1) hr (λx hx=>hc x (by simp[hx])) with⟨h4,h5⟩|⟨j,v,h4,h5⟩
    . left;exact⟨by simp[MY,h4],by rw[hstep];exact h5⟩
    . right;exact⟨j+1,v,by simpa using h4,by rw[hstep,h5];congr 3;omega⟩
def F8 {P:Program}{t:TypeId}(hk:Gt P t){q:Nat}(hq:UL w q){es:Array MapEntry}{ps:List Nat}(h:es.toList.map (·.key)=ps.map TM)(hc:∀p∈ps,UL w p):
 (q ∉ ps/\(Instr.findKey t (TM q) es.toList).run P w=.ok none w)\/(∃j v,ps[j]?=some q/\(Instr.findKey t (TM q) es.toList).run P w=.ok (some (j,v)) w):=by
 obtain⟨el,inf,h1,h2,h2⟩:=hk.und
 cases hl:es.toList with
 | nil=>
  rw[hl]at h
  cases ps with
  | nil=>left;exact⟨Vy,by simp[Instr.findKey,Zu h1,Result.andThen,Instr.findNow]⟩
  | cons p r=>simp at h
 | cons e r=>
  rw[hl]at h
  have hs:(Instr.findKey t (TM q) (e::r)).run P w=(Instr.findAsking t (TM q) (e::r)).run P w:=by
   simp[Instr.findKey,Zu h1,Result.andThen,Instr.findNow,Instr.sameNow]
  rcases LJ hk hq (e::r) ps 0 h hc with⟨h1,h2⟩|⟨j,v,h1,h2⟩
  . exact .inl ⟨h1,by rw[hs];exact h2⟩
  . exact .inr ⟨j,v,h1,by rw[hs,h2];simp⟩
def Qp {P:Program}{t:TypeId}(hk:Gt P t)(e:Bool)(q n:Nat):(Instr.checkKey e (n+1) t (TM q)).run P w=.ok () w:=by
 obtain⟨el,inf,h1,h2,h2⟩:=hk.und;unfold Instr.checkKey;simp[Zu h1,TM]
def acj {P:Program}{b:Nat}{ps:List Nat}(h:LX w b ps)(hc:∀p∈ps,UL w p){t k e:TypeId}(ht:P.underlying t=some (.map k e))(hk:Gt P k){q:Nat}(hq:UL w q)(v:Value):
 ∃w' ps',(Instr.mapUpdate t (.map (some b)) (TM q) v).run P w=.ok () w'/\LX w' b ps'/\(∀p,p∈ps'↔p∈ps\/p=q)/\w.grownBy w' (some b)/\w'.heap.size=w.heap.size:=by
 obtain⟨es,clock,hb,hl,Ww,hu⟩:=h;rcases F8 hk hq hl hc with⟨h1,h2⟩|⟨j,x,h1,h2⟩
 . refine⟨ChangeMaps.setBlock w b (.map (es.push {key:=TM q,val:=v,born:=clock}) (clock+1)),ps++[q],?_,⟨_,_,Zb hb _,by simp[hl],zL Ww _ _,?_⟩,Vy,⟨rfl,rfl,rfl,JO,λi _ hi=>Zd hb _ (λe=>hi pI)⟩,JO⟩
   . simp[Instr.mapUpdate,Zu ht,Y5 hb,Qp hk,h2,YN _ hb,Result.andThen,ChangeMaps.setBlock]
   . exact Xi.2 ⟨hu,Vy,λa ha b hb e=>by simp at hb;subst hb;subst e;exact h1 ha⟩
 . have hj:j<ps.length:=(Z7.1 h1).1
   have Id:(es[j]?).map (·.key)=some (TM q):=by
    have:=YV (λl=>l[j]?) hl;simp only[YO,h1,Zf]at this;simpa using this
   obtain⟨e0,he0,hk0⟩:∃e0,es[j]?=some e0/\e0.key=TM q:=by
    cases he:es[j]? with
    | none=>simp[he]at Id
    | some e0=>exact⟨e0,rfl,by simpa[he]using Id⟩
   refine⟨ChangeMaps.setBlock w b (.map (es.modify j λe=>{e with key:=TM q,val:=v}) clock),ps,?_,⟨_,_,Zb hb _,?_,y9 Ww (Fz es j _ _),hu⟩,λp=>?_,⟨rfl,rfl,rfl,JO,λi _ hi=>Zd hb _ (λe=>hi pI)⟩,JO⟩
   . have hst:(Instr.keyThatStays (TM q) (TM q)).run P w=.ok (TM q) w:=by simp[Instr.keyThatStays,TM,Instr.sameBits]
     simp[Instr.mapUpdate,Zu ht,Y5 hb,Qp hk,h2,he0,hk0,hst,YN _ hb,Result.andThen,ChangeMaps.setBlock]
   . rw[<- hl];apply XH;intro i;simp only[YO,Zf,Zz];by_cases hij:j=i
     . subst hij;simp[he0,hk0]
     . simp[hij]
   . exact⟨.inl,λh=>by rcases h with h|rfl;exact h;exact ZK h1⟩
def abm {P:Program}{b:Nat}{ps:List Nat}(h:LX w b ps)(hc:∀p∈ps,UL w p){t k e:TypeId}(ht:P.underlying t=some (.map k e))(hk:Gt P k){q:Nat}(hq:UL w q)(t2 ty:TypeId):
 ∃w' ps',(Builtin.delete_ #[t,t2] ty #[.map (some b),TM q]).run P w=.ok (.tuple #[]) w'/\LX w' b ps'/\(∀p,p∈ps'↔p∈ps/\p≠q)/\w.grownBy w' (some b)/\w'.heap.size=w.heap.size:=by
 obtain⟨es,clock,hb,hl,Ww,hu⟩:=h;rcases F8 hk hq hl hc with⟨h1,h2⟩|⟨j,x,h1,h2⟩
 . refine⟨ChangeMaps.setBlock w b (.map es clock),ps,?_,⟨_,_,Zb hb _,hl,Ww,hu⟩,λp=>⟨λh=>⟨h,λe=>h1 (e ▸ h)⟩,λh=>h.1⟩,⟨rfl,rfl,rfl,JO,λi _ hi=>Zd hb _ (λe=>hi pI)⟩,JO⟩;simp[Builtin.delete_,Zu ht,Y5 hb,Qp hk,h2,YN _ hb,Result.andThen,ChangeMaps.setBlock]
 . refine⟨ChangeMaps.setBlock w b (.map (es.eraseIdxIfInBounds j) clock),ps.eraseIdx j,?_,⟨_,_,Zb hb _,?_,Eb Ww j,(Xb _ _).nodup hu⟩,λp=>?_,⟨rfl,rfl,rfl,JO,λi _ hi=>Zd hb _ (λe=>hi pI)⟩,JO⟩
   . simp[Builtin.delete_,Zu ht,Y5 hb,Qp hk,h2,YN _ hb,Result.andThen,ChangeMaps.setBlock]
   . rw[C9,X7,X7,hl]
   . have hj:=(Z7.1 h1).1;have pD:ps[j]=q:=(Z7.1 h1).2;have hm:=List.mem_eraseIdx_iff_getElem (l:=ps) (x:=p) (k:=j);rw[hm];constructor
     . rintro⟨i,hi,hne,rfl⟩;exact⟨V9 _,λe=>hne ((List.getElem_inj hu).1 (e.trans pD.symm))⟩
     . rintro⟨hp,hne⟩;obtain⟨i,hi,rfl⟩:=WQ hp;exact⟨i,hi,λe=>hne (by subst e;exact pD),rfl⟩
def aek {P:Program}{b:Nat}{ps:List Nat}(h:LX w b ps){t:TypeId}(ht:P.underlying t=some (.map (P.mapKeyOf t) (P.mapElemOf t)))(ty:TypeId):(Builtin.len_ #[t] ty #[.map (some b)]).run P w=.ok (VI (ps.length:Nat)) w:=by
 obtain⟨es,clock,hb,hl,_⟩:=h;have e:es.size=ps.length:=ak2;rw[run_len_map w t ty b es clock ht hb,e];rfl
end Kn
namespace Go
variable {p q:Prop}
def zz0(h:p:=by
 clear f0 f1;go_wp2_with fail;refine Uy ?_;refine aif ?_;intro hHeld;refine pJ ?_;refine FC ?_;intro Y_ Z_;refine Vg ?_;intro hHeld;clear Z_ Y_;refine Um ?_;go_wp2_with fail;rw[LQ];clear heq c3;obtain⟨W1,hW1⟩:∃W1,W1=w2.setCell (VJ K.b 3) (VI (Go.RowKit.wrap64 ((K.UC+1:Nat):Int))):=Vx;rw[<- hW1];have z_:Step w2 W1 m K m {K with UC:=K.UC+1}:=by rw[hW1];exact H2.o.afv hl
 have mK:∀o,W1.cell? (VJ w.heap.size o)=w2.cell? (VJ w.heap.size o):=λo=>apB;have q0:=(mK 0).trans RC;have q1:=(mK 1).trans RR;have Rv:W1.heap.size=w2.heap.size:=abp;have hfi:=aP z_.Ub.drew.drew (some c) (λx hx=>by injection hx with hx;subst hx;exact hc) s;simp only[ZG,Vq]at hfi;clear hW1 RC RR t0 t1 t2 t3;refine Uy ?_;refine ahj ?_;intro hHeld;refine IC ?_;refine Ul 6 λY_ Z_=>?_;go_simp;refine hfi.mono ?_;rintro e w4 ⟨rfl,hb2⟩;have Gr:=RH (RH hb2);have cJ:=(Gr.cell (p:=(VJ w.heap.size 0)) EJ).trans q0;have cI:=(Gr.cell (p:=(VJ w.heap.size 1)) EJ).trans q1
 try go_wp2_with fail
 refine Z_.go λhHeld=>?_;clear Z_ Y_
 try refine UE ?_
 have r_:=z_.trans (Step.below z_.Ub Gr);have hl4:=Gr.size;have Id:=adC (some (VJ (K.cb c) 0)) (Vq ((K.says m s (some c)).map (λx=>K.cb x.1))) (Vq ((K.says m s (some c)).map (·.2))) s hs w4;unfold U1.val at Id;clear hb2 hfi;refine Ul 7 λY_ Z_=>?_;go_simp;refine Id.mono ?_;rintro e w5 ⟨rfl,hb5⟩;have q05:=(hb5.cell (p:=(VJ w.heap.size 0)) anI).trans cJ;have q15:=(hb5.cell (p:=(VJ w.heap.size 1)) anI).trans cI
 try go_wp2_with fail
 refine Z_.go λhHeld=>?_;clear Z_ Y_
 try refine UE ?_
 have NA:=r_.trans (Step.below r_.Ub hb5);have t0:=NA.Ub.Uc.tab.c0 i VH;have t1:=NA.Ub.Uc.tab.c1 i VH;have t2:=NA.Ub.Uc.tab.c2 i VH;have t3:=NA.Ub.Uc.tab.c3 i VH;have ap7:∀o,w5.frozen? (VJ K.b o)=false:=λo=>NA.Ub.Uc.tab.Vb.free o;have c15:=(NA.Ut.block _ VH (λe=>by have:=h.lt e;omega)).trans c1;have f0:w5.cell? (VJ (w.heap.size+1) 0)=some (.pointer none):=by simp only[World.cell?,c15];rfl
 have f1:w5.cell? (VJ (w.heap.size+1) 1)=some (.pointer none):=by simp only[World.cell?,c15];rfl
 have i7:∀o,w5.frozen? (VJ (w.heap.size+1) o)=false:=λo=>UL.free ⟨_,_,c15⟩ o;have H5:Hid _:=NA;clear Id NA r_ z_ q0 q1 cJ cI Gr hb5;refine Ur 8 ?_;refine Ul 9 λY_ Z_=>?_;refine Vg ?_;intro hHeld;clear Z_ Y_;refine Um ?_;go_wp2;have hput:=uM h Uv.o hl2 H5.o hc hi s _ _ rfl rfl (.pointer (Vq ((K.says m s (some c)).map (λx=>K.cb x.1)))) (.pointer (Vq ((K.says m s (some c)).map (·.2))));obtain⟨W6,Fk⟩:∃W6,W6=((((w5.setCell (VJ K.b (6+i*4)) ((VG (K.cb c)))).setCell (VJ K.b (6+i*4+1)) (.string s)).setCell (VJ K.b (6+i*4+2)) (.pointer (Vq ((K.says m s (some c)).map (λx=>K.cb x.1))))).setCell (VJ K.b (6+i*4+3)) (.pointer (Vq ((K.says m s (some c)).map (·.2))))):=Vx;rw[<- Fk]at hput ⊢
 have g0:W6.cell? (VJ (w.heap.size+1) 0)=some (.pointer none):=by
  rw[Fk,VD PO,VD PO,VD PO,VD PO];exact f0
 have g1:W6.cell? (VJ (w.heap.size+1) 1)=some (.pointer none):=by
  rw[Fk,VD PO,VD PO,VD PO,VD PO];exact f1
 refine ZQ (RD (z:=w.heap.size+1) results150 (.pointer (Vq ((K.says m s (some c)).map (λx=>K.cb x.1)))) (.pointer (Vq ((K.says m s (some c)).map (·.2)))) rfl ?_ ?_) rfl ⟨rfl,hput⟩
 . exact(VD PO).trans (Vr g0)
 . exact Vr ((VD PO).trans g1)):p:=h
def zz1(h:p:=by
 go_wp2_with fail;refine Uy ?_;refine ZT (S:=(λw'=>w'.cell? (VJ K.b 0)=some (.slice (some (VJ g 0)) K.cl.length Zs)/\w'.cell? (VJ g (c*4+3))=some (.slice (some (VJ mg 0)) nm RM)/\w'.cell? (VJ mg (i*2+1))=some (.slice q ws.length cc)/\w'.cell? (VJ w.heap.size 0)=some (.bool to.obj)/\w'.cell? (VJ w.heap.size 1)=some (VI to.n))) VE UG (λhHeld=>?_);refine KG ?_;refine Uh 15 ?_;refine CG ?_;refine Ul 11 λY_ Z_=>?_;go_simp;refine Ch.mono ?_;rintro e w3 ⟨rfl,rfl⟩
 try go_wp2_with fail
 refine Z_.go λhHeld=>?_;clear Z_ Y_
 try refine UE ?_
 refine Uh 12 ?_;refine Uh 13 ?_;refine Uh 14 ?_;refine Ur 18 ?_;refine Ul 19 λY_ Z_=>?_;refine Vg ?_;intro hHeld;clear Z_ Y_
 try refine UE ?_
 refine Ur 20 ?_;refine Nr ?_;rw[<- hY];clear hY;go_wp2_with fail;refine hrun.mono ?_;rintro e Z ⟨v,m',K',rfl,dc,Pf,Rm,d_⟩
 have vz:Vu w Z m K m' K':=⟨dc,HS.o.1.Ut.then Pf.Ut (λk hk e=>by
  rcases e with e|e|e
  . exact e
  . omega
  . have:=HY.o.2.2.2;have:=e.1
    omega),λk hk=>(Pf.lab k (ZY hk HS.o.1.Ut.size)).trans (HS.o.1.lab k hk),Pf.b.trans HS.o.1.b⟩
 have F3:K'.lab (w.heap.size+1)=.no:=(Pf.lab _ ahM).trans jg
 have hbz:Z.heap[w.heap.size+1]?=Y.heap[w.heap.size+1]?:=Pf.Ut.block _ ahM (λe=>by
  rcases e with e|e|e
  . exact e.1 jg
  . omega
  . have:=HY.o.2.2.2
    omega)
 have x0:Z.cell? (VJ (w.heap.size+1) 0)=some (.bool false):=(Z9 (a:=(VJ (w.heap.size+1) 0)) hbz).trans HY.o.1;have x1:Z.cell? (VJ (w.heap.size+1) 1)=some (VI 0):=(Z9 (a:=(VJ (w.heap.size+1) 1)) hbz).trans HY.o.2.1;have xf:∀o,Z.frozen? (VJ (w.heap.size+1) o)=false:=λo=>(Zr (a:=(VJ (w.heap.size+1) o)) hbz).trans (HY.o.2.2.1 o);obtain⟨x2,x3⟩:=RQ x0 x1 (.bool v.obj) (VI v.n)
 have HE:Hid (lJ w m K (m.send K.fu C_ to sel args fs) fs (.returned (Vl.val v)) ((Z.setCell (VJ (w.heap.size+1) 0) (.bool v.obj)).setCell (VJ (w.heap.size+1) 1) (VI v.n))):=by
  have hx1:=vz.told (z:=w.heap.size+1) IB F3 (.bool v.obj) (VI v.n);exact⟨v,m',K',rfl,hx1,Rm,by rw[HS.o.2];exact d_⟩
 clear dc Pf Rm d_ vz F3 hbz hrun;unfold Vl.val;go_wp2
 exact ZQ (RI results56 _ _ rfl x2 x3) rfl HE.o):p:=h
def zz2(h:p:=by
 refine ami ?_;intro _ _ _ D_;have D_:((s.size:Int)==3)=true:=Vo;have Dm:2<=s.size:=VH;clear h3;refine zr2 ?_;intro hxs O2 HP Sy B1 HM Ml PB Q6 f_ Y' a_ PJ hmc;obtain⟨TX,T6⟩:=f_;obtain⟨Tr,Tw⟩:=Y';obtain⟨Ts,TC⟩:=a_;clear hp hn U_ hm hm4 hm2 hm1 hc;go_enter func141,ntmps141;go_wp2_with fail;refine Lh ?_;intro w1 y_ T' hblk L_;go_wp2_with fail;refine CP ?_;intro w1 hb1 x hxy M_ P_ A_ u0 u1 u2 u3 u4 u5 uf;clear hb1 hblk L_ hxy;go_wp2_with fail;refine pO ?_;intro W3 hW3 R_ hb1;clear hW3 u0 u1 u2 u3 u4 u5 uf M_ P_ A_;obtain⟨q0,q1,q2,q3,q4,q5,qf⟩:=TL R_;clear R_;go_wp2_with fail;refine Ip ?_;rintro e w' ⟨rfl,rfl⟩;go_wp2_with fail;refine GR ?_;rintro e w' ⟨rfl,rfl⟩;go_wp2_with fail;refine ED ?_;rintro e w' ⟨rfl,rfl⟩;go_wp2_with fail;refine DV ?_;rintro e w' ⟨rfl,rfl⟩;go_wp2;refine ZQ (v:=.tuple #[.agg #[.int .u8 0,VI 0,.string ⟨#[]⟩,.string ⟨#[]⟩,.string ⟨#[]⟩,VI 0],.bool false]) JU rfl ⟨?_,?_⟩
 . rfl
 . exact SQ hb1 UM _ _ _ _ _ _):p:=h
def zz3(h:p:=by
 refine ami ?_;intro _ _ _ D_;have D_:((s.size:Int)==3)=false:=Vo;refine zr2 ?_;intro hxs O2 HP Sy B1 HM Ml PB Q6 f_ Y' a_ PJ hmc;obtain⟨TX,T6⟩:=f_;obtain⟨Tr,Tw⟩:=Y';obtain⟨Ts,TC⟩:=a_;clear hp hn U_ hm hm4 hm2 hm1 hc;go_enter func141,ntmps141;go_wp2_with fail;refine Lh ?_;intro w1 y_ T' hblk L_;go_wp2_with fail;refine CP ?_;intro w1 hb1 x hxy M_ P_ A_ u0 u1 u2 u3 u4 u5 uf;clear hb1 hblk L_ hxy;go_wp2_with fail;refine pO ?_;intro W3 hW3 R_ hb1;clear hW3 u0 u1 u2 u3 u4 u5 uf M_ P_ A_;obtain⟨q0,q1,q2,q3,q4,q5,qf⟩:=TL R_;clear R_;go_wp2_with fail;refine Ip ?_;rintro e w' ⟨rfl,rfl⟩;go_wp2_with fail;refine GR ?_;rintro e w' ⟨rfl,rfl⟩;go_wp2_with fail;refine ED ?_;rintro e w' ⟨rfl,rfl⟩;go_wp2_with fail;refine DV ?_;rintro e w' ⟨rfl,rfl⟩;go_wp2;refine ZQ (v:=.tuple #[.agg #[.int .u8 0,VI 0,.string ⟨#[]⟩,.string ⟨#[]⟩,.string ⟨#[]⟩,VI 0],.bool false]) JU rfl ⟨?_,?_⟩
 . rfl
 . exact SQ hb1 UM _ _ _ _ _ _):p:=h
def zz4(h:p:=by
 have D_:((s[0].toNat:Int)==97)=false:=Vo;refine uy ?_;intro _ D_;have Dm:2<=s.size:=VH;clear h3;refine zr2 ?_;intro hxs O2 HP Sy B1 HM Ml PB Q6 f_ Y' a_ PJ hmc;obtain⟨TX,T6⟩:=f_;obtain⟨Tr,Tw⟩:=Y';obtain⟨Ts,TC⟩:=a_;clear hp hn U_ hm hm4 hm2 hm1 hc;go_enter func141,ntmps141;go_wp2_with fail;refine Lh ?_;intro w1 y_ T' hblk L_;go_wp2_with fail;refine CP ?_;intro w1 hb1 x hxy M_ P_ A_ u0 u1 u2 u3 u4 u5 uf;clear hb1 hblk L_ hxy;go_wp2_with fail;refine pO ?_;intro W3 hW3 R_ hb1;clear hW3 u0 u1 u2 u3 u4 u5 uf M_ P_ A_;obtain⟨q0,q1,q2,q3,q4,q5,qf⟩:=TL R_;clear R_;go_wp2_with fail;refine Ip ?_;rintro e w' ⟨rfl,rfl⟩;go_wp2_with fail;refine GR ?_;rintro e w' ⟨rfl,rfl⟩;go_wp2_with fail;refine ED ?_;rintro e w' ⟨rfl,rfl⟩;go_wp2_with fail;refine DV ?_;rintro e w' ⟨rfl,rfl⟩;go_wp2;refine ZQ (v:=.tuple #[.agg #[.int .u8 0,VI 0,.string ⟨#[]⟩,.string ⟨#[]⟩,.string ⟨#[]⟩,VI 0],.bool false]) JU rfl ⟨?_,?_⟩
 . rfl
 . exact SQ hb1 UM _ _ _ _ _ _):p:=h
def zz5(h:p:=by
 have B2:Hid _:=hb2;clear hb2;refine zr2 ?_;intro hxs O2 HP Sy B1 HM Ml PB Q6 f_ Y' a_ PJ hmc;obtain⟨TX,T6⟩:=f_;obtain⟨Tr,Tw⟩:=Y';obtain⟨Ts,TC⟩:=a_;clear hp hn U_ hm hm4 hm2 hm1 hc;go_enter func141,ntmps141;go_wp2_with fail;refine Lh ?_;intro w1 y_ T' hblk L_;go_wp2_with fail;refine qm ?_;rintro e w1 ⟨⟨x,rfl,hxy⟩,hb2⟩;rw[Sy.o];simp only[Tm,XV];obtain⟨M_,P_,A_⟩:=Eh y_ hblk L_ hb2;obtain⟨u0,u1,u2,u3,u4,u5,uf⟩:=TL P_;clear hb2 hblk L_ hxy;go_wp2_with fail;refine pO ?_;intro W3 hW3 R_ hb1;clear hW3 u0 u1 u2 u3 u4 u5 uf M_ P_ A_;obtain⟨q0,q1,q2,q3,q4,q5,qf⟩:=TL R_;clear R_;go_wp2_with fail;refine(OB (s.extract 1 s.size) _ _ SE B2.o).mono ?_;rintro e w' ⟨rfl,rfl⟩;go_wp2_with fail;refine Ip ?_;rintro e w' ⟨rfl,rfl⟩;go_wp2_with fail;refine GR ?_;rintro e w' ⟨rfl,rfl⟩;go_wp2_with fail;refine ED ?_;rintro e w' ⟨rfl,rfl⟩;go_wp2_with fail;refine DV ?_;rintro e w' ⟨rfl,rfl⟩;go_wp2;refine ZQ (v:=.tuple #[.agg #[.int .u8 0,VI 0,.string ⟨#[]⟩,.string ⟨#[]⟩,.string ⟨#[]⟩,VI 0],.bool false]) JU rfl ⟨?_,?_⟩
 . rfl
 . exact SQ hb1 UM _ _ _ _ _ _):p:=h
def zz6(h:p:=by
 have D_:((s[0].toNat:Int)==97)=false:=Vo;refine aaX ?_;intro _ D_;refine zr2 ?_;intro hxs O2 HP Sy B1 HM Ml PB Q6 f_ Y' a_ PJ hmc;obtain⟨TX,T6⟩:=f_;obtain⟨Tr,Tw⟩:=Y';obtain⟨Ts,TC⟩:=a_;clear hp hn U_ hm hm4 hm2 hm1 hc;go_enter func141,ntmps141;go_wp2_with fail;refine Lh ?_;intro w1 y_ T' hblk L_;go_wp2_with fail;refine CP ?_;intro w1 hb1 x hxy M_ P_ A_ u0 u1 u2 u3 u4 u5 uf;clear hb1 hblk L_ hxy;go_wp2_with fail;refine pO ?_;intro W3 hW3 R_ hb1;clear hW3 u0 u1 u2 u3 u4 u5 uf M_ P_ A_;obtain⟨q0,q1,q2,q3,q4,q5,qf⟩:=TL R_;clear R_;go_wp2_with fail;refine Ip ?_;rintro e w' ⟨rfl,rfl⟩;go_wp2_with fail;refine GR ?_;rintro e w' ⟨rfl,rfl⟩;go_wp2_with fail;refine ED ?_;rintro e w' ⟨rfl,rfl⟩;go_wp2_with fail;refine DV ?_;rintro e w' ⟨rfl,rfl⟩;go_wp2;refine ZQ (v:=.tuple #[.agg #[.int .u8 0,VI 0,.string ⟨#[]⟩,.string ⟨#[]⟩,.string ⟨#[]⟩,VI 0],.bool false]) JU rfl ⟨?_,?_⟩
 . rfl
 . exact SQ hb1 UM _ _ _ _ _ _):p:=h
def zz7(h:p:=by
 refine zr2 ?_;intro hxs O2 HP Sy B1 HM Ml PB Q6 f_ Y' a_ PJ hmc;obtain⟨TX,T6⟩:=f_;obtain⟨Tr,Tw⟩:=Y';obtain⟨Ts,TC⟩:=a_;clear hp hn U_ hm hm4 hm2 hm1 hc;go_enter func141,ntmps141;go_wp2_with fail;refine Lh ?_;intro w1 y_ T' hblk L_;go_wp2_with fail;refine CP ?_;intro w1 hb1 x hxy M_ P_ A_ u0 u1 u2 u3 u4 u5 uf;clear hb1 hblk L_ hxy;go_wp2_with fail;refine pO ?_;intro W3 hW3 R_ hb1;clear hW3 u0 u1 u2 u3 u4 u5 uf M_ P_ A_;obtain⟨q0,q1,q2,q3,q4,q5,qf⟩:=TL R_;clear R_;rcases hx with hx|hx
 all_goals
  go_wp2_with fail;refine Ip ?_;rintro e w' ⟨rfl,rfl⟩;go_wp2_with fail;refine GR ?_;rintro e w' ⟨rfl,rfl⟩;go_wp2_with fail;refine ED ?_;rintro e w' ⟨rfl,rfl⟩;go_wp2_with fail;refine DV ?_;rintro e w' ⟨rfl,rfl⟩;go_wp2;refine ZQ (v:=.tuple #[.agg #[.int .u8 0,VI 0,.string ⟨#[]⟩,.string ⟨#[]⟩,.string ⟨#[]⟩,VI 0],.bool false]) JU rfl ⟨?_,?_⟩
  . rfl
  . exact SQ hb1 UM _ _ _ _ _ _):p:=h
def zz8(h:p:=by
 refine zr2 ?_;intro hxs O2 HP Sy B1 HM Ml PB Q6 f_ Y' a_ PJ hmc;obtain⟨TX,T6⟩:=f_;obtain⟨Tr,Tw⟩:=Y';obtain⟨Ts,TC⟩:=a_;clear hp hn U_ hm hm4 hm2 hm1 hc;go_enter func141,ntmps141;go_wp2_with fail;refine Lh ?_;intro w1 y_ T' hblk L_;go_wp2_with fail;refine CP ?_;intro w1 hb1 x hxy M_ P_ A_ u0 u1 u2 u3 u4 u5 uf;clear hb1 hblk L_ hxy;go_wp2_with fail;refine pO ?_;intro W3 hW3 R_ hb1;clear hW3 u0 u1 u2 u3 u4 u5 uf M_ P_ A_;obtain⟨q0,q1,q2,q3,q4,q5,qf⟩:=TL R_;clear R_;go_wp2_with fail;refine Ip ?_;rintro e w' ⟨rfl,rfl⟩;go_wp2_with fail;refine GR ?_;rintro e w' ⟨rfl,rfl⟩;go_wp2_with fail;refine ED ?_;rintro e w' ⟨rfl,rfl⟩;go_wp2_with fail;refine DV ?_;rintro e w' ⟨rfl,rfl⟩;go_wp2;refine ZQ (v:=.tuple #[.agg #[.int .u8 0,VI 0,.string ⟨#[]⟩,.string ⟨#[]⟩,.string ⟨#[]⟩,VI 0],.bool false]) JU rfl ⟨?_,?_⟩
 . rfl
 . exact SQ hb1 UM _ _ _ _ _ _):p:=h
def zz9(h:p:=by
 have hxs:(s.extract 1 s.size).size<=119:=Vo;refine afL ?_;intro O2 HP Sy B1;have HM:Hid _:=hm;have Ml:Hid _:=hm4;have PB:Hid _:=hm2;refine zr7 ?_;intro PJ hmc TX T6 Tr Tw Ts TC;clear hp hn U_ hm hm4 hm2 hm1 hc;go_enter func141,ntmps141;go_wp2_with fail;refine Lh ?_;intro w1 y_ T' hblk L_;go_wp2_with fail;refine DR ?_;intro w2 hb1 x hxy M_ P_ A_ u0 u1 u2 u3 u4 u5 uf;clear hb1 hblk L_ hxy;go_wp2_with fail;refine pO ?_;intro W3 hW3 R_ hb1;clear hW3 u0 u1 u2 u3 u4 u5 uf M_ P_ A_;obtain⟨q0,q1,q2,q3,q4,q5,qf⟩:=TL R_;clear R_;go_wp2_with fail;refine Ip ?_;rintro e w' ⟨rfl,rfl⟩;go_wp2_with fail;refine GR ?_;rintro e w' ⟨rfl,rfl⟩;go_wp2_with fail;refine ED ?_;rintro e w' ⟨rfl,rfl⟩;go_wp2;refine ZQ (v:=.tuple #[.agg #[.int .u8 s[0].toNat,VI m2,.string ⟨#[]⟩,.string ⟨#[]⟩,.string ⟨#[]⟩,VI 0],.bool true]) JU rfl ⟨?_,?_⟩
 . rfl
 . exact SQ hb1 UM _ _ _ _ _ _):p:=h
def aou(h:p:=by
 refine Uh 19 ?_;refine Ur 20 ?_;refine Ze (i:=21) (oi:=_) (v:=_) rfl VE VE VE Nh Gu Ox ?_;refine MC ?_;refine Ze (i:=22) (oi:=_) (v:=_) rfl VE VE VE Nh Gu Ox ?_;refine MC ?_;refine Ze (i:=23) (oi:=_) (v:=_) rfl VE VE VE Nh Gu Ox ?_;refine MC ?_;refine Ze (i:=24) (oi:=_) (v:=_) rfl VE VE VE Nh Gu Ox ?_;refine MC ?_;refine Ur 25 ?_;refine Ul 26 λY_ Z_=>?_;refine Vg ?_;intro hHeld;clear Z_ Y_
 try refine UE ?_
 refine Ur 27 ?_;refine Nr ?_;go_wp2;refine ZQ (v:=.tuple #[.agg #[.int .u8 99,VI 0,.string y1,.string y0,.string y2,VI 0],.bool false]) AY rfl ⟨QX ⟨99,0,q,p,r⟩ false ?_ ?_,?_⟩
 . rw[HR.o,<- E0.o,<- E1.o,<- E2.o];simp[B0.o,B1.o,B2.o]
 . rw[<- E0.o,<- E1.o,<- E2.o];rfl
 . exact((((((L_.setCell UM _).setCell UM _).setCell UM _).setCell UM _).setCell UM _).setCell UM _).drew):p:=h
def adJ(h:p:=by
 refine Pg ?_;go_wp2;have d0:=W_.o.to.rd.c0;have d1:=W_.o.to.rd.c1;have hq1:(0:Int)<=(i:Int):=VH;have hq1:(i:Int)<=(i:Int)+1:=VH;have hq1:(i:Int)+1<=s.size:=VH;refine Uy ?_;refine ZT (S:=(λw'=>w'.cell? (VJ b 0)=some (.string s)/\w'.cell? (VJ b 1)=some (VI ((i+1:Nat):Int)))) VE UG (λhHeld=>?_);refine zC ?_;refine aaP ?_;intro Y_ Z_;refine(JA (s.extract i (i+1)) _ IH.o ahy).mono ?_;rintro e w1 ⟨rfl,hb⟩;rw[zj.o];have W_:Hid _:=(W_.o).drew.below hb;clear d0 d1 hb;refine ajI ?_;intro _ _ _ _ _ z0 zf d0 d1
 try go_wp2_with fail
 refine Z_.go λhHeld=>?_;clear Z_ Y_;refine La ?_;refine Ul 12 λY_ Z_=>?_;refine Vg ?_;intro hHeld;clear Z_ Y_;refine Um ?_;go_wp2;refine iC ?_
 exact ajD):p:=h
def am2(h:p:=by
 obtain⟨qb,qk⟩:=q;have dz:w6.cell? (VJ rb 24)=some (VG qb):=h6.run.ct;have hne:=ajW h6.LY.1.raw.Vb hc;have h7:=h6.look (Df:=NoD) (λk e=>(e:False).elim)
 have cG:Hid (alB w0 m0 K0 rb R qb gj w6):=⟨m',K',fuel',qk,bs',g,gs,h7,i_,VH,aiu,WD⟩
 have HO7:Hid (FOn w0 m0 K0 rb R gj w6):=⟨m',K',fuel',_,_,h7,i_,VH,aiu,WD⟩
 clear h6 h7 hc hg i_ WD;by_cases LN:qb=fb
 . subst LN;have ya:(binOp .neq 172 (VG qb) (VG qb)).run prog w6=.ok (.bool false) w6:=by rw[hne];simp
   clear hne;refine Z_.go λhHeld=>?_;clear Z_ Y_;refine DT ?_;go_wp2
   go_roundg gj
   case measure=>omega
   case rel=>exact⟨cG.o,VH⟩
 . have ya:(binOp .neq 172 (VG qb) (VG fb)).run prog w6=.ok (.bool true) w6:=by rw[hne];simp[LN]
   clear hne;refine Z_.go λhHeld=>?_;clear Z_ Y_;refine DT ?_;go_wp2
   go_roundg gj
   case measure=>omega
   case rel=>exact .inl HO7.o):p:=h
def dH(h:p:=by
 have hrun:=To.sent T1 rfl;have Pf:r=(Vl.zero,K'.en,0,m'):=alX;subst Pf;obtain⟨y2,y3⟩:=RQ a0 a1 (.bool false) (VI 0);have HZ:Hid (Vu w ((Y.setCell (VJ (w.heap.size+1) 0) (.bool false)).setCell (VJ (w.heap.size+1) 1) (VI 0)) m K m' K'):=HY.o.1.told IB HY.o.2 _ _;obtain⟨en,hen⟩:∃en,en=K'.en:=Vx;have pn:Hid _:=hen;rw[<- hen]at UV KB;clear T1 hrun hr0 hen;go_wp2_with fail;refine Uy ?_;refine ZT (S:=(λw'=>w'.cell? (VJ K.b 4)=some (VI en))) VE UG (λhHeld=>?_);refine ado ?_;intro hHeld;refine Uh 6 ?_;refine Ur 7 ?_;refine Nr ?_;go_wp2_with fail
 exact ZQ (OD results28 _ _ _ _ rfl rfl rfl y2 y3) rfl ano):p:=h
def an8(h:p:=by
 refine(tK hW m cb cm c0 sel hm hc0 ut hQ hR).mono ?_;rintro e W3 ⟨rfl,tA,R4,hW3,Kp,hc3,hd4⟩;have hbW:=(OP.block b Sp.tab.Vb.lt h.bn).trans (hc1.block b h.tab.Vb.lt (λe=>W7 e.symm));refine⟨rfl,l,ps,tA,R4,hW3,?_,⟨Z2.l,λp q e=>Z2.arr p q (Kp p q e)⟩,?_,(UK.of_block hbW).trans hd4⟩
 . obtain⟨es',db,hx,_⟩:=id pE;refine pE.same (hc3.block _ pE.lt (λe=>?_));rcases e with e|e
   . exact W7 e
   . exact TT hW.Ru hx e
 . refine((hc1.mono (λj _ e=>.inr (.inl e))).then OP (λj _ e=>.inr (.inr e))).then hc3 (λj hj e=>?_);rcases e with e|e
   . exact .inl e
   . have hx:=Td.old (K:=K) (N:=w.heap.size) (l:=l) (ps:=ps) (pm:=pm) (R:=K.R) EP Z2.l Z2.arr;rcases hx with hx|hx
     . exact .inr (.inr hx)
     . omega):p:=h
def am8(h:p:=by
 refine Gg ?_;intro HH L_ Ng Ma;clear E_ TH;clear h;go_enter func109,ntmps109;go_wp2;refine Ot ?_;intro G HR HG;go_wp2_with fail;refine vP ?_;intro w1 X_;refine ak6 ?_;intro Bb sI hz oq _ _ _ _ _ z0 zf;clear X_ hz;go_wp2;refine HR.o _ _ _ ?_;refine ZQ (Rt results109 _ _ _ _ _ rfl ai7) rfl ?_
 exact⟨rfl,(Bb.o.N8 L_ UM _ _ _ _ _).alloc _⟩):p:=h
def amL(h:p:=by
 have hc:∀i x o,ws[i]?=some x->w'.cell? (VJ g o)=w.cell? (VJ g o):=λi x o hx=>hb.cell (p:=(VJ g o)) (by
  have:1<=ws.length:=by have:=(Z7.1 hx).1;omega
  have:=h.lt this;show g<B
  omega)
 exact⟨h.head,λe=>ZY (h.lt e) hb.size,λi x hx=>(hc i x _ hx).trans (h.c0 i x hx),λi x hx=>(hc i x _ hx).trans (h.c1 i x hx),λi x hx=>(hc i x _ hx).trans (h.c2 i x hx),
  λi x hx=>(hc i x _ hx).trans (h.c3 i x hx),λi x hx=>(hc i x _ hx).trans (h.c4 i x hx),λi x hx=>(hc i x _ hx).trans (h.c5 i x hx)⟩):p:=h
def anc(h:p:=by
 skip;by_cases hb:(slots:Int)<=xn
 . skip;go_wp2
   go_ret2
   exact⟨7,k,rfl,.inl ⟨k,hkn,rfl,.inr (HS.o.2 VH),G'.o,λh=>by have:=HA.o.1 h;omega,λ_=>rfl⟩,ZR _ _⟩
 . skip;go_wp2
   go_round
   case rel=>
    refine⟨k+1,Uu,VH,λj hj=>?_⟩;by_cases e:j=k
    . subst e;rintro(h|h)
      . have:=HA.o.1 h;omega
      . have:=HS.o.1 h;omega
    . exact G'.o j VH
   case measure=>simp[intOf]<;>omega):p:=h
def aaF(h:p:=by
 have hrun:=To.sent T1 rfl;have Pf:r=(v,0,0,m'):=ama;subst Pf;obtain⟨y2,y3⟩:=RQ a0 a1 (.bool v.obj) (VI v.n);have HZ:Hid (Vu w ((Y.setCell (VJ (w.heap.size+1) 0) (.bool v.obj)).setCell (VJ (w.heap.size+1) 1) (VI v.n)) m K m' K'):=HY.o.1.told IB HY.o.2 _ _;rw[he0]at UV;clear T1 hrun he0 hr0;go_wp2_with fail
 exact ZQ (OD results28 _ _ _ _ rfl rfl rfl y2 y3) rfl am7):p:=h
def aoD(h:p:=by
 rcases e with e|e|e|e|e|e
 . exact .inl (.inl e)
 . exact .inl vJ
 . exact .inl EP
 . rcases e with e|e|e|e
   . exact .inl (.inr (.inr (.inr (.inl (.inl e)))))
   . exact .inl (.inr (.inr (.inr (.inl vJ))))
   . rcases hpb k e with e|e
     . exact .inl (.inr aoN)
     . exact .inr e
   . exact .inl (.inr (.inr (.inr (.inl aeg))))
 . exact .inl mM
 . exact .inl aaN):p:=h
def anH(h:p:=by
 rintro e w1 ⟨rfl,X_⟩;rw[wT.o]at X_ ⊢;have J_:=J_.o.call X_;clear z0 z1 z2 z3 z4 z5 zf u0 u1 u2 u3 u4 u5 uf;refine IV ?_;intro z0 z1 z2 z3 z4 z5 zf u0 u1 u2 u3 u4 u5 uf;have N1:Hid _:=J_.bV (.string (VF nq));clear J_ X_;go_wp2;refine aeP ?_
 exact aiC):p:=h
def aj6(h:p:=by
 refine JM ?_;split
 . rename_i b a r hs;by_cases ho:(a.obj||b.obj)=true
   . rw[ZU ho];exact h
   . rw[ZX ho];refine LP h LW (a1 LW uI mO (λy hy=>?_)) I' C';rcases ZM.1 hy with rfl|hy
     . exact jZ m (qp _)
     . exact hf.st y kR
 . exact h):p:=h
def amx(h:p:=by
 rw[ht]at TE;have hr0:=eT.o
 rw[ZU (by
  rw[V8]
  exact⟨⟨true,vn⟩,Zo _ (ZK HV.o),by simp[ht]⟩)]at hr0
 subst hr0;go_wp2_with fail;refine TE.mono ?_;refine Sl ?_;go_wp2
 exact ZQ (OD results28 _ _ _ _ rfl rfl rfl y0 y1) rfl abQ):p:=h
def amW(h:p:=by
 rw[hcs,WY]at hc;refine ahc ?_;intro Ss tQ;rw[tQ,Fy]at I1;unfold TM at I1;injection I1 with I1;injection I1 with I1;injection I1 with I1 _ _
 exact absurd I1.symm e1):p:=h
def al0(h:p:=by
 skip;by_cases hb:(ws.length:Int)<xn
 . skip;go_wp2
   go_ret2
   exact amr
 . skip;go_wp2
   go_round
   case rel=>
    refine⟨k+1,Uu,VH,λj hj=>?_⟩;by_cases e:j=k
    . subst e;rintro(h|h)
      . have:=HA.o.1 h;omega
      . have:=HS.o.1 h;omega
    . exact G'.o j VH
   case measure=>simp[intOf]<;>omega):p:=h
def aov(h:p:=by
 clear h hok;go_enter func21,ntmps21;go_wp2_with fail;rw[<- hW];clear hW;refine Z3.mono ?_;refine Sl ?_;go_wp2;obtain⟨y0,y1⟩:=RQ z0 z1 (.bool false) (VI 0)
 exact ZQ (O1 results21 _ _ _ rfl rfl y0 y1) rfl ⟨rfl,SG.below HH.o (pW HB.o UM _ _)⟩):p:=h
def alL(h:p:=by
 clear hbad;go_enter func28,ntmps28;go_wp2_with fail;rw[<- hW];clear hW;refine CB ?_;go_wp2_with fail;refine hag.mono ?_;refine Sl ?_;go_wp2
 exact ZQ (OD results28 _ _ _ _ rfl rfl rfl y0 y1) rfl abQ):p:=h
def alZ(h:p:=by
 have hno:∀(i:Nat) (x:Kn.W×Nat),d.ws[i]?≠some x:=λi x hx=>by have:=(Z7.1 hx).1;omega
 exact⟨λh=>absurd h h1,λh=>absurd h h1,λi x hx=>absurd hx EH,λi x hx=>absurd hx EH,λi x hx=>absurd hx EH,λi x hx=>absurd hx EH,λi x hx=>absurd hx EH,λi x hx=>absurd hx EH⟩):p:=h
def anR(h:p:=by
 exact⟨some (VJ g 0),g,cap,rfl,⟨λ_=>rfl,λ_=>(Z5.1 hg).1,λi x hx=>key i x 0 _ hx VH rfl,λi x hx=>key i x 1 _ hx VH rfl,λi x hx=>key i x 2 _ hx VH rfl,
  λi x hx=>key i x 3 _ hx VH rfl,λi x hx=>key i x 4 _ hx VH rfl,λi x hx=>key i x 5 _ hx VH rfl⟩⟩):p:=h
def anv(h:p:=by
 intro d k hk;rw[SL]at hk;by_cases e:c=d
 . rw[ZU e]at hk
   cases hd:m.kl[d]? with
   | none=>rw[hd]at hk;cases hk
   | some k0=>rw[hd]at hk;simp at hk;subst hk;exact⟨k0,rfl,rfl,rfl,rfl,.inl ⟨e,rfl⟩⟩
 . rw[ZX e]at hk
   exact⟨k,hk,rfl,rfl,rfl,.inr ⟨e,rfl⟩⟩):p:=h
def aoq(h:p:=by
 clear hj;go_enter func24,ntmps24;go_wp2_with fail;rw[<- hW];clear hW;refine zA ?_;go_wp2;obtain⟨y0,y1⟩:=RQ z0 z1 (.bool false) (VI 0)
 exact ZQ (O1 results24 _ _ _ rfl rfl y0 y1) rfl acR):p:=h
def aoa(h:p:=by
 refine⟨T_,hpl,λp hp=>?_,λp hp=>?_,hch⟩
 . have:TM p∈es.toList.map (·.key):=by rw[GG];exact Zy.2 apV
   obtain⟨e,he,zP⟩:=Zy.1 this;exact hdone e he p zP (zy hl0 he)
 . rcases WK p with h|h
   . exact h
   . exact absurd h.1 hp):p:=h
def ao3(h:p:=by
 have d0:=hcm.2.2.1
 try go_wp2_with fail
 refine Z_.go λhHeld=>?_;clear Z_ Y_
 try refine UE ?_
 have Rb:=Ee e0 he w2;refine Ul 9 λY_ Z_=>?_;go_simp;refine Rb.mono ?_;rintro e w3 ⟨rfl,rfl⟩
 exact⟨rfl,rfl,K',hcm.1.Qj⟩):p:=h
def anl(h:p:=by
 obtain⟨cur,V_⟩:=h.Uc.img;rw[<- e]at V_;rcases hcs with hc|hc
 . rw[V_]at hc;injection hc with hc;injection hc with _ hc _;revert hc;decide
 . rw[V_]at hc;injection hc with hc
   injection hc with _ hc _;revert hc;decide):p:=h
def aog(h:p:=by
 rw[WX,OS.o,WY,Y3];intro e;rw[V8]at e;obtain⟨u,hu,hu2⟩:=e;obtain⟨k,hk⟩:=Yd hu;have:=HG.o k u (Z7.1 hk).1 hk;rw[hu2]at this
 cases this):p:=h
def rM(h:p:=by
 rintro e w1 ⟨rfl,j,hj,X_,hjn⟩;have W_:Hid _:=W_.o.call X_;clear X_;have q:=W_.o.al;have HJ:Hid _:=hjn;clear hjn;go_wp2;refine iC ?_
 exact ah0):p:=h
def amF(h:p:=by
 have hv:(zeroValue 64).run prog w=.ok (.agg #[Value.pointer none,.string ⟨#[]⟩,.pointer none,.pointer none]) w:=zeroValue64 w;rw[hm]at hst hzs ⊢
 simp[Builtin.clear_,Zu underlying139,hv,Value.cells,hzs,hst]):p:=h
def ang(h:p:=by
 refine Pg ?_;go_wp2;refine HR.o _ _ _ ?_;refine ZQ (Rt results109 _ _ _ _ _ rfl ai7) rfl ?_
 exact⟨rfl,_,ale,(Bb.o.N8 L_ UM _ _ _ _ _).alloc _⟩):p:=h
def anZ(h:p:=by
 clear h h0 hf hv hok Wm hz;go_enter func16,ntmps16;go_wp2_with fail;refine O_.mono ?_;rintro e w' ⟨rfl,rfl⟩;go_wp2;refine aaZ ?_
 exact⟨rfl,K,W_.o⟩):p:=h
def anS(h:p:=by
 subst hdr;clear hr hsl;go_enter func23,ntmps23;go_wp2_with fail;refine hcall.mono ?_;rintro e w' ⟨rfl,rfl⟩;go_wp2;refine aaZ ?_
 exact⟨rfl,HB.o⟩):p:=h
def amk(h:p:=by
 exact⟨m,_,rfl,hs2.rk,(HQ.o.run.trans (HE.o.run z fb)).trans (hs2.run z fb),ZN _,.inr ⟨by show (3:Int)≠0;omega,by rcases hkk with rfl|rfl|rfl|rfl<;>(simp[VA];exact To.refl _)⟩⟩):p:=h
def aj7(h:p:=by
 exact⟨λh=>absurd h h1,λh=>absurd h h1,λi x hx=>absurd hx EH,λi x hx=>absurd hx EH,λi x hx=>absurd hx EH,λi x hx=>absurd hx EH,λi x hx=>absurd hx EH,λi x hx=>absurd hx EH⟩):p:=h
def amP(h:p:=by
 by_cases hd0:d=0
 . obtain⟨ms,hm⟩:=h.any;rw[hd0,hm]at hk;injection hk with hk;rw[<- hk]at hb;cases hb
 . obtain⟨b',e1,e2,_⟩:=h.up d k hk hd0;rw[e1]at hb;injection hb with hb
   omega):p:=h
def anm(h:p:=by
 by_cases e:j=i
 . subst e;rw[ho _ _ _ _ VH,ho _ _ _ _ VH,ho _ _ _ _ VH,Vr (h.c0 j hj)];simp
 . rw[ho _ _ _ _ VH,ho _ _ _ _ VH,ho _ _ _ _ VH,ho _ _ _ _ VH,h.c0 j hj]
   simp[e]):p:=h
def am9(h:p:=by
 refine ZQ (RI results97 _ _ rfl y0 y1) rfl ⟨v',m',K',e1,(Vu.below e2 (ZR _ _).drew).rk,e3.trans ((Vu.below e2 (ZR _ _).drew).run _ _),e4,e5⟩):p:=h
def afb(h:p:=by
 refine Pg ?_;go_wp2;refine HR.o _ _ _ ?_;refine ZQ (Rt results109 _ _ _ _ _ rfl apa) rfl ?_
 exact aoK):p:=h
def afT(h:p:=by
 refine Pg ?_;go_wp2;refine aeP ?_
 exact amf):p:=h
def apH(h:p:=by
 refine H3.o.top h0 (f':={f with pc:=f.pc+1}) ?_ ?_ rfl rfl
 . rw[hW3];exact(Vt.refl _ (λk=>k=fb)).setCell _ _ (λ_=>rfl)
 . rw[hW3]
   exact H3.o.LY.1.raw.goto (f.pc+1)):p:=h
def apv(h:p:=by
 rw[hW1];have:=(Z4 (w.alloc (.cells #[.pointer (Vq (C_.map K.cb)),.string s] 59)) (.cells #[.bool to.obj,VI to.n] 33)).1;rw[ZJ]at this
 exact this):p:=h
def anY(h:p:=by
 have h1:=hcl.at_ c _ (Z8 hc);refine⟨TK hP h1 Vz Vz,λe=>?_⟩;rw[e,S3]at h1;injection h1 with h1;injection h1 with _ h1 _;revert h1
 decide):p:=h
def ao8(h:p:=by
 refine⟨#[],pm,(Z4 w _).1,eV.o.same (λk hk=>ZV w _ k (nh.o k hk)),λe _ p _ hc=>by simp at hc,λp=>.inl rfl,(Vt.refl w _).alloc _⟩):p:=h
def apd(h:p:=by
 rcases hf with⟨j',hj',ea,hb,_,h1,h7⟩|⟨_,h6,_⟩
 . by_cases ha:TJ (Vh src).1 (U6 sel) j'
   . have:=h1 ha;omega
   . have:=h7 ha;omega
 . omega):p:=h
def apT(h:p:=by
 have hx:∀k,k<W1.heap.size->¬U2 m K k->W3.heap[k]?=W1.heap[k]?:=λk e1 e2=>(hc3.block k VH VH).trans ((hst.Ut.block k Vo e2).trans (hBb.block k e1))
 exact hx):p:=h
def al2(h:p:=by
 have hp2:tmps[p]?.getD undef=(VG z):=adi;have hk2:tmps[k]?.getD undef=v:=amu;have hl2:tmps[l]?.getD undef=u:=by rw[<- hl];simp
 simp[results,h,hp2,hk2,hl2,go_sem,z0,z1]):p:=h
def am4(h:p:=by
 by_cases e:j=i
 . subst e;rw[ho _ _ _ _ VH,ho _ _ _ _ VH,Vr anL];simp
 . rw[ho _ _ _ _ VH,ho _ _ _ _ VH,ho _ _ _ _ VH,ho _ _ _ _ VH,h.c1 j hj]
   simp[e]):p:=h
def anh(h:p:=by
 simp only[WU,Zq];constructor
 . rintro(h|h)
   . exact .inl VH
   . exact .inr h
 . rintro(h|h)
   . exact .inl VH
   . exact .inr h):p:=h
def anj(h:p:=by
 refine⟨k+1,Uu,VH,λj hj=>?_⟩;by_cases e:j=k
 . subst e;rintro(h|h)
   . have:=HA.o.1 h;omega
   . have:=HS.o.1 h;omega
 . exact G'.o j VH):p:=h
def ao4(h:p:=by
 have:v=[]:=by
  have:=YV List.length hv;rw[Zw]at this;exact Yq VH
 rw[this,XR]at hv;rw[hv]
 exact hc):p:=h
def anO(h:p:=by
 intro d e k l hk hl hkl;obtain⟨k0,h0,hn,_⟩:=get d k hk;obtain⟨l0,h1,Z1,_⟩:=get e l hl
 exact h.once d e k0 l0 h0 h1 (by rw[<- hn,<- Z1];exact hkl)):p:=h
def anT(h:p:=by
 go_wp2;refine yM ?_
 exact⟨rfl,H,_,va,A,((ak4 hi1.o VH HR.o HO.o).mono uq),λ_ _ h=>h,ZN _⟩):p:=h
def aoi(h:p:=by
 by_cases e:j=i
 . subst e;rw[ho _ _ _ _ VH,Vr amj];simp
 . rw[ho _ _ _ _ VH,ho _ _ _ _ VH,ho _ _ _ _ VH,ho _ _ _ _ VH,h.c2 j hj]
   simp[e]):p:=h
def aoQ(h:p:=by
 refine⟨5,rfl,VH,hb.alloc VH _,λj hj=>?_⟩;by_cases ej:j=4
 . subst ej;intro h;injection h with h;exact HE.o h.symm
 . exact G'.o j VH):p:=h
def anw(h:p:=by
 refine⟨4,rfl,VH,hb.alloc VH _,λj hj=>?_⟩;by_cases ej:j=3
 . subst ej;intro h;injection h with h;exact HE.o h.symm
 . exact G'.o j VH):p:=h
def anB(h:p:=by
 refine⟨3,rfl,VH,hb.alloc VH _,λj hj=>?_⟩;by_cases ej:j=2
 . subst ej;intro h;injection h with h;exact HE.o h.symm
 . exact G'.o j VH):p:=h
def amQ(h:p:=by
 refine⟨2,rfl,VH,hb.alloc VH _,λj hj=>?_⟩;by_cases ej:j=1
 . subst ej;intro h;injection h with h;exact HE.o h.symm
 . exact G'.o j VH):p:=h
def ao5(h:p:=by
 refine⟨1,rfl,VH,hb.alloc VH _,λj hj=>?_⟩;by_cases ej:j=0
 . subst ej;intro h;injection h with h;exact HE.o h.symm
 . exact G'.o j VH):p:=h
def apw(h:p:=by
 have:en.key∈es.toList.map (·.key):=Zy.2 ⟨en,UB,rfl⟩;rw[GG]at this;obtain⟨q,hq,e⟩:=Zy.1 this
 exact⟨q,hq,e.symm⟩):p:=h
def aoI(h:p:=by
 refine⟨none,0,0,by rw[h0],⟨λe=>VH,λe=>VH,?_,?_,?_,?_,?_,?_⟩⟩
 all_goals
  intro i x hx;have:=(Z7.1 hx).1
  omega):p:=h
def amN(h:p:=by
 have:=(Z4 (w.alloc (.cells #[.bool to.obj,VI to.n] 33)) (.cells #[.bool false,VI 0] 33)).1;rw[ZJ]at this
 exact this):p:=h
def aoJ(h:p:=by
 rintro k ⟨p,s,hps,e|e⟩
 . subst e;exact(hP.Vb hps).lt
 . obtain⟨cr,hcr⟩:=hP.Qz hps e
   exact(Z5.1 hcr).1):p:=h
def aoB(h:p:=by
 refine Sl ?_;go_wp2
 exact ZQ (OD results28 _ _ _ _ rfl rfl rfl y0 y1) rfl abQ):p:=h
def an9(h:p:=by
 refine LP h LW (a1 LW uI mO (λy hy=>?_)) I' C';rcases ZM.1 hy with rfl|hy
 . exact akl m _
 . exact hf.st y kR):p:=h
def apM(h:p:=by
 have hx:∀k,k<W1.heap.size->¬U2 m K k->W3.heap[k]?=W1.heap[k]?:=λk e1 e2=>(hb3.block k VH).trans (hst.Ut.block k e1 e2)
 exact hx):p:=h
def aom(h:p:=by
 by_cases e:j=i
 . subst e;rw[Vr aoM];simp
 . rw[ho _ _ _ _ VH,ho _ _ _ _ VH,ho _ _ _ _ VH,ho _ _ _ _ VH,h.c3 j hj]
   simp[e]):p:=h
def anp(h:p:=by
 obtain⟨jb,rfl,h4,h5⟩:=h.inn t u hu;by_cases e:jb=ib
 . subst e;exact⟨jb,rfl,by simpa using hp,h5⟩
 . exact⟨jb,rfl,apr,h5⟩):p:=h
def ao1(h:p:=by
 by_cases hv2:v.ownBlock=some k/\w.heap.size<=k
 . rw[hsz];exact(ho.lt k hv2.1).2
 . rw[ZX hv2]at e
   exact absurd (h.lt k e) hk):p:=h
def amS(h:p:=by
 rw[h]at hv;have e:=YV List.length hv;rw[Zh,VB,Zw]at e;have:=List.length_pos_iff.2 hne
 omega):p:=h
def al8(h:p:=by
 rw[hr2];unfold Nz;rw[hd,hf,ZX (λh=>hx h.2)];unfold LH;rw[hf,ZX VH];unfold Mc;rw[hf,ZX VH]
 exact(h8 VH).1):p:=h
def akv(h:p:=by
 rw[Ss]at hb;simp only at hb ⊢;by_cases he:e=0
 . rw[ZU he];exact LP hb.1 hb.2 apN I' C'
 . rw[ZX he]
   exact hb.1):p:=h
def afS(h:p:=by
 rw[OG _ _ Vy Vy Vz (.inr aaW),ZX ao7,ZX ao7,ZX Vz,ZX Vz,ZX Vz];rw[<- Y7 h]
 rfl):p:=h
def al3(h:p:=by
 obtain⟨cs,e,hz⟩:=h;refine⟨cs.setIfInBounds o v,?_,by simp[hz]⟩;simp only[World.setCell,Zz,ZU,e]
 rfl):p:=h
def anA(h:p:=by
 by_cases h0:k=w.heap.size
 . omega
 . by_cases h2:k=w.heap.size+1
   . omega
   . rw[ZX h0,ZX h2]at e
     exact absurd rfl e):p:=h
def ant(h:p:=by
 rw[SL];by_cases e:c0=c
 . rw[ZU e,hk];exact⟨_,rfl,rfl,rfl,rfl⟩
 . rw[ZX e]
   exact⟨k,hk,rfl,rfl,rfl⟩):p:=h
def anu(h:p:=by
 have:=(Z7.1 hv).1
 exact⟨(fo _ _ _ _ VH).trans (h.ca i v hv).1,(fo _ _ _ _ VH).trans (h.ca i v hv).2⟩):p:=h
def amy(h:p:=by
 rw[hi]at hs;simp at hs;have h:=N7 (P:=prog) (w:=w) underlying57 hi VH hp hq;simp only[binOp]
 simp[h]):p:=h
def anW(h:p:=by
 rw[hg]at T9;obtain⟨rfl,K',GO⟩:=T9;have hR:=HX.o.2.2.1;rw[hg,run_stop]at hR;subst hR
 exact⟨rfl,rfl,K',GO⟩):p:=h
def ao9(h:p:=by
 refine⟨x,?_,?_⟩
 . rw[he,h];cases b<;>rfl
 . intro y hy;rw[h]at hy;cases b
   . cases hy
   . injection hy):p:=h
def aor(h:p:=by
 refine Frs.same (m:=m) Ji iV bs fs h.homes h.LY (λp hp=>hch.block p.1 (h.lo p.1 ig).2.1 (λe=>hnd.1 ac0))):p:=h
def aoe(h:p:=by
 rw[QK (QK hb _ _) _ _,show N-g=N-(g+1)+1 from VH,<- dG g HG.o.2.2.2.2.2,Ej _ _ _ Vo]
 simp):p:=h
def anP(h:p:=by
 funext d;unfold Im.tot Im.UY;simp only[Y4];by_cases e:c=d
 . subst e;rw[hk];simp
 . simp[e]):p:=h
def alm(h:p:=by
 have hp2:tmps[p]?.getD undef=(VG z):=adi;have hk2:tmps[k]?.getD undef=v:=amu
 simp[results,h,hp2,hk2,go_sem,z0,z1]):p:=h
def agz(h:p:=by
 go_wp2_with fail;rw[<- hW1];clear hW1;refine hcall.mono ?_;rintro e w2 ⟨rfl,hc2⟩;clear hcall;go_wp2
 exact ahs):p:=h
def amg(h:p:=by
 obtain⟨cs,e,hz⟩:=h.blk;refine⟨cs[o]' VH,?_⟩;simp only[World.cell?,e]
 exact Xx VH):p:=h
def anb(h:p:=by
 rw[Na]at e;by_cases e2:s=VF x.1.sel
 . rw[ZU e2]at e;cases e
 . rw[ZX e2]at e
   exact e):p:=h
def aoS(h:p:=by
 have hx1:∀p,Reg l ps sel p↔p∈ps ib:=λp=>⟨λ⟨jb,e,h⟩=>apO,λh=>⟨ib,hl,h⟩⟩
 exact hx1):p:=h
def aoZ(h:p:=by
 split at h
 . split at h
   . injection h with h;subst h;exact key _ _ _ _ Vy
   . cases h
 . cases h):p:=h
def abK(h:p:=by
 exact((((((L_.setCell UM _).setCell UM _).setCell UM _).setCell UM _).setCell UM _).setCell UM _).drew):p:=h
def ak0(h:p:=by
 obtain⟨⟨d,k⟩,e1,e2⟩:=Yl.1 hx;subst e2
 exact fH hm (PI _ _ _ _ e1).1 hc):p:=h
def ae6(h:p:=by
 refine⟨?_,?_⟩
 . rw[HE.o.1,<- Gj];rfl
 . rw[<- HE.o.2]
   exact(HT.o.drewN _).drewN _):p:=h
def anr(h:p:=by
 have hx:Sg Dd w0 m0 K0 rb W3 m' K' fuel ((fb,mk)::bs) (f::fs):=by rw[hW1];exact h2.below zt7
 exact hx):p:=h
def ajQ(h:p:=by
 rcases hr with⟨hr|hr,hl⟩|hr
 . exact .inl (Ms r hr hl)
 . exact .inr hr
 . exact .inr hr):p:=h
def ahm(h:p:=by
 obtain⟨k,hk⟩:=YG.1 hc;rw[Zn]at hk
 exact h (a+k) c VH hk):p:=h
def aiW(h:p:=by
 simp only[Y2,YL]at h;obtain⟨rfl,rfl⟩:=h
 exact⟨.inl rfl,Vy⟩):p:=h
def aiz(h:p:=by
 rw[PY,ZP (by rw[MP];omega),MP]
 simp[P9]):p:=h
def agQ(h:p:=by
 simp[im0]at hk;simp[ajv]at hx;subst hk hx
 exact⟨rfl,rfl,rfl,none,0,rfl,λe=>sH⟩):p:=h
def ajt(h:p:=by
 rw[e',ha]at V_;injection V_ with V_;injection V_ with _ V_ _;revert V_
 decide):p:=h
def aa2(h:p:=by
 rw[V_]at this;injection this with this;injection this with _ this _;revert this
 decide):p:=h
def ag2(h:p:=by
 have h1:=HX.o.2.2.1;rw[HG.o,rF]at h1
 exact .inr ⟨m',v,h1.symm,rfl,HP.o⟩):p:=h
def aiR(h:p:=by
 go_wp2_with fail
 exact ZQ (RI results97 _ _ rfl y0 y1) rfl HP.o):p:=h
def ame(h:p:=by
 have hx1:∀p,¬Reg l ps sel p:=λp ⟨ib,e,_⟩=>by rw[hl]at e;cases e
 exact hx1):p:=h
def ahL(h:p:=by
 rw[HK.o]at hx;injection hx with hx;injection hx with _ hx;rw[<- hx,HA.o]
 omega):p:=h
def ahD(h:p:=by
 refine⟨_,by rw[HZ.o];rfl,λe=>?_,L_.alloc VH _⟩;rw[HZ.o]at e
 simp at e):p:=h
def agT(h:p:=by
 subst e;have:=HV.o.symm.trans hu;injection this with this;rw[<- this]
 simp[ht]):p:=h
def ajF(h:p:=by
 split at hy
 . injection hy with hy;subst hy;exact key _ _ _ _ Vy
 . cases hy):p:=h
def ag3(h:p:=by
 have hx:=MH (bl s) g1 g2 G8;rw[MY,Ue,ZU h]at hx
 exact hx):p:=h
def ajm(h:p:=by
 have hadd:(VJ g 0).add (i*6+c)=(VJ g (i*6+c)):=qP;rw[hadd]at this
 exact this):p:=h
def zi(h:p:=by
 unfold RP at h ⊢;simp only[World.setCell,Zz,ZU,h]
 rfl):p:=h
def adp(h:p:=by
 by_cases e:k=rb
 . rw[e];exact hr.Vb
 . exact(h.dead k hk).2.2.2.same ai6):p:=h
def ajz(h:p:=by
 subst e;rw[hx]at hy;injection hy with hy;subst hy
 exact .inr ⟨h2.symm,h3⟩):p:=h
def zx(h:p:=by
 rcases V' k hk with e|e
 . exact h.gl k e hg
 . have:=h.J7.lt hg
   omega):p:=h
def agP(h:p:=by
 intro d k hk;obtain⟨k0,h0,hn,_⟩:=get d k hk;rw[hn]
 exact h.names d k0 h0):p:=h
def ahX(h:p:=by
 subst e;have:=HV.o.symm.trans hu;injection this with this;rw[<- this]
 rfl):p:=h
def acZ(h:p:=by
 split at h
 . injection h with h;subst h;exact key _ _ _ _ Vy
 . cases h):p:=h
def aiB(h:p:=by
 subst e;rw[Si s j hlt]at hj;injection hj with hj;rw[<- hj]
 exact hsm):p:=h
def aiK(h:p:=by
 rw[h1]at hx;injection hx with hx
 injection hx with _ hx _;revert hx;decide):p:=h
def amq(h:p:=by
 rcases hst.foot z e with e|e
 . have:=hfw z e;omega
 . simp at e
   omega):p:=h
def am0(h:p:=by
 have hx:∀k,U2 m K k->k<w.heap.size:=λk e=>h.Qj.Ub.lt e
 exact hx):p:=h
def aa8(h:p:=by
 have hp2:tmps[p]?.getD undef=(VG z):=adi
 simp[results,h,hp2,go_sem,z0,z1]):p:=h
def qQ(h:p:=by
 clear h;go_enter func8,ntmps8;go_wp2
 all_goals (go_ret2;exact KP)):p:=h
def aem(h:p:=by
 rw[ZJ]at this
 exact(ZV _ _ _ Vy).trans this):p:=h
def ajg(h:p:=by
 have hx:¬(bl s)[j]?.getD 0=32:=by rw[hg];intro e;exact C' Sv
 exact hx):p:=h
def abq(h:p:=by
 refine HC.o.word HH.o.2 ?_
 simp[VA,vG,Kn.wrap64,IntWalk.i64_left]):p:=h
def ad3(h:p:=by
 have:=Rq _ q acX;rw[Zh,VB]at this
 omega):p:=h
def adr(h:p:=by
 have:=Rq _ p acX;rw[Zh,VB]at this
 omega):p:=h
def ahT(h:p:=by
 have hx:=HW.o;rw[E_,VB,XQ hl]at hx
 exact hx.symm):p:=h
def aii(h:p:=by
 have hx:=HW.o;rw[E_,VB,Xh hl]at hx
 exact hx.symm):p:=h
def ac5(h:p:=by
 have hadd:(VJ g 0).add j=(VJ g j):=qP;rw[hadd]at this
 exact this):p:=h
def ah2(h:p:=by
 rw[hW1,ZV _ _ _ Vy]
 exact(Z4 w _).1):p:=h
def qH(h:p:=by
 go_enter func7,ntmps7;go_wp2
 all_goals (go_ret2;exact KP)):p:=h
def JL(h:p:=by
 intro w hSw;(try dsimp only at hSw);go_simp<;>with_reducible rfl):p:=h
def ahW(h:p:=by
 clear hbad;go_wp2
 exact H3.o.ret HK.o 1 HE.o rfl rfl rfl rfl):p:=h
def ah5(h:p:=by
 refine .inr (.inr ?_);rw[e];intro e';injection e' with e'
 omega):p:=h
def ac2(h:p:=by
 rcases hgr.blk k e with e|e
 . exact .inl adf
 . exact .inr e):p:=h
def acw(h:p:=by
 injection h1 with h1;injection h1 with _ h1 _;revert h1
 decide):p:=h
def uX(h:p:=by
 simp only[World.setCell,Zz,ZU,h]
 rfl):p:=h
def gu(h:p:=by
 rw[ZJ,ZJ]at this
 exact this):p:=h
def ajw(h:p:=by
 injection h with h;subst h
 exact Jk Vz (.inr Vz)):p:=h
def iF(h:p:=by
 subst ej;intro h;injection h with h
 exact HE.o h.symm):p:=h
def eX(h:p:=by
 rw[HR.o,<- E0.o,<- E1.o]
 simp[B0.o,B1.o]):p:=h
def ag9(h:p:=by
 have hx1:wr.iterSeen w.heap.size=seen:=alW
 exact hx1):p:=h
def ajh(h:p:=by
 unfold Mc;rw[hf,ZX VH]
 exact(h8 VH).1):p:=h
def ag7(h:p:=by
 unfold Ph nx;rw[Fi.o.1,Fi.o.2.1]
 omega):p:=h
def ady(h:p:=by
 simp only[ZJ]at this
 exact this):p:=h
def adP(h:p:=by
 rw[xm.o W3 _ VM.o.2,HS.o]
 exact HL.o):p:=h
def acv(h:p:=by
 injection ha' with ha';rw[ha']
 exact hal):p:=h
end Go
namespace Go
variable {p q:Prop}
structure Bx (q:Prop):Prop where
 o:q
def PG(k:q)(h:Bx q->p:=by
 intro zk;rintro e w1 ⟨rfl,X_⟩;have W_:Hid _:=W_.o.call X_;clear X_;revert w1 W_
 exact zk.o):p:=h ⟨k⟩
def zr1(k:q)(h:Bx q->p:=by
 intro zk;refine iZ ?_;refine Uh 4 ?_;refine Uh 5 ?_;refine Uh 6 ?_
 exact zk.o):p:=h ⟨k⟩
def zr2(k:q)(h:Bx q->p:=by
 intro zk;have hxs:(s.extract 1 s.size).size<=119:=Vo;have O2:0<s.size:=VH;have HP:Hid _:=hp;have Sy:Hid _:=hn;have B1:Hid _:=U_;have HM:Hid _:=hm;have Ml:Hid _:=hm4;have PB:Hid _:=hm2;have Q6:Hid _:=hm1;refine agW ?_;intro f_ Y' a_ PJ hmc;revert hxs O2 HP Sy B1 HM Ml PB Q6 f_ Y' a_ PJ hmc
 exact zk.o):p:=h ⟨k⟩
def zr3(k:q)(h:Bx q->p:=by
 intro zk;refine iZ ?_;refine Uh 4 ?_;refine Uh 5 ?_
 exact zk.o):p:=h ⟨k⟩
def zr4(k:q)(h:Bx q->p:=by
 intro zk;refine iZ ?_;refine Uh 4 ?_
 exact zk.o):p:=h ⟨k⟩
def pJ(k:q)(h:Bx q->p:=by
 intro zk;refine iZ ?_
 exact zk.o):p:=h ⟨k⟩
def Nr(k:q)(h:Bx q->p:=by
 intro zk;refine wpAnyH_done VE ?_ _;refine NoPanic.normal ?_
 exact zk.o):p:=h ⟨k⟩
def zr7(k:q)(h:Bx q->p:=by
 intro zk;refine agW ?_;intro f_ Y' a_ PJ hmc;obtain⟨TX,T6⟩:=f_;obtain⟨Tr,Tw⟩:=Y';obtain⟨Ts,TC⟩:=a_;revert PJ hmc TX T6 Tr Tw Ts TC
 exact zk.o):p:=h ⟨k⟩
def zr8(k:q)(h:Bx q->p:=by
 intro zk;have c1:=((h.alloc (.cells #[VI 0,VI 0,.string ⟨#[]⟩,.string ⟨#[]⟩,.string ⟨#[]⟩,.pointer none] 146)).alloc (.cells #[VI 0,VI 0,.string ⟨#[]⟩,.string ⟨#[]⟩,.string ⟨#[]⟩,.pointer none] 146)).c1;have W_:Hid _:=akn h;revert c1 W_
 exact zk.o):p:=h ⟨k⟩
def pO(k:q)(h:Bx q->p:=by
 intro zk;refine(OB s _ _ SE B1.o).mono ?_;rintro e W3 ⟨rfl,hW3⟩;have R_:W3.heap[w.heap.size]?=some (.cells #[.int .u8 0,VI 0,.string ⟨#[]⟩,.string ⟨#[]⟩,.string ⟨#[]⟩,VI 0] 188):=aps;have hb1:Below w.heap.size w W3:=apy;revert W3 hW3 R_ hb1
 exact zk.o):p:=h ⟨k⟩
def MC(k:q)(h:Bx q->p:=by
 intro zk;simp only[Act.put,WW,Xl,Xk,XE,WM,XY]
 exact zk.o):p:=h ⟨k⟩
def afr(k:q)(h:Bx q->p:=by
 intro zk;refine Uh 3 ?_;refine Uh 4 ?_;refine Uh 5 ?_;refine Uh 6 ?_;refine Uh 7 ?_;refine Uh 8 ?_
 exact zk.o):p:=h ⟨k⟩
def Lh(k:q)(h:Bx q->p:=by
 intro zk;refine(yP s _ SE).mono ?_;rintro e w1 ⟨rfl,hb1⟩;rw[HP.o];simp only[Tm,V7,XV,w0];obtain⟨y_,T',hblk,L_⟩:=iU hb1;clear hb1;revert w1 y_ T' hblk L_
 exact zk.o):p:=h ⟨k⟩
def DT(k:q)(h:Bx q->p:=by
 intro zk
 try refine UE ?_
 refine wpAnyH_done VE ?_ _
 exact zk.o):p:=h ⟨k⟩
def wY(k:q)(h:Bx q->p:=by
 intro zk;go_simp;refine Z_.go λhHeld=>?_;revert hHeld
 exact zk.o):p:=h ⟨k⟩
def Ep(k:q)(h:Bx q->p:=by
 intro zk;refine Uh 0 ?_;refine Uh 1 ?_
 exact zk.o):p:=h ⟨k⟩
def aW(k:q)(h:Bx q->p:=by
 intro zk;have Wd:=h.run.ct;simp only[XP,ZG,Vq]at Wd;have lw:=(h.lo rb Vy).2.1;have Q_:=B.sg.LY.1.raw;revert Wd lw Q_
 exact zk.o):p:=h ⟨k⟩
def aee(k:q)(h:Bx q->p:=by
 intro zk;refine(TI b s i _ hs hi' zq).mono ?_;rintro e w1 ⟨rfl,X_⟩;rw[Ng.o]at X_ ⊢;have J_:Hid (JV w (w1.alloc (.cells #[VI 21,VI 0,.string (VF nm),.string ⟨#[]⟩,.string ⟨#[]⟩,.pointer none] 146)) b s (i+nm.length) w.heap.size w1.heap.size (VI 21) (VI 0) (.string (VF nm)) (.string ⟨#[]⟩) (.string ⟨#[]⟩)):=lY L_ X_ _ _ _ _ _;have hz:=(RY w _ _ _ _ _).to X_ VH;revert w1 X_ J_ hz
 exact zk.o):p:=h ⟨k⟩
def agh(k:q)(h:Bx q->p:=by
 intro zk;refine Uh 5 ?_;refine Uh 6 ?_;refine Uh 7 ?_
 exact zk.o):p:=h ⟨k⟩
def Sl(k:q)(h:Bx q->p:=by
 intro zk;rintro e w' ⟨rfl,hw⟩;replace hw:=hw.symm;subst hw
 exact zk.o):p:=h ⟨k⟩
def abN(k:q)(h:Bx q->p:=by
 intro zk;rw[<- hW];refine hp.mono ?_;rintro e w1 ⟨rfl,P',S_⟩;have G_:=(HF.o.1.trans S_).new (.cells #[.bool false,VI bn] 79);have ho1:=Qk S_.rk S_.fr (.cells #[.bool false,VI bn] 79);have k_:(w1.alloc (.cells #[.bool false,VI bn] 79)).heap[w1.heap.size]?=some (.cells #[.bool false,VI bn] 79):=(Z4 w1 _).1;have hx1:=(S_.below aoy).off _ HF.o.2.1;revert w1 P' S_ G_ ho1 k_ hx1
 exact zk.o):p:=h ⟨k⟩
def aa7(k:q)(h:Bx q->p:=by
 intro zk;refine Uh 3 ?_;refine Uh 4 ?_
 exact zk.o):p:=h ⟨k⟩
def AU(k:q)(h:Bx q->p:=by
 intro zk;rw[<- hW2];refine hp2.mono ?_;rintro e w1 ⟨rfl,P',S_⟩;have Z6:=HA.o.trans S_;have hk2:=(S_.off _ HO.o).2.trans k_;have c0:=(Vp hk2).1;have c0:=(Vp hk2).2;rename_i N';revert w1 P' S_ Z6 hk2 N' c0
 exact zk.o):p:=h ⟨k⟩
def afJ(k:q)(h:Bx q->p:=by
 intro zk;refine wp_region_noPanic ?_;refine ZT (S:=(λw'=>w'.cell? (VJ F 1)=some (VI (h:Nat))/\w'.cell? (VJ Z 0)=some (VI (kk:Nat))/\w'.cell? (VJ Z 1)=some (VI xn)/\w'.cell? (VJ Z 2)=some (.string (VF xa))/\w'.cell? (VJ Z 3)=some (.string (VF xs))/\w'.cell? (VJ Z 4)=some (.string (VF xb))/\w'.cell? (VJ Z 5)=some (.pointer none)/\w'.cell? (VJ 0 (kk*5+1))=some (VI (l:Nat)))) VE UG (λhHeld=>?_);revert hHeld
 exact zk.o):p:=h ⟨k⟩
def Pg(k:q)(h:Bx q->p:=by
 intro zk;simp only[Exit.then,Exit.inBlock];refine HG.o _ _ _ _ _ rfl ?_
 exact zk.o):p:=h ⟨k⟩
def al6(k:q)(h:Bx q->p:=by
 intro zk;rw[Sy.o];simp only[Tm,XV];obtain⟨M_,P_,A_⟩:=Eh y_ hblk L_ hb1;obtain⟨u0,u1,u2,u3,u4,u5,uf⟩:=TL P_;revert M_ P_ A_ u0 u1 u2 u3 u4 u5 uf
 exact zk.o):p:=h ⟨k⟩
def Uy(k:q)(h:Bx q->p:=by
 intro zk;refine wp_region_noPanic ?_
 exact zk.o):p:=h ⟨k⟩
def aku(k:q)(h:Bx q->p:=by
 intro zk;refine Uh 7 ?_;refine Uh 8 ?_;refine Uh 9 ?_;refine Uh 10 ?_
 exact zk.o):p:=h ⟨k⟩
def wC(k:q)(h:Bx q->p:=by
 intro zk;have D_:((s[0].toNat:Int)==94)=false:=Vo;have D_:((s[0].toNat:Int)==45)=false:=Vo;have D_:((s[0].toNat:Int)==62)=false:=Vo;rename_i N' P4;revert N' P4 D_
 exact zk.o):p:=h ⟨k⟩
def alO(k:q)(h:Bx q->p:=by
 intro zk;rw[<- hW2];refine hp2.mono ?_;rintro e w1 ⟨rfl,P',S_⟩;have Z6:=HA.o.trans S_;have hk2:=(S_.off _ HO.o).2.trans k_;revert w1 P' S_ Z6 hk2
 exact zk.o):p:=h ⟨k⟩
def JM(k:q)(h:Bx q->p:=by
 intro zk;simp only[reduceIte,Nat.reduceEqDiff,or_self,YE,false_or,or_true,true_or]
 exact zk.o):p:=h ⟨k⟩
def vP(k:q)(h:Bx q->p:=by
 intro zk;refine(TI b s i _ hs hi' zq).mono ?_;rintro e w1 ⟨rfl,X_⟩;rw[Ng.o]at X_ ⊢;revert w1 X_
 exact zk.o):p:=h ⟨k⟩
def abT(k:q)(h:Bx q->p:=by
 intro zk;have D_:((s[0].toNat:Int)==94)=false:=Vo;have D_:((s[0].toNat:Int)==45)=false:=Vo;rename_i N';revert N' D_
 exact zk.o):p:=h ⟨k⟩
def aY(k:q)(h:Bx q->p:=by
 intro zk;have UV:=ST.rk.c4;have Eg:=ST.b;rw[Eg]at UV;have Tk:=ST.rk.Vb.lt;rw[Eg]at Tk;have PH:=(ST.Ut.block _ hw1 anG).trans wt.o;have hzl:=(Z5.1 PH).1;have a0:=(Vp PH).1;have a1:=(Vp PH).2;revert UV Eg Tk PH hzl a0 a1
 exact zk.o):p:=h ⟨k⟩
def adZ(k:q)(h:Bx q->p:=by
 intro zk;have I_:=HD.o.1.kin hst;have hB1:=HD.o.2.1.kin hst;have hb1:=hB1.2.trans HD.o.2.2;have c1:w1.cell? (VJ w.heap.size 1)=some (.string s):=by simp only[World.cell?,hb1];rfl
 have c1:w1.cell? (VJ w.heap.size 2)=some (.string t):=by simp only[World.cell?,hb1];rfl
 rename_i N';revert I_ hB1 hb1 N' c1
 exact zk.o):p:=h ⟨k⟩
def aoT(k:q)(h:Bx q->p:=by
 intro zk;have D_:((s[0].toNat:Int)==45)=false:=Vo;have D_:((s[0].toNat:Int)==62)=false:=Vo;refine aei ?_;intro _ D_;rename_i N' P4 Mj;revert N' P4 Mj D_
 exact zk.o):p:=h ⟨k⟩
def akY(k:q)(h:Bx q->p:=by
 intro zk;have N_:=(hcc.block z10 (Z5.1 N_).1 VH).trans N_;refine gI ?_;intro K_;revert N_ K_
 exact zk.o):p:=h ⟨k⟩
def ank(k:q)(h:Bx q->p:=by
 intro zk
 have HF:Hid (U5 z fb w W m K d.sv f d/\K.en=0):=⟨hF,hen⟩
 have n110:¬(k:Int)=110:=VH;have n110:¬(k:Int)=109:=VH;have n110:¬(k:Int)=97:=VH;have n110:¬(k:Int)=103:=VH;have n110:¬(k:Int)=112:=VH;have n110:¬(k:Int)=43:=VH;have n110:¬(k:Int)=45:=VH;have n110:¬(k:Int)=42:=VH;have n110:¬(k:Int)=60:=VH;have n110:¬(k:Int)=61:=VH;have n110:¬(k:Int)=111:=VH;have n110:¬(k:Int)=100:=VH;have n110:¬(k:Int)=62:=VH;have n110:¬(k:Int)=63:=VH;have n110:¬(k:Int)=115:=VH;have n110:¬(k:Int)=94:=VH;have Wc:¬k=110:=VH;have Wc:¬k=109:=VH;have Wc:¬k=97:=VH;have Wc:¬k=103:=VH;have Wc:¬k=112:=VH;have Wc:¬k=43:=VH;have Wc:¬k=45:=VH;have Wc:¬k=42:=VH;have Wc:¬k=60:=VH;have Wc:¬k=61:=VH;have Wc:¬k=111:=VH;have Wc:¬k=100:=VH;have Wc:¬k=62:=VH;have Wc:¬k=63:=VH;have Wc:¬k=115:=VH;have Wc:¬k=94:=VH;rename_i N' P4 Mj EV E9 iz lL nj kO zi9 ie lb gH j1 j0 oc il kB gM fk l5 fc jN gS ip kj fe jx j9 fW;revert HF N' P4 Mj EV E9 iz lL nj kO zi9 ie lb gH j1 j0 n110 oc il kB gM fk l5 fc jN gS ip kj fe jx j9 fW Wc
 exact zk.o):p:=h ⟨k⟩
def Jp(k:q)(h:Bx q->p:=by
 intro zk;have z0:=hz.c0;have z1:=hz.c1;have z2:=hz.c2;have z3:=hz.c3;have z4:=hz.c4;have z5:=hz.c5;have zf:=hz.f;revert z0 z1 z2 z3 z4 z5 zf
 exact zk.o):p:=h ⟨k⟩
def abM(k:q)(h:Bx q->p:=by
 intro zk;refine Uh 7 ?_;refine Uh 8 ?_
 exact zk.o):p:=h ⟨k⟩
def amd(k:q)(h:Bx q->p:=by
 intro zk;have b0:W5.cell? (VJ zb 0)=some (VI (kd:Nat)):=by rw[o_];simp only[World.cell?,hat];rfl
 have b1:W5.cell? (VJ zb 1)=some (VI x.1.n):=by simp only[World.cell?,hat];rfl
 have b2:W5.cell? (VJ zb 2)=some (.string (VF x.1.a)):=by simp only[World.cell?,hat];rfl
 have b3:W5.cell? (VJ zb 3)=some (.string (VF x.1.sel)):=by simp only[World.cell?,hat];rfl
 have b4:W5.cell? (VJ zb 4)=some (.string (VF x.1.b)):=by simp only[World.cell?,hat];rfl
 have b5:W5.cell? (VJ zb 5)=some (.pointer pl):=by simp only[World.cell?,hat];rfl
 have bd:W5.cell? (VJ rb (1+kd))=some (.func (.func (doF kd)) #[] #[]):=by rw[o_];exact B.sg.run.cd _ hkr.1 hkr.2
 have JP:=ak5 (B.sg.below (ZR _ _).drew.drew) h0 x pl HX.o.1.2.1.1 I' C' HX.o.2.2.2.2.1 kA.o;have hent:=akB kd (by rw[o_];exact hkr.1) (by rw[o_];exact hkr.2) #[VG rb,Uo x.1 pl] W5.drew.drew;rw[<- o_]at JP;revert b0 b1 b2 b3 b4 b5 bd JP hent
 exact zk.o):p:=h ⟨k⟩
def dU(k:q)(h:Bx q->p:=by
 intro zk;refine Ul 9 λY_ Z_=>?_;go_simp;have htk:=take_any T5;unfold Vl.val at htk;refine htk.mono ?_;clear htk;rintro e V4 ⟨rfl,Ps,hcc⟩;have S4:=(Z9 (a:=(VJ rb 24)) aoF).trans YY;revert Y_ Z_ V4 Ps hcc S4
 exact zk.o):p:=h ⟨k⟩
def ami(k:q)(h:Bx q->p:=by
 intro zk;have D_:((s[0].toNat:Int)==62)=false:=Vo;refine aei ?_;intro _ D_;have D_:((s[0].toNat:Int)==115)=false:=Vo;rename_i N' P4 Mj;revert N' P4 Mj D_
 exact zk.o):p:=h ⟨k⟩
def tV(k:q)(h:Bx q->p:=by
 intro zk;refine(TY b s (i+nm.length) 46 _ hs N3 JT.o J_.o.to.rd).mono ?_;rintro e w1 ⟨rfl,X_⟩;have J_:Hid _:=J_.o.call X_;revert w1 X_ J_
 exact zk.o):p:=h ⟨k⟩
def acY(k:q)(h:Bx q->p:=by
 intro zk;refine hk1.mono ?_;rintro e w1 ⟨rfl,K',hst⟩;have I_:=HD.o.1.kin hst;have hB1:=HD.o.2.1.kin hst;have hb1:=hB1.2.trans HD.o.2.2;revert w1 K' hst I_ hB1 hb1
 exact zk.o):p:=h ⟨k⟩
def GR(k:q)(h:Bx q->p:=by
 intro zk;refine(G7 (s.extract 1 s.size) 4 _ _ SE VH Ml.o).mono ?_
 exact zk.o):p:=h ⟨k⟩
def dL(k:q)(h:Bx q->p:=by
 intro zk;go_simp;have htk:=take_any SF;unfold Vl.val at htk;refine htk.mono ?_;clear htk;rintro e V3 ⟨rfl,T5,hcc⟩;have YY:=(Z9 (a:=(VJ rb 24)) ane).trans XS;revert V3 T5 hcc YY
 exact zk.o):p:=h ⟨k⟩
def apl(k:q)(h:Bx q->p:=by
 intro zk;refine(TU b s (i) 45 _ hs VH FM W_.o.to.rd).mono ?_
 exact zk.o):p:=h ⟨k⟩
def alI(k:q)(h:Bx q->p:=by
 intro zk
 have g1:w5.cell? (VJ w.heap.size 1)=some (.string o.s):=(by simp only[World.cell?,T7];rfl)
 have g4:w5.cell? (VJ w.heap.size 4)=some (VI o.n):=(by simp only[World.cell?,T7];rfl)
 have g6:w5.cell? (VJ w.heap.size 6)=some (.bool o.to.obj):=(by simp only[World.cell?,T7];rfl)
 have g7:w5.cell? (VJ w.heap.size 7)=some (VI o.to.n):=(by simp only[World.cell?,T7];rfl)
 revert g1 g4 g6 g7
 exact zk.o):p:=h ⟨k⟩
def afL(k:q)(h:Bx q->p:=by
 intro zk;have O2:0<s.size:=VH;have HP:Hid _:=hp;have Sy:Hid _:=hn;have B1:Hid _:=U_;revert O2 HP Sy B1
 exact zk.o):p:=h ⟨k⟩
def ED(k:q)(h:Bx q->p:=by
 intro zk;refine(G7 (s.extract 1 s.size) 2 _ _ SE VH PB.o).mono ?_
 exact zk.o):p:=h ⟨k⟩
def alA(k:q)(h:Bx q->p:=by
 intro zk;obtain⟨W,hW,hF,hO,hb⟩:=UW hk h (⟨61,n,sl,xa,xb⟩,xi);change W=w.alloc (.cells #[.int .u8 61,VI n,.string (VF sl),.string (VF xa),.string (VF xb),VI (xi:Nat)] 188) at hW;change Calls _ _ #[VG K.b,VG fb,.agg #[.int .u8 61,VI n,.string (VF sl),.string (VF xa),.string (VF xb),VI (xi:Nat)],VI D] _ _;have HH:Hid (RK w m K/\K.en=0):=adQ;revert W hF hO hb hW HH
 exact zk.o):p:=h ⟨k⟩
def akz(k:q)(h:Bx q->p:=by
 intro zk;refine(L6 s _ hs).mono ?_;rintro e w1 ⟨rfl,hb1⟩;rw[HC.o];have c0:=(hb1.cell (p:=(VJ b 0)) hbl).trans h0;have ca:=(hb1.cell (p:=(VJ a 3)) hal).trans ha;have hm1:=HM.o.same ala;have Pa:=P8 w1 mb l hm1 s;have Tl:=P8 w1 mb l hm1 t;rw[hl]at Pa;rw[ht]at Tl;simp only[V7,YX]at Pa Tl;revert w1 hb1 c0 ca hm1 Pa Tl
 exact zk.o):p:=h ⟨k⟩
def apJ(k:q)(h:Bx q->p:=by
 intro zk;refine(TU b s (i) 61 _ hs VH FM W_.o.to.rd).mono ?_
 exact zk.o):p:=h ⟨k⟩
def DV(k:q)(h:Bx q->p:=by
 intro zk;refine(G7 (s.extract 1 s.size) 1 _ _ SE VH Q6.o).mono ?_
 exact zk.o):p:=h ⟨k⟩
def aac(k:q)(h:Bx q->p:=by
 intro zk;go_simp;refine hcall.mono ?_;rintro e w2 ⟨rfl,K',hst⟩;have hcm:=HB.o.calm hst;have d2:=(Z9 (a:=(VJ w.heap.size 2)) hcm.2.1).trans x2;revert w2 K' hst hcm d2
 exact zk.o):p:=h ⟨k⟩
def ak7(k:q)(h:Bx q->p:=by
 intro zk;have J_:Hid (JV w (w1.alloc (.cells #[VI 20,VI 0,.string (VF nm),.string ⟨#[]⟩,.string ⟨#[]⟩,.pointer none] 146)) b s (i+nm.length) w.heap.size w1.heap.size (VI 20) (VI 0) (.string (VF nm)) (.string ⟨#[]⟩) (.string ⟨#[]⟩)):=lY L_ X_ _ _ _ _ _;have hz:=(RY w _ _ _ _ _).to X_ VH;revert J_ hz
 exact zk.o):p:=h ⟨k⟩
def akL(k:q)(h:Bx q->p:=by
 intro zk;have J_:Hid (JV w (w1.alloc (.cells #[VI 19,VI 0,.string (VF nm),.string ⟨#[]⟩,.string ⟨#[]⟩,.pointer none] 146)) b s (i+nm.length) w.heap.size w1.heap.size (VI 19) (VI 0) (.string (VF nm)) (.string ⟨#[]⟩) (.string ⟨#[]⟩)):=lY L_ X_ _ _ _ _ _;have hz:=(RY w _ _ _ _ _).to X_ VH;revert J_ hz
 exact zk.o):p:=h ⟨k⟩
def anE(k:q)(h:Bx q->p:=by
 intro zk;refine ZT (S:=(λw'=>w'.cell? (VJ w1.heap.size 0)=some (.bool v.obj)/\w'.cell? (VJ w1.heap.size 1)=some (VI v.n)/\w'.cell? (VJ w2.heap.size 0)=some (.bool v.obj)/\w'.cell? (VJ w2.heap.size 1)=some (VI v.n))) VE UG (λhHeld=>?_);refine Uh 0 ?_;refine Ur 2 ?_;refine Ul 1 λY_ Z_=>?_;go_simp;refine PA.mono ?_;rintro e w4 ⟨rfl,hb1⟩;have r0:=(hb1.cell (p:=(VJ w1.heap.size 0)) hvl).trans v0;have r0:=(hb1.cell (p:=(VJ w1.heap.size 1)) hvl).trans v1;have r0:=(hb1.cell (p:=(VJ w2.heap.size 0)) hwl).trans q0;have r0:=(hb1.cell (p:=(VJ w2.heap.size 1)) hwl).trans q1;have RT:=UQ (RT.o.below hb1);clear hb1;rename_i N' P4 Mj;revert hHeld Y_ Z_ w4 N' P4 Mj r0 RT
 exact zk.o):p:=h ⟨k⟩
def alq(k:q)(h:Bx q->p:=by
 intro zk;obtain⟨W,hW,hF,hO,hb⟩:=UW hk h (⟨63,n,sl,xa,xb⟩,xi);change W=w.alloc (.cells #[.int .u8 63,VI n,.string (VF sl),.string (VF xa),.string (VF xb),VI (xi:Nat)] 188) at hW;change Calls _ _ #[VG K.b,VG fb,.agg #[.int .u8 63,VI n,.string (VF sl),.string (VF xa),.string (VF xb),VI (xi:Nat)],VI D] _ _;revert W hF hO hb hW
 exact zk.o):p:=h ⟨k⟩
def alH(k:q)(h:Bx q->p:=by
 intro zk;have hz:w.heap.size+1<=w1.heap.size:=alU;refine ah3 ?_;intro hblk;obtain⟨r0,r1,r2,r3,r4,r5,rf⟩:=TL hblk;have hne:w.heap.size≠g:=aoh;have L_:=((ZR _ _).alloc UM _).trans (hb.mono Vy);revert hz hblk r0 r1 r2 r3 r4 r5 rf hne L_
 exact zk.o):p:=h ⟨k⟩
def akc(k:q)(h:Bx q->p:=by
 intro zk;rw[<- SW,<- u_];have hB4:Below V3.heap.size V3 V4:=ajT;have K_:V4.heap[z11]?=some (.cells #[.bool false,VI 0] 33):=amn;have S7:W1.heap.size<=z11:=amR;have hc4:=hc3.then aiT Js;have Ps:=T5.same ai9;have S4:=(hB4.cell (p:=(VJ rb 24)) l3).trans YY;have N_:=(hB4.block z10 (Z5.1 N_).1).trans N_;revert hB4 K_ S7 hc4 Ps S4 N_
 exact zk.o):p:=h ⟨k⟩
def aki(k:q)(h:Bx q->p:=by
 intro zk;rw[<- SW,<- t_];have hB4:Below V3.heap.size V3 V4:=ajT;have N_:V4.heap[z10]?=some (.cells #[.bool false,VI 0] 33):=al4;have Ta:W1.heap.size<=z10:=aok;have hc4:=hc3.then aiT Js;have Ps:=T5.same ai9;have S4:=(hB4.cell (p:=(VJ rb 24)) l3).trans YY;have K_:=(hB4.block z11 (Z5.1 K_).1).trans K_;revert hB4 N_ Ta hc4 Ps S4 K_
 exact zk.o):p:=h ⟨k⟩
def eF(k:q)(h:Bx q->p:=by
 intro zk;have hc3:=hc2.then ape Js;have T5:=SF.same amG;have YY:=(j_.cell (p:=(VJ rb 24)) l2).trans XS;have l3:=ZY l2 j_.size;revert hc3 T5 YY l3
 exact zk.o):p:=h ⟨k⟩
def alY(k:q)(h:Bx q->p:=by
 intro zk;obtain⟨W,hW,hF,hO,hb⟩:=UW hk h (⟨60,n,sl,xa,xb⟩,xi);change W=w.alloc (.cells #[.int .u8 60,VI n,.string (VF sl),.string (VF xa),.string (VF xb),VI (xi:Nat)] 188) at hW;change Calls _ _ #[VG K.b,VG fb,.agg #[.int .u8 60,VI n,.string (VF sl),.string (VF xa),.string (VF xb),VI (xi:Nat)]] _ _;have HH:Hid (RK w m K/\K.en=0):=adQ;have HF:Hid (U5 z fb w W m K d.sv {f with st:=⟨false,bn⟩::⟨false,an⟩::r} d/\Off W K fb d.sv w.heap.size/\W.heap[w.heap.size]?=some (.cells (U4 (⟨60,n,sl,xa,xb⟩,xi)) 188)):=SH;have hp:=Hr (f:=f) hF.rk hF.fr Ea;unfold Vl.val at hp;revert W hF hO hb hW HH HF hp
 exact zk.o):p:=h ⟨k⟩
def apX(k:q)(h:Bx q->p:=by
 intro zk;refine(TU b s (i) 94 _ hs VH FM W_.o.to.rd).mono ?_
 exact zk.o):p:=h ⟨k⟩
def ao0(k:q)(h:Bx q->p:=by
 intro zk;have af:∀o,((w4.setCell (VJ w3.heap.size 0) (.bool v.obj)).setCell (VJ w3.heap.size 1) (VI v.n)).frozen? (VJ (w.heap.size+1) o)=false:=λo=>UL.free ⟨_,_,PH⟩ o;have QR:((w4.setCell (VJ w3.heap.size 0) (.bool v.obj)).setCell (VJ w3.heap.size 1) (VI v.n)).heap[w3.heap.size]?=some (.cells #[.bool v.obj,VI v.n] 79):=agY;refine abt ?_;intro b0 b1 hvl;have HY:Hid (Vu w ((w4.setCell (VJ w3.heap.size 0) (.bool v.obj)).setCell (VJ w3.heap.size 1) (VI v.n)) m K m' K'/\K'.lab (w.heap.size+1)=.no):=aep;revert af QR b0 b1 hvl HY
 exact zk.o):p:=h ⟨k⟩
def aoO(k:q)(h:Bx q->p:=by
 intro zk;have af:∀o,((w4.setCell (VJ X2.heap.size 0) (.bool v.obj)).setCell (VJ X2.heap.size 1) (VI v.n)).frozen? (VJ (w.heap.size+1) o)=false:=λo=>UL.free ⟨_,_,PH⟩ o;have QR:((w4.setCell (VJ X2.heap.size 0) (.bool v.obj)).setCell (VJ X2.heap.size 1) (VI v.n)).heap[X2.heap.size]?=some (.cells #[.bool v.obj,VI v.n] 79):=agY;refine abt ?_;intro b0 b1 hvl;have HY:Hid (Vu w ((w4.setCell (VJ X2.heap.size 0) (.bool v.obj)).setCell (VJ X2.heap.size 1) (VI v.n)) m K m' K'/\K'.lab (w.heap.size+1)=.no):=aep;revert af QR b0 b1 hvl HY
 exact zk.o):p:=h ⟨k⟩
def amc(k:q)(h:Bx q->p:=by
 intro zk
 try refine UE ?_
 refine Ul 6 λY_ Z_=>?_;go_simp;refine(LR _ hBb).mono ?_;rintro e w2 ⟨rfl,K1,hst⟩;have h1:=(H1.o.below hBb).img hst
 have hfw:∀k,U2 m K k->k<w.heap.size:=λk e=>HH.o.Qj.Ub.lt e;have hbk:∀k,w.heap.size<=k->k<W1.heap.size->w2.heap[k]?=W1.heap[k]?:=λk e1 e2=>(hst.Ut.block k Vo (λe=>ag8)).trans (hBb.block k e2);have RC:=(Z9 (a:=(VJ w.heap.size 0)) fD).trans q0;have RR:=(Z9 (a:=(VJ w.heap.size 1)) fD).trans q1;have M8:w2.cell? (VJ rb 0)=some (VG K.b):=by {have:=h1.run.c0;rw[hst.b]at this;exact this}
 revert Y_ Z_ w2 K1 hst h1 hfw hbk RC RR M8
 exact zk.o):p:=h ⟨k⟩
def akI(k:q)(h:Bx q->p:=by
 intro zk;refine aei ?_;intro _ D_;rename_i N';revert N' D_
 exact zk.o):p:=h ⟨k⟩
def ni(k:q)(h:Bx q->p:=by
 intro zk;have hp2:=Hr (f:=f) G_.rk G_.fr VH;have HA:Hid _:=G_;have HO:Hid _:=ho1;have HX:Hid _:=hx1;unfold Vl.val at hp2;revert hp2 HA HO HX
 exact zk.o):p:=h ⟨k⟩
def Ip(k:q)(h:Bx q->p:=by
 intro zk;refine(G7 s 4 _ _ SE VH HM.o).mono ?_
 exact zk.o):p:=h ⟨k⟩
def al5(k:q)(h:Bx q->p:=by
 intro zk;have hz1:W1.heap.size<=z:=VH;have hc3:Vt w2 W3 (λk=>k=z):=aoP;have hz2:z<w2.heap.size:=by rw[hzz];exact(Z5.1 LO).1
 have Rp:¬U2 {m with looks:=m.looks+1} K1 z:=λe=>by
  exact amq
 have H3:Hid (Sg Dd w0 m0 K0 rb W3 {m with looks:=m.looks+1} K1 fuel bs fs):=by
  have hx:=h1.aside h0 hc3 (λk e=>aoC);exact hx
 have KS:Hid (∀k,k<W1.heap.size->¬U2 m K k->W3.heap[k]?=W1.heap[k]?):=by
  exact apT
 have M3:Hid (K1.b=K.b/\(∀c,c<m.kl.length->K1.cb c=K.cb c)/\∀k,K.k.Mk k->K1.k.Mk k/\K1.k.md k=K.k.md k):=ajS;revert hz1 hc3 hz2 Rp H3 KS M3
 exact zk.o):p:=h ⟨k⟩
def amK(k:q)(h:Bx q->p:=by
 intro zk;have u0:w2.cell? (VJ W1.heap.size 0)=some (.pointer none):=by simp only[World.cell?,LO];rfl
 have u1:w2.cell? (VJ W1.heap.size 1)=some (.pointer none):=by simp only[World.cell?,LO];rfl
 have uf:∀o,w2.frozen? (VJ W1.heap.size o)=false:=λo=>UL.free ⟨_,_,LO⟩ o;revert u0 u1 uf
 exact zk.o):p:=h ⟨k⟩
def apD(k:q)(h:Bx q->p:=by
 intro zk;refine(TU b s (i) 62 _ hs VH FM W_.o.to.rd).mono ?_
 exact zk.o):p:=h ⟨k⟩
def anN(k:q)(h:Bx q->p:=by
 intro zk;go_simp;refine(LR _ hBa).mono ?_;rintro e w2 ⟨rfl,K1,hst⟩;have h1:=(H1.o.below hBa).img hst
 have hfw:∀k,U2 m K k->k<w.heap.size:=λk e=>HH.o.Qj.Ub.lt e;have hbk:∀k,w.heap.size<=k->k<W1.heap.size->w2.heap[k]?=W1.heap[k]?:=λk e1 e2=>hst.Ut.block k e2 (λe=>ag8);have RC:=(Z9 (a:=(VJ w.heap.size 0)) fD).trans q0;have RR:=(Z9 (a:=(VJ w.heap.size 1)) fD).trans q1;have M8:w2.cell? (VJ rb 0)=some (VG K.b):=by {have:=h1.run.c0;rw[hst.b]at this;exact this}
 revert w2 K1 hst h1 hfw hbk RC RR M8
 exact zk.o):p:=h ⟨k⟩
def alf(k:q)(h:Bx q->p:=by
 intro zk;have c1:w1.cell? (VJ w.heap.size 1)=some (.string s):=by simp only[World.cell?,hb1];rfl
 revert c1
 exact zk.o):p:=h ⟨k⟩
def dh(k:q)(h:Bx q->p:=by
 intro zk;refine(PS b s (i+nm.length+1) _ hs VH J_.o.to.rd).mono ?_;rintro e w1 ⟨rfl,j,hj,X_,hjl⟩;rw[vQ.o]at hjl ⊢;revert w1 j hj X_ hjl
 exact zk.o):p:=h ⟨k⟩
def dX(k:q)(h:Bx q->p:=by
 intro zk;refine Uh 9 ?_;refine Uh 10 ?_
 exact zk.o):p:=h ⟨k⟩
def EF(k:q)(h:Bx q->p:=by
 intro zk;rw[<- hW];refine hp.mono ?_;rintro e w1 ⟨rfl,P',S_⟩;revert w1 P' S_
 exact zk.o):p:=h ⟨k⟩
def amA(k:q)(h:Bx q->p:=by
 intro zk;have hB1:Below w.heap.size w W1:=ani;have Rv:w.heap.size+2<=W1.heap.size:=acn
 have b0:W1.heap[w.heap.size]?=some (.cells #[.pointer (Vq (C_.map K.cb)),.string s] 59):=by
  exact ah2
 have b1:W1.heap[w.heap.size+1]?=some (.cells #[.bool to.obj,VI to.n] 33):=by
  exact apv
 have q0:W1.cell? (VJ w.heap.size 0)=some (.pointer (Vq (C_.map K.cb))):=by simp only[World.cell?,b0];rfl
 have q1:W1.cell? (VJ w.heap.size 1)=some (.string s):=by simp only[World.cell?,b0];rfl
 have h1:=h.below hB1;have M8:=h1.run.c0;have Pe:=(h.lo rb Vy).2.1;revert hB1 Rv b0 b1 q0 q1 h1 M8 Pe
 exact zk.o):p:=h ⟨k⟩
def afG(k:q)(h:Bx q->p:=by
 intro zk;go_simp;refine w_.mono ?_;rintro e w4 ⟨v,m',K',rfl,r_,PR,d_⟩;have p0:=(Z9 (a:=(VJ w.heap.size 0)) aho).trans q3;have p1:=(Z9 (a:=(VJ w.heap.size 1)) aho).trans Pd;revert w4 v m' K' r_ PR d_ p0 p1
 exact zk.o):p:=h ⟨k⟩
def amo(k:q)(h:Bx q->p:=by
 intro zk;have G0:X2.heap.size=wr.heap.size:=by rw[SU,UN,UN]
 have Ax:∀k,k≠K.b->X2.heap[k]?=wr.heap[k]?:=λk e=>amB;have W7:¬w.heap.size=K.b:=VH;have s0:=(Z9 (a:=(VJ w.heap.size 0)) (Ax _ W7)).trans t0;have s1:=(Z9 (a:=(VJ w.heap.size 1)) (Ax _ W7)).trans t1;have Bs:Vu wr X2.drew m K m K2:=anM;have M7:Vu wr (X2.alloc (.cells #[.bool false,VI 0] 79)).drew m K m K2:=aos;have LR:K2.fu=fu/\K2.en=0/\K2.b=K.b/\K2.lab=K.lab:=by rw[hK2];exact⟨rfl,rfl,rfl,rfl⟩
 revert G0 Ax W7 s0 s1 Bs M7 LR
 exact zk.o):p:=h ⟨k⟩
def aoW(k:q)(h:Bx q->p:=by
 intro zk;go_simp;refine htk.mono ?_;rintro e w3 ⟨rfl,hf3,hc3⟩;have d1:=(Z9 (a:=(VJ rb 24)) qZ).trans ct;have d2:=(Z9 (a:=(VJ rb 0)) qZ).trans c0;have d3:=(Z9 (a:=(VJ w.heap.size 1)) iw).trans x1;have d4:=(Z9 (a:=(VJ K.b 1)) (hc3.block _ hbl Z1)).trans c1;have d5:w3.cell? (VJ fb 3)=some (VI (i:Nat)):=by {have:=hf3.c3;rw[HO.o.2.2.2]at this;exact this};have d6:=(Z9 (a:=(VJ g (i*2+1))) (hc3.block _ lg W7)).trans o1
 revert w3 hf3 hc3 d1 d2 d3 d4 d5 d6
 exact zk.o):p:=h ⟨k⟩
def apS(k:q)(h:Bx q->p:=by
 intro zk;refine(TU b s (i) 63 _ hs VH FM W_.o.to.rd).mono ?_
 exact zk.o):p:=h ⟨k⟩
def anz(k:q)(h:Bx q->p:=by
 intro zk;have hz0:W0.heap.size=w.heap.size+1:=by rw[hW0];simp
 have Gd:=Qk Vc.rk Vc.fr (.cells (vcs (List.replicate N Vl.zero)).toArray 79);have S_:=Vc.new (.cells (vcs (List.replicate N Vl.zero)).toArray 79);have hb1:(W0.alloc (.cells (vcs (List.replicate N Vl.zero)).toArray 79)).heap[W0.heap.size]?=some (.cells (vcs (List.replicate N Vl.zero)).toArray 79):=(Z4 W0 _).1;have hb2:=(ZV W0 (.cells (vcs (List.replicate N Vl.zero)).toArray 79) _ Br.lt).trans hb0;revert hz0 Gd S_ hb1 hb2
 exact zk.o):p:=h ⟨k⟩
def aow(k:q)(h:Bx q->p:=by
 intro zk;have af:∀o,(w4.alloc (.cells #[.bool v.obj,VI v.n] 79)).frozen? (VJ (w.heap.size+1) o)=false:=λo=>UL.free ⟨_,_,PH⟩ o;have QR:(w4.alloc (.cells #[.bool v.obj,VI v.n] 79)).heap[w4.heap.size]?=some (.cells #[.bool v.obj,VI v.n] 79):=(Z4 w4 _).1;refine abt ?_;intro b0 b1 hvl;have HY:Hid (Vu w (w4.alloc (.cells #[.bool v.obj,VI v.n] 79)) m K m' K'/\K'.lab (w.heap.size+1)=.no):=aep;revert af QR b0 b1 hvl HY
 exact zk.o):p:=h ⟨k⟩
def ak6(k:q)(h:Bx q->p:=by
 intro zk;have Bb:=UQ X_.JZ;have sI:Hid (RP w1 w.heap.size _ _ _ _ _):=(RY w _ _ _ _ _).to X_ VH;have hz:=(RY w _ _ _ _ _).to X_ VH;have oq:=hz.lt;have z0:=hz.c0;have z0:=hz.c1;have z0:=hz.c2;have z0:=hz.c3;have z0:=hz.c4;have z0:=hz.c5;have zf:=hz.f;rename_i N' P4 Mj EV E9;revert Bb sI hz oq N' P4 Mj EV E9 z0 zf
 exact zk.o):p:=h ⟨k⟩
def akr(k:q)(h:Bx q->p:=by
 intro zk;refine Ur 2 ?_;refine Ul 3 λY_ Z_=>?_;go_simp;refine(Dz kk t l sd jp st xn _ _ _ _ hkk ht2 hlo hhi apz m9.o.drew).mono ?_;rintro e W3 ⟨rfl,hb⟩;rw[gT.o];have hb2:=RH hb;have Vv:=UQ (PT.o.below hb2);have hi1:=UQ (hi2.o.mono hb2);have JS:=UQ apt;revert Y_ Z_ W3 hb hb2 Vv hi1 JS
 exact zk.o):p:=h ⟨k⟩
def Gg(k:q)(h:Bx q->p:=by
 intro zk;have HH:=UQ h;have L_:=h.lt;have Ng:Hid _:=E_;have Ma:=RG TH;revert HH L_ Ng Ma
 exact zk.o):p:=h ⟨k⟩
def afA(k:q)(h:Bx q->p:=by
 intro zk;have hl2:=(S_.off _ HO.o).1.lt;have hpb:=((S_.off _ HX.o.1).2.trans HX.o.2).trans HF.o.2.2;have hpl:=(S_.off _ HX.o.1).1.lt;revert hl2 hpb hpl
 exact zk.o):p:=h ⟨k⟩
def apU(k:q)(h:Bx q->p:=by
 intro zk;refine ZT (S:=(λw'=>w'.cell? (VJ fb 0)=some (VG mk)/\w'.cell? (VJ fb 10)=some (VI (f.pc:Nat))/\w'.cell? (VJ mk 0)=some (.slice (K.k.md mk).p f.ws.length (K.k.md mk).cap))) VE UG (λhHeld=>?_);revert hHeld
 exact zk.o):p:=h ⟨k⟩
def aoG(k:q)(h:Bx q->p:=by
 intro zk
 try refine UE ?_
 have Rp:¬U2 m K W1.heap.size:=λe=>afu;have hz2:=(hst.Ut.block _ Vy Rp).trans (Z4 _ _).1;have u0:w2.cell? (VJ W1.heap.size 0)=some (.bool false):=by simp only[World.cell?,hz2];rfl
 have u1:w2.cell? (VJ W1.heap.size 1)=some (VI 0):=by simp only[World.cell?,hz2];rfl
 have uf:∀o,w2.frozen? (VJ W1.heap.size o)=false:=λo=>UL.free ⟨_,_,hz2⟩ o;have q1:¬W1.heap.size=w.heap.size:=VH;have q3:¬W1.heap.size=rb:=VH;revert Rp hz2 u0 u1 uf q1 q3
 exact zk.o):p:=h ⟨k⟩
def kS(k:q)(h:Bx q->p:=by
 intro zk;rw[<- hW];refine hp.mono ?_
 exact zk.o):p:=h ⟨k⟩
def am5(k:q)(h:Bx q->p:=by
 intro zk
 have yr:Off W K fb d.sv w.heap.size:=⟨ZY Br.lt (by rw[hW];simp),Br.nf,Br.ns,Br.nl⟩
 have HS:Hid _:=hS
 have HL:Hid (N<=f.st.length/\f.st.length<=900/\z<=w.heap.size):=⟨aoY,hs,h.zl⟩
 have HI:Hid _:=(⟨hk,hen,hD,hargs,U_,hal⟩:RK w m K/\K.en=0/\fs.length+1=D/\(∀v∈(f.st.take N).reverse,TF m v)/\selector sl=true/\N=U6 sl)
 have p6:Hid (∃k:Kl,m.kl[f.home]?=some k/\True):=⟨hk0,L7,trivial⟩
 revert yr HS HL HI p6
 exact zk.o):p:=h ⟨k⟩
def amV(k:q)(h:Bx q->p:=by
 intro zk
 try refine UE ?_
 have hc3:=hc2.then hcc Qi;have l3:=ZY l2 hcc.size;have N_:=(hcc.block z10 (Z5.1 N_).1 VH).trans N_;revert hc3 l3 N_
 exact zk.o):p:=h ⟨k⟩
def rZ(k:q)(h:Bx q->p:=by
 intro zk;refine(TU b s (i) 43 _ hs VH FM W_.o.to.rd).mono ?_
 exact zk.o):p:=h ⟨k⟩
def am1(k:q)(h:Bx q->p:=by
 intro zk
 try refine UE ?_
 refine Ul 4 λY_ Z_=>?_;go_simp;refine Ly.mono ?_;rintro e w3 ⟨rfl,hb3⟩
 have Od:∀k,k<X2.heap.size+1->w3.heap[k]?=(X2.alloc (.cells #[.bool false,VI 0] 79)).heap[k]?:=(λk hk=>hb3.block k (by show k<(X2.alloc _).heap.size;simp;omega))
 have q3:=(Z9 (a:=(VJ w.heap.size 0)) aiJ).trans s0;have Pd:=(Z9 (a:=(VJ w.heap.size 1)) aiJ).trans s1;have z_:=HX.o.2.1.trans (Vu.below HX.o.2.1.rk hb3);revert Y_ Z_ w3 hb3 Od q3 Pd z_
 exact zk.o):p:=h ⟨k⟩
def wM(k:q)(h:Bx q->p:=by
 intro zk;refine Wf.mono ?_;rintro e w1 ⟨rfl,P',S_⟩;have HC:Hid _:=HB.o.trans S_;revert w1 P' S_ HC
 exact zk.o):p:=h ⟨k⟩
def ams(k:q)(h:Bx q->p:=by
 intro zk;have qn:(w3.alloc (.cells #[.bool false,VI 0] 79)).cell? (VJ w.heap.size 1)=some (VI tn):=(Z9 (a:=(VJ w.heap.size 1)) abD).trans Pd;have hvb:(w3.alloc (.cells #[.bool false,VI 0] 79)).heap[w3.heap.size]?=some (.cells #[.bool false,VI 0] 79):=(Z4 w3 _).1;have Se:w3.heap.size<(w3.alloc (.cells #[.bool false,VI 0] 79)).heap.size:=Vy;have R7:=z_.rk.QF UM;have Pt:=z_.Ut.size;revert qn hvb Se R7 Pt
 exact zk.o):p:=h ⟨k⟩
def aiD(k:q)(h:Bx q->p:=by
 intro zk;have hT:=Qk Vc.rk Vc.fr (.cells #[.bool f.self.obj,VI f.self.n] 79);have hA1:=hA.below (UF wr (.cells #[.bool f.self.obj,VI f.self.n] 79));have IA:(wr.alloc (.cells #[.bool f.self.obj,VI f.self.n] 79)).heap[wr.heap.size]?=some (.cells #[.bool f.self.obj,VI f.self.n] 79):=(Z4 wr _).1;have hwT:w.heap.size+2<=wr.heap.size:=by have:=FSq.lt;omega
 have g2:=Vc.fr.f2;have g2:=Vc.fr.f3;rename_i N';revert hT hA1 IA hwT N' g2
 exact zk.o):p:=h ⟨k⟩
def amX(k:q)(h:Bx q->p:=by
 intro zk;refine ZT (S:=(λw'=>w'.cell? (VJ g 0)=some (.string y0)/\w'.cell? (VJ g 1)=some (.string y1))) VE UG (λhHeld=>?_);revert hHeld
 exact zk.o):p:=h ⟨k⟩
def ah6(k:q)(h:Bx q->p:=by
 intro zk;have f1:=hA1.fp.fr.f1;obtain⟨cg,Fm,hcv,hat⟩:=hA1.fp.rk.vc_;obtain⟨hk1,hk2,hk3⟩:=p6.o
 obtain⟨y,hy⟩:∃y,K.cl[f.home]?=some y:=⟨_,Z8 (by rw[hA1.fp.rk.rel.len];exact(Z7.1 hk2).1)⟩
 have d1:=hat.c1 f.home y hy;rw[(hA1.fp.rk.rel.rel f.home hk1 y hk2 hy).2.1,alv]at d1;have c0:=hA1.fp.rk.c0;rw[hcv]at c0;have Pu:(f.home:Int)<(K.cl.length:Int):=by have:=(Z7.1 hy).1;omega
 have hA2:=hA1.below (ZR _ X).drew;revert f1 cg Fm hcv hat hk1 hk2 hk3 y hy d1 c0 Pu hA2
 exact zk.o):p:=h ⟨k⟩
def qm(k:q)(h:Bx q->p:=by
 intro zk;refine(dS s _ hs).mono ?_
 exact zk.o):p:=h ⟨k⟩
def ahF(k:q)(h:Bx q->p:=by
 intro zk;have hz1:W1.heap.size<=z:=VH;have hb3:Below w2.heap.size w2 W3:=fQ
 have H3:Hid (Sg Dd w0 m0 K0 rb W3 {m with looks:=m.looks+1} K1 fuel bs fs):=by
  have hx:=h1.below hb3;exact hx
 have KS:Hid (∀k,k<W1.heap.size->¬U2 m K k->W3.heap[k]?=W1.heap[k]?):=by
  exact apM
 have M3:Hid (K1.b=K.b/\(∀c,c<m.kl.length->K1.cb c=K.cb c)/\∀k,K.k.Mk k->K1.k.Mk k/\K1.k.md k=K.k.md k):=ajS;revert hz1 hb3 H3 KS M3
 exact zk.o):p:=h ⟨k⟩
def Dw(k:q)(h:Bx q->p:=by
 intro zk;refine(TU b s (i) 42 _ hs VH FM W_.o.to.rd).mono ?_
 exact zk.o):p:=h ⟨k⟩
def aaP(k:q)(h:Bx q->p:=by
 intro zk;refine Ur 9 ?_;refine Ul 10 λY_ Z_=>?_;go_simp;revert Y_ Z_
 exact zk.o):p:=h ⟨k⟩
def ahh(k:q)(h:Bx q->p:=by
 intro zk;have hk4:∀k,k<W1.heap.size->w.heap.size<=k->w4.heap[k]?=W1.heap[k]?:=λk e1 e2=>r_.Ut.block k e1 (λe=>by have:=Wg.o k e;omega);have y0:=h_.run.c0;have y2:=(Z9 (a:=(VJ w.heap.size 2)) (hk4 _ l3 UM)).trans y2;have v14:=(Z9 (a:=(VJ w2.heap.size 1)) ail).trans v1;rw[r_.b]at y0;revert hk4 y0 y2 v14
 exact zk.o):p:=h ⟨k⟩
def ahg(k:q)(h:Bx q->p:=by
 intro zk;have hBa:Below W1.heap.size W1 W1.drew:=(ZR _ _).drew;have hBb:Below W1.heap.size W1 (W1.alloc (.cells #[.pointer none,.pointer none] 62)).drew:=((ZR _ _).alloc UM _).drew;revert hBa hBb
 exact zk.o):p:=h ⟨k⟩
def gY(k:q)(h:Bx q->p:=by
 intro zk;have hc2:=hc1.then amJ Js;have SF:=LL.same amM;have XS:=(hB2.cell (p:=(VJ rb 24)) l1).trans Lt;have l2:=ZY l1 hB2.size;revert hc2 SF XS l2
 exact zk.o):p:=h ⟨k⟩
def aiv(k:q)(h:Bx q->p:=by
 intro zk;have B:=h.box x pl hW1;have c0:=B.c0;have x2:=B.x2;have l1:=B.l1;have l1:=B.l3;have HB:Hid _:=B;have hmk:∀W,Below W1.heap.size W1 W->Calls prog 16 #[VG K.b,.string (VF x.a)] W λe w'=>e=.returned (.tuple #[(m.make (VF x.a)).1.val,VI (m.make (VF x.a)).2.1])/\∃K',Step W w' m K (m.make (VF x.a)).2.2 K':=λW hW=>um (B.sg.below hW).Qj.Ub (VF x.a);rename_i N';revert B c0 x2 N' l1 HB hmk
 exact zk.o):p:=h ⟨k⟩
def ana(k:q)(h:Bx q->p:=by
 intro zk;refine ZT (S:=(λw'=>w'.cell? (VJ g 0)=some (.string y0)/\w'.cell? (VJ g 1)=some (.string y1)/\w'.cell? (VJ g 2)=some (.string y2))) VE UG (λhHeld=>?_);revert hHeld
 exact zk.o):p:=h ⟨k⟩
def BH(k:q)(h:Bx q->p:=by
 intro zk
 obtain⟨x,hx⟩:∃x,ws[k]?=some x:=⟨_,Z8 hkn⟩
 revert x hx
 exact zk.o):p:=h ⟨k⟩
def abH(k:q)(h:Bx q->p:=by
 intro zk;go_simp;have htk:=take_any LL;unfold Vl.val at htk;refine htk.mono ?_;clear htk;rintro e V2 ⟨rfl,SF,hcc⟩;have XS:=(Z9 (a:=(VJ rb 24)) (hcc.block _ l1 HB.o.n1)).trans Lt;revert V2 SF hcc XS
 exact zk.o):p:=h ⟨k⟩
def ahV(k:q)(h:Bx q->p:=by
 intro zk;have p0:=(Z9 (a:=(VJ w.heap.size 0)) ajC).trans dx;have p1:=(Z9 (a:=(VJ w.heap.size 1)) ajC).trans qn;have Wo:=(r_.Ut.block w3.heap.size Se (λx=>x.1 R7)).trans hvb;have u0:=(Vp Wo).1;have u1:=(Vp Wo).2;have uf:∀o,w4.frozen? (VJ w3.heap.size o)=false:=λo=>UL.free ⟨_,_,Wo⟩ o;unfold Vl.val;revert p0 p1 Wo u0 u1 uf
 exact zk.o):p:=h ⟨k⟩
def LU(k:q)(h:Bx q->p:=by
 intro zk;obtain⟨z0,z1,z2,z3,z4,z5,zf⟩:=J_.o.hz.all;obtain⟨u0,u1,u2,u3,u4,u5,uf⟩:=J_.o.hu.all;revert z0 z1 z2 z3 z4 z5 zf u0 u1 u2 u3 u4 u5 uf
 exact zk.o):p:=h ⟨k⟩
def rD(k:q)(h:Bx q->p:=by
 intro zk;refine hcall.mono ?_;rintro e w2 ⟨rfl,hf2,hc2⟩;have XS:=(Z9 (a:=(VJ rb 24)) iY).trans ct;revert w2 hf2 hc2 XS
 exact zk.o):p:=h ⟨k⟩
def fC(k:q)(h:Bx q->p:=by
 intro zk;simp only[reduceIte,Nat.reduceEqDiff,or_self,YE,false_or];refine LP h LW (a1 LW uI zb7 (λv hv=>?_)) I' C';revert v hv
 exact zk.o):p:=h ⟨k⟩
def iM(k:q)(h:Bx q->p:=by
 intro zk;refine(L6 s _ hs).mono ?_;rintro e w1 ⟨rfl,hb1⟩;rw[HC.o];revert w1 hb1
 exact zk.o):p:=h ⟨k⟩
def uy(k:q)(h:Bx q->p:=by
 intro zk;have D_:((s[0].toNat:Int)==115)=false:=Vo;have D_:((s.size:Int)==3)=true:=Vo;rename_i N';revert N' D_
 exact zk.o):p:=h ⟨k⟩
def ajl(k:q)(h:Bx q->p:=by
 intro zk;rw[hW1];refine h2.aside h0 (S:=λk=>k=W1.heap.size) (((Vt.refl _ (λk=>k=W1.heap.size)).setCell _ _ (λ_=>rfl)).setCell _ _ (λ_=>rfl)) (λk e=>?_);rw[e];refine⟨by have:=HB.o.sg.Qj.Ut.size;omega,λe'=>?_,λe'=>by have:=(HB.o.sg.lo _ e').2.1;omega,λe'=>by have:=(HB.o.sg.dead _ e').2.1;omega⟩;revert k e e'
 exact zk.o):p:=h ⟨k⟩
def ai1(k:q)(h:Bx q->p:=by
 intro zk;have I_:=RT.o.1.ref hr;have hB1:=RT.o.2.1.ref hr;have hb1:=hB1.2.trans RT.o.2.2;have Tp:=I_.new (.cells #[.bool v.obj,VI v.n] 79);have L_:(w2.alloc (.cells #[.bool v.obj,VI v.n] 79)).heap[w2.heap.size]?=some (.cells #[.bool v.obj,VI v.n] 79):=(Z4 w2 _).1;have hb4:=(ZV w2 (.cells #[.bool v.obj,VI v.n] 79) _ hB1.1.lt).trans hb1;revert I_ hB1 hb1 Tp L_ hb4
 exact zk.o):p:=h ⟨k⟩
def fP(k:q)(h:Bx q->p:=by
 intro zk
 try refine UE ?_
 have hc3:=hc2.then hcc Qi;have l3:=ZY l2 hcc.size;revert hc3 l3
 exact zk.o):p:=h ⟨k⟩
def Ij(k:q)(h:Bx q->p:=by
 intro zk;obtain⟨k0,n0,t2,t2,t2,hv⟩:=ab7 o;have HV:Hid _:=hv;clear hv;rename_i N' P4;revert k0 n0 N' P4 t2 HV
 exact zk.o):p:=h ⟨k⟩
def aja(k:q)(h:Bx q->p:=by
 intro zk;have hz:=(Z4 w (.cells #[.bool false,VI 0] 33)).1;have z0:(w.alloc (.cells #[.bool false,VI 0] 33)).cell? (VJ w.heap.size 0)=some (.bool false):=by simp only[World.cell?,hz];rfl
 have z1:(w.alloc (.cells #[.bool false,VI 0] 33)).cell? (VJ w.heap.size 1)=some (VI 0):=by simp only[World.cell?,hz];rfl
 revert hz z0 z1
 exact zk.o):p:=h ⟨k⟩
def iC(k:q)(h:Bx q->p:=by
 intro zk;refine HR.o _ _ _ ?_;refine ZQ (Rt results76 _ _ _ _ _ rfl aox) rfl ?_
 exact zk.o):p:=h ⟨k⟩
def yS(k:q)(h:Bx q->p:=by
 intro zk;refine(TU b s (i) 60 _ hs VH FM W_.o.to.rd).mono ?_
 exact zk.o):p:=h ⟨k⟩
def NK(k:q)(h:Bx q->p:=by
 intro zk;have HH:Hid (RK w m K/\K.en=0):=adQ;revert HH
 exact zk.o):p:=h ⟨k⟩
def ah9(k:q)(h:Bx q->p:=by
 intro zk;rw[<- hW1];have hb3:Below w2.heap.size w2 W1:=fQ;have hz3:W1.heap[w2.heap.size]?=some (.cells #[.bool true,VI n] 33):=abf;have h_:=H2.o.1.below hb3;have hs2:=H2.o.2.size;have y2:=(hb3.cell (p:=(VJ w.heap.size 2)) ahZ).trans ((Z9 (a:=(VJ w.heap.size 2)) (H2.o.2.block _ l3 HB.o.n2)).trans x2);have y0:=h_.run.c0;revert hb3 hz3 h_ hs2 y2 y0
 exact zk.o):p:=h ⟨k⟩
def ahE(k:q)(h:Bx q->p:=by
 intro zk;obtain⟨W,hW,hF,hO,hb⟩:=UW hk h (⟨k,n,sl,xa,xb⟩,xi);change W=w.alloc (.cells #[.int .u8 (k:Nat),VI n,.string (VF sl),.string (VF xa),.string (VF xb),VI (xi:Nat)] 188) at hW;change Calls _ _ #[VG K.b,VG fb,.agg #[.int .u8 (k:Nat),VI n,.string (VF sl),.string (VF xa),.string (VF xb),VI (xi:Nat)]] _ _;revert W hF hO hb hW
 exact zk.o):p:=h ⟨k⟩
def ajG(k:q)(h:Bx q->p:=by
 intro zk;have y0:=(Z9 (a:=(VJ z 0)) (hb3 z M5 e1)).trans z0;have y1:=(Z9 (a:=(VJ z 1)) (hb3 z M5 e1)).trans z1;have x0:=(Z9 (a:=(VJ (w.heap.size+1) 0)) (hb3 _ MT e3)).trans t0;have x1:=(Z9 (a:=(VJ (w.heap.size+1) 1)) (hb3 _ MT e3)).trans t1;revert y0 y1 x0 x1
 exact zk.o):p:=h ⟨k⟩
def aiF(k:q)(h:Bx q->p:=by
 intro zk
 have HS:Hid (Ux w sb l ps/\TabAt w b n R/\Cls w m cb cm/\Sm bd w L pm Sd/\(∀s p,Reg l ps s p->(p,s)∈L)):=⟨hs,ht,hcl,hP,q_⟩
 have HN:Hid (¬Vm L pm b/\(∀c,c<m.kl.length->¬Vm L pm (cb c)/\cb c≠b)/\(∀k,Vm L pm k->k<w.heap.size)):=⟨Ww,DE,Rr⟩
 revert HS HN
 exact zk.o):p:=h ⟨k⟩
def acM(k:q)(h:Bx q->p:=by
 intro zk;rw[agK hd Vz Vz (Iu hd)];have e:=Ny hd;unfold Px;rw[ZX sV];unfold KZ;rw[GH Vz,ZX VH];unfold KJ;revert e
 exact zk.o):p:=h ⟨k⟩
def ahw(k:q)(h:Bx q->p:=by
 intro zk;obtain⟨W,hW,hF,hO,hb⟩:=UW hk h (⟨98,n,sl,xa,xb⟩,xi);change W=w.alloc (.cells #[.int .u8 98,VI n,.string (VF sl),.string (VF xa),.string (VF xb),VI (xi:Nat)] 188) at hW;change Calls _ _ #[VG K.b,VG fb,.agg #[.int .u8 98,VI n,.string (VF sl),.string (VF xa),.string (VF xb),VI (xi:Nat)]] _ _;revert W hF hO hb hW
 exact zk.o):p:=h ⟨k⟩
def La(k:q)(h:Bx q->p:=by
 intro zk
 try refine UE ?_
 refine Ur 11 ?_
 exact zk.o):p:=h ⟨k⟩
def aiq(k:q)(h:Bx q->p:=by
 intro zk;have w_:=iT w3 m K2 [] ⟨false,tn⟩ (m.of ⟨false,tn⟩) sel (.slice ap args.length cap) args ab z_.rk HX.o.2.2.2.2.1 iQ rfl gy RW.o Mx.o HI.o.2.2.1 HI.o.2.2.2.1 eU ahB aiN;rw[HX.o.2.2.2.2.2.1,HX.o.2.2.2.1]at w_;unfold Vl.val at w_;revert w_
 exact zk.o):p:=h ⟨k⟩
def ahp(k:q)(h:Bx q->p:=by
 intro zk;have w_:=iT w3 m K2 [] ⟨true,tn⟩ (m.of ⟨true,tn⟩) sel (.slice ap args.length cap) args ab z_.rk HX.o.2.2.2.2.1 iQ rfl gy RW.o Mx.o HI.o.2.2.1 HI.o.2.2.2.1 eU ahB aiN;rw[HX.o.2.2.2.2.2.1,HX.o.2.2.2.1]at w_;unfold Vl.val at w_;revert w_
 exact zk.o):p:=h ⟨k⟩
def aaQ(k:q)(h:Bx q->p:=by
 intro zk;rw[<- hV0,<- t_];have j_:Below V2.heap.size V2 V3:=ahU;have N_:V3.heap[z10]?=some (.cells #[.bool false,VI 0] 33):=apb;have Ta:W1.heap.size<=z10:=am3;revert j_ N_ Ta
 exact zk.o):p:=h ⟨k⟩
def adU(k:q)(h:Bx q->p:=by
 intro zk;rw[<- hV0,<- u_];have j_:Below V2.heap.size V2 V3:=ahU;have K_:V3.heap[z11]?=some (.cells #[.bool false,VI 0] 33):=anf;have S7:W1.heap.size<=z11:=aob;revert j_ K_ S7
 exact zk.o):p:=h ⟨k⟩
def aiO(k:q)(h:Bx q->p:=by
 intro zk
 have HX:Hid (Vu wr X2.drew m K m K2/\Vu wr (X2.alloc (.cells #[.bool false,VI 0] 79)).drew m K m K2/\X2.heap.size=wr.heap.size/\K2.fu=fu/\K2.en=0/\K2.b=K.b/\K2.lab=K.lab):=⟨Bs,M7,G0,LR⟩
 have gF:w.heap.size+1<X2.heap.size:=VH;have C7:¬X2.heap.size=w.heap.size:=VH;revert HX gF C7
 exact zk.o):p:=h ⟨k⟩
def aif(k:q)(h:Bx q->p:=by
 intro zk;refine ZT (S:=(λw'=>w'.cell? (VJ w.heap.size 0)=some ((VG (K.cb c)))/\w'.cell? (VJ w.heap.size 1)=some (.string s)/\w'.cell? (VJ K.b (6+i*4))=some (.pointer (Vq cr))/\w'.cell? (VJ K.b (6+i*4+1))=some (.string r.sel))) VE UG (λhHeld=>?_);revert hHeld
 exact zk.o):p:=h ⟨k⟩
def aic(k:q)(h:Bx q->p:=by
 intro zk;refine ZT (S:=(λw'=>w'.cell? (VJ rb 0)=some (VG K.b)/\w'.cell? (VJ w.heap.size 2)=some (.string (VF x.a))/\w'.cell? (VJ w.heap.size 3)=some (.string (VF x.sel))/\w'.cell? (VJ w.heap.size 4)=some (.string (VF x.b)))) VE UG (λhHeld=>?_);revert hHeld
 exact zk.o):p:=h ⟨k⟩
def aiP(k:q)(h:Bx q->p:=by
 intro zk;have hr0:=eT.o;rw[ZX (by rw[hno];simp)]at hr0;have hs1:=HH.o.2.rk.fuel fu;have hs2:Vu wr ((wr.setCell (VJ K.b 3) (VI (fu:Nat))).setCell (VJ K.b 4) (VI 0)) m K m {K with fu:=fu,en:=0}:=hs1.trans (hs1.rk.end_ 0);have c3:=HH.o.2.rk.c3;have c4:=HH.o.2.rk.c4;have kf:=λo=>HH.o.2.rk.Vb.free o;revert hr0 hs1 hs2 c3 c4 kf
 exact zk.o):p:=h ⟨k⟩
def qW(k:q)(h:Bx q->p:=by
 intro zk;refine(Tt s [110,101,119,58] false _ VH Vy G1.o).mono ?_
 exact zk.o):p:=h ⟨k⟩
def ahY(k:q)(h:Bx q->p:=by
 intro zk;have G_:=(HF.o.1.trans S_).new (.cells #[.bool v.obj,VI v.n] 79);have ho1:=Qk S_.rk S_.fr (.cells #[.bool v.obj,VI v.n] 79);have k_:(w1.alloc (.cells #[.bool v.obj,VI v.n] 79)).heap[w1.heap.size]?=some (.cells #[.bool v.obj,VI v.n] 79):=(Z4 w1 _).1;revert G_ ho1 k_
 exact zk.o):p:=h ⟨k⟩
def ajV(k:q)(h:Bx q->p:=by
 intro zk
 try refine UE ?_
 refine Ul 6 λY_ Z_=>?_;go_simp;refine(hmk _ hBb).mono ?_;rintro e w2 ⟨rfl,K',hst⟩;have h2:=(HB.o.sg.below hBb).img hst;have y0:=h2.run.c0;rw[hst.b]at y0;have y2:=(Z9 (a:=(VJ w.heap.size 2)) (hst.Ut.block _ Vo aiQ)).trans ((hBb.cell (p:=(VJ w.heap.size 2)) l1).trans x2);revert Y_ Z_ w2 K' hst h2 y0 y2
 exact zk.o):p:=h ⟨k⟩
def zN(k:q)(h:Bx q->p:=by
 intro zk;have A3:∀o,Y.frozen? (VJ (w.heap.size+1) o)=false:=λo=>an5;revert A3
 exact zk.o):p:=h ⟨k⟩
def ahn(k:q)(h:Bx q->p:=by
 intro zk;refine(KX y0 _ _ SE B0.o).mono ?_
 exact zk.o):p:=h ⟨k⟩
def qG(k:q)(h:Bx q->p:=by
 intro zk;have hp:=Hr (f:=f) hF.rk hF.fr Ea;unfold Vl.val at hp;revert hp
 exact zk.o):p:=h ⟨k⟩
def aiG(k:q)(h:Bx q->p:=by
 intro zk;rintro e W3 ⟨rfl,hb3⟩;have c3:=(hb3.cell (p:=(VJ q 0)) (ZE W2 (VJ q 0) c0)).trans c0;have cf3:∀o,W3.frozen? (VJ q o)=false:=λo=>(Zr (a:=(VJ q o)) (hb3.block q (ZE W2 (VJ q 0) c0))).trans (cf o);revert W3 hb3 c3 cf3
 exact zk.o):p:=h ⟨k⟩
def ajK(k:q)(h:Bx q->p:=by
 intro zk;have G_:=(HF.o.1.trans S_).new (.cells #[.bool bo,VI bn] 79);have ho1:=Qk S_.rk S_.fr (.cells #[.bool bo,VI bn] 79);have k_:(w1.alloc (.cells #[.bool bo,VI bn] 79)).heap[w1.heap.size]?=some (.cells #[.bool bo,VI bn] 79):=(Z4 w1 _).1;revert G_ ho1 k_
 exact zk.o):p:=h ⟨k⟩
def tX(k:q)(h:Bx q->p:=by
 intro zk;refine(Tt s [98,101,58] false _ VH Vy G2.o).mono ?_
 exact zk.o):p:=h ⟨k⟩
def yK(k:q)(h:Bx q->p:=by
 intro zk
 have Wg:Hid (∀k,U2 m K k->k<w.heap.size):=by
  exact am0
 revert Wg
 exact zk.o):p:=h ⟨k⟩
def ajk(k:q)(h:Bx q->p:=by
 intro zk;refine ZT (S:=(λw'=>w'.cell? (VJ K.b 0)=some (.slice (some (VJ cg 0)) K.cl.length Fm)/\w'.cell? (VJ cg (f.home*4+1))=some (VI (Qh hk1.above))/\w'.cell? (VJ fb 1)=some (VI (f.home:Nat)))) VE UG (λhHeld=>?_);revert hHeld
 exact zk.o):p:=h ⟨k⟩
def yM(k:q)(h:Bx q->p:=by
 intro zk;refine ZQ (results_none rfl _ _ _) rfl ?_
 exact zk.o):p:=h ⟨k⟩
def ahJ(k:q)(h:Bx q->p:=by
 intro zk;have hpb:=((S_.off _ HX.o.1).2.trans HX.o.2).trans HF.o.2.2;have pk:w1.cell? (VJ w.heap.size 0)=some (.int .u8 (k:Nat)):=by simp only[World.cell?,hpb];rfl
 have HQ:Hid _:=Z6;have k4:=Z6.rk.c4;have kf:=λo=>Z6.rk.Vb.free o;have hbl:=Z6.rk.Vb.lt;have HE:=UQ (Z6.rk.end_ 3);revert hpb pk HQ k4 kf hbl HE
 exact zk.o):p:=h ⟨k⟩
def acg(k:q)(h:Bx q->p:=by
 intro zk;have f1:=Vv.o.f1;have z0:=Vv.o.z0;have z1:=Vv.o.z1;have z2:=Vv.o.z2;have z3:=Vv.o.z3;have z4:=Vv.o.z4;have z5:=Vv.o.z5;have e1:=JS.o.c1;revert f1 z0 z1 z2 z3 z4 z5 e1
 exact zk.o):p:=h ⟨k⟩
def ahR(k:q)(h:Bx q->p:=by
 intro zk;have v0:=(Vp hb4).1;have v1:=(Vp hb4).2;have q0:=(Vp L_).1;have q1:=(Vp L_).2;have hvl:=(Z5.1 hb4).1;have hwl:=(Z5.1 L_).1;have PA:=NG v X.drew;unfold Vl.val at PA;have RT:=UQ (Tp.1.below (ZR _ _).drew);revert v0 v1 q0 q1 hvl hwl PA RT
 exact zk.o):p:=h ⟨k⟩
def agS(k:q)(h:Bx q->p:=by
 intro zk;have v1:W1.cell? (VJ w2.heap.size 1)=some (VI n):=by simp only[World.cell?,hz3];rfl
 have Ss:=acP h_.Qj.Ub.drew n (VF x.a);rw[HD.o]at Ss;have l3:w.heap.size<W1.heap.size:=by have:=hb3.size;omega
 have A6:=(Z5.1 hz3).1;revert v1 Ss l3 A6
 exact zk.o):p:=h ⟨k⟩
def acE(k:q)(h:Bx q->p:=by
 intro zk;refine(TU b s (i+nm.length) 46 _ hs VH JT.o J_.o.to.rd).mono ?_;rintro e w1 ⟨rfl,X_⟩;have J_:Hid _:=J_.o.call X_;revert w1 X_ J_
 exact zk.o):p:=h ⟨k⟩
def qC(k:q)(h:Bx q->p:=by
 intro zk;have IH:Hid ((s.extract i (i+1)).size<=140737488355328):=aeK hs _ _;revert IH
 exact zk.o):p:=h ⟨k⟩
def aeP(k:q)(h:Bx q->p:=by
 intro zk;refine HR.o _ _ _ ?_;refine ZQ (Rt results109 _ _ _ _ _ rfl aod) rfl ?_
 exact zk.o):p:=h ⟨k⟩
def qL(k:q)(h:Bx q->p:=by
 intro zk;have hlt:=(Z7.1 hx).1;have hw:EG f.ws f.pc=x.1:=ql;revert hlt hw
 exact zk.o):p:=h ⟨k⟩
def ajf(k:q)(h:Bx q->p:=by
 intro zk;have Jn:=S_.off _ HG.o.2.1;have hop:=S_.off _ HG.o.2.2.2.1;have hb:=Jn.2.trans HG.o.2.2.1
 obtain⟨u,hu⟩:∃u,(List.replicate (g+1) Vl.zero++(f.st.take (N-(g+1))).reverse)[g]?=some u:=⟨_,Z8 Vo⟩
 have DH:=PV _ _ _ hu;revert Jn hop hb u hu DH
 exact zk.o):p:=h ⟨k⟩
def aju(k:q)(h:Bx q->p:=by
 intro zk;refine ZT (S:=(λw'=>w'.cell? (VJ w.heap.size 0)=some (.pointer (Vq (C_.map K.cb)))/\w'.cell? (VJ w.heap.size 1)=some (.string s)/\w'.cell? (VJ rb 0)=some (VG K.b))) VE UG (λhHeld=>?_);revert hHeld
 exact zk.o):p:=h ⟨k⟩
def aij(k:q)(h:Bx q->p:=by
 intro zk;have gO:=Ke.form;obtain⟨wx,wj,LE,LA,DB,Hc⟩:=gO;have w_:=adD I_.r o.to X_ o.s SE (args:=o.args) (ap:=wx) (cap:=wj) (ab:=LE) agX ahd N6.o.all SE o.n;rw[<- LA,HR.o,I_.sZ]at w_;unfold Vl.val at w_;clear LA DB Hc;revert wx wj LE w_
 exact zk.o):p:=h ⟨k⟩
def ajq(k:q)(h:Bx q->p:=by
 intro zk
 have Mx:Hid (∀v∈args,TF m v):=λu hu=>⟨HI.o.2.1 u hu,λe=>by
  obtain⟨k,hk⟩:=Yd hu;have:=HG.o k u (Z7.1 hk).1 hk;rw[e]at this
  simpa using this⟩
 revert Mx
 exact zk.o):p:=h ⟨k⟩
def ahx(k:q)(h:Bx q->p:=by
 intro zk;refine ZT (S:=(λw'=>w'.cell? (VJ rb 0)=some (VG K.b)/\w'.cell? (VJ w.heap.size 2)=some (.string (VF x.a))/\w'.cell? (VJ w.heap.size 3)=some (.string (VF x.sel)))) VE UG (λhHeld=>?_);revert hHeld
 exact zk.o):p:=h ⟨k⟩
def agR(k:q)(h:Bx q->p:=by
 intro zk;have Sk:=HZ.o.1.kept HZ.o.2.1 AI.o HZ.o.2.2.1 S2;have a0:=(Vp Sk).1;have a1:=(Vp Sk).2;have af:∀o,w0.frozen? (VJ w.heap.size o)=false:=λo=>UL.free ⟨_,_,Sk⟩ o;have al:=(Z5.1 Sk).1;revert Sk a0 a1 af al
 exact zk.o):p:=h ⟨k⟩
def ain(k:q)(h:Bx q->p:=by
 intro zk;go_simp;refine Lf.mono ?_;rintro e w3 ⟨rfl,hb3⟩;have q3:=(Z9 (a:=(VJ w.heap.size 0)) ais).trans s0;have Pd:=(Z9 (a:=(VJ w.heap.size 1)) ais).trans s1;have z_:=HX.o.1.trans (Vu.below HX.o.1.rk hb3);revert w3 hb3 q3 Pd z_
 exact zk.o):p:=h ⟨k⟩
def aio(k:q)(h:Bx q->p:=by
 intro zk;refine ZT (S:=(λw'=>w'.cell? (VJ rb 0)=some (VG K.b)/\w'.cell? (VJ w.heap.size 2)=some (.string (VF x.a))/\w'.cell? (VJ w.heap.size 4)=some (.string (VF x.b)))) VE UG (λhHeld=>?_);revert hHeld
 exact zk.o):p:=h ⟨k⟩
def iO(k:q)(h:Bx q->p:=by
 intro zk;refine Uh 11 ?_;refine Uh 12 ?_;refine Uh 13 ?_;refine Uh 14 ?_
 exact zk.o):p:=h ⟨k⟩
def ajM(k:q)(h:Bx q->p:=by
 intro zk;obtain⟨d0,yq,yh,yc,d1,wD,wA⟩:=hget j y hy;rw[<- HI.o.2.2 mg _ r9]at d0 d1
 have HY:Hid (k.ms[j]?=some y/\acT w Q y (.string y.sel) (.slice yq y.ws.length yc)):=⟨hy,rfl,yq,yh,yc,rfl,wD,wA⟩
 have htk:k.ms.take (j+1)=k.ms.take j++[y]:=by rw[Yc,hy];rfl
 revert d0 yq yh yc d1 wD wA HY htk
 exact zk.o):p:=h ⟨k⟩
def uZ(k:q)(h:Bx q->p:=by
 intro zk;refine Uh 11 ?_;refine Ur 12 ?_
 exact zk.o):p:=h ⟨k⟩
def aaX(k:q)(h:Bx q->p:=by
 intro zk;have D_:((s[0].toNat:Int)==115)=false:=Vo;have D_:((s.size:Int)==3)=false:=Vo;rename_i N';revert N' D_
 exact zk.o):p:=h ⟨k⟩
def ahC(k:q)(h:Bx q->p:=by
 intro zk;have hne:∀k,Vm L T_ k->k≠w.heap.size:=λk hk e=>by have:=nh.o k (Qt k hk);omega
 have HL:=UQ akj
 have HS:Hid (wr.iterSeen w.heap.size=seen):=by
  exact ag9
 have m_:=hpl.same (λk hk=>i2 k (hne k hk));have Wz:=hch.then i4 aK;revert hne HL HS m_ Wz
 exact zk.o):p:=h ⟨k⟩
def ahi(k:q)(h:Bx q->p:=by
 intro zk;have Li:(d:Int)<32:=VH;have hok:=En HH.o.ok K.fu C_ to sel args fs HI.o.2.1 HI.o.2.2.1 HI.o.2.2.2.1 (λ_=>HI.o.2.2.2.2.1) HI.o.2.2.2.2.2 HI.o.1 (by rw[Wg.o];exact hd);rw[hsend]at hok;revert Li hok
 exact zk.o):p:=h ⟨k⟩
def adw(k:q)(h:Bx q->p:=by
 intro zk;refine(Qd b s i 97 122 6 isSmall a _ hs hi VH HH.o rfl HS.o).mono ?_;rintro e w1 ⟨rfl,X_⟩;have HT:Hid _:=X_;revert w1 X_ HT
 exact zk.o):p:=h ⟨k⟩
def aiV(k:q)(h:Bx q->p:=by
 intro zk;refine ZT (S:=(λw'=>w'.cell? (VJ K.b 1)=some (.slice (some (VJ g 0)) m.obs.length cap)/\w'.cell? (VJ g (i*2+1))=some (.slice (some (VJ (K.ob i) 0)) n n))) VE UG (λhHeld=>?_);revert hHeld
 exact zk.o):p:=h ⟨k⟩
def adV(k:q)(h:Bx q->p:=by
 intro zk;have Pu:(c:Int)<(K.cl.length:Int):=VH;have x6:(i:Int)<(k.ms.length:Int):=VH;have Vn:(k.ms.length:Int)<=1600000000:=VH;revert Pu x6 Vn
 exact zk.o):p:=h ⟨k⟩
def agZ(k:q)(h:Bx q->p:=by
 intro zk;have Wo:=(r_.Ut.block X2.heap.size Se (λx=>x.1 R7)).trans hvb;have u0:=(Vp Wo).1;have u1:=(Vp Wo).2;have uf:∀o,w4.frozen? (VJ X2.heap.size o)=false:=λo=>UL.free ⟨_,_,Wo⟩ o;unfold Vl.val;revert Wo u0 u1 uf
 exact zk.o):p:=h ⟨k⟩
def ahA(k:q)(h:Bx q->p:=by
 intro zk;refine ZT (S:=(λw'=>w'.cell? (VJ rb 0)=some (VG K.b)/\w'.cell? (VJ w.heap.size 2)=some (.string (VF x.a))/\w'.cell? (VJ w2.heap.size 1)=some (VI n))) VE UG (λhHeld=>?_);revert hHeld
 exact zk.o):p:=h ⟨k⟩
def ai4(k:q)(h:Bx q->p:=by
 intro zk;refine hcall.mono ?_;rintro e w2 ⟨rfl,hf2,hc2⟩;have h_:=HB.o.sg.top (f':={f with st:=r}) h0 hc2 hf2 rfl rfl
 have H2:Hid (Sg Dd w0 m0 K0 rb w2 m K fuel ((fb,mk)::bs) ({f with st:=r}::fs)/\Vt W1 w2 (λk=>k=fb)):=⟨h_,hc2⟩
 revert w2 hf2 hc2 h_ H2
 exact zk.o):p:=h ⟨k⟩
def aa9(k:q)(h:Bx q->p:=by
 intro zk;have c0:=hwr.c0 k x hx;have c1:=hwr.c1 k x hx;have c2:=hwr.c2 k x hx;have c3:=hwr.c3 k x hx;have c4:=hwr.c4 k x hx;have c5:=hwr.c5 k x hx;revert c0 c1 c2 c3 c4 c5
 exact zk.o):p:=h ⟨k⟩
def zG(k:q)(h:Bx q->p:=by
 intro zk;have hp:=Hr (f:=f) hF.rk hF.fr VH;unfold Vl.val at hp;revert hp
 exact zk.o):p:=h ⟨k⟩
def ag1(k:q)(h:Bx q->p:=by
 intro zk;refine ZT (S:=(λw'=>w'.cell? (VJ rb 24)=some (VG fb)/\w'.cell? (VJ w2.heap.size 0)=some (.bool v.obj)/\w'.cell? (VJ w2.heap.size 1)=some (VI v.n))) VE UG (λhHeld=>?_);revert hHeld
 exact zk.o):p:=h ⟨k⟩
def Jz(k:q)(h:Bx q->p:=by
 intro zk;have R6:(i:Int)<(m.obs.length:Int):=VH;revert R6
 exact zk.o):p:=h ⟨k⟩
def aib(k:q)(h:Bx q->p:=by
 intro zk;have c0:=h 0 _ rfl;have c0:=h 1 _ rfl;have c0:=h 2 _ rfl;have c0:=h 3 _ rfl;have c0:=h 4 _ rfl;have c0:=h 5 _ rfl;have c0:=h 6 _ rfl;have c0:=h 7 _ rfl;have c0:=h 8 _ rfl;have c0:=h 9 _ rfl;rename_i N' P4 Mj EV E9 iz lL nj kO;revert N' P4 Mj EV E9 iz lL nj kO c0
 exact zk.o):p:=h ⟨k⟩
def ac7(k:q)(h:Bx q->p:=by
 intro zk;refine(Qd b s i 97 122 6 isSmall lt _ hs VH VH W_.o.to.rd rfl NL.o).mono ?_
 exact zk.o):p:=h ⟨k⟩
def BD(k:q)(h:Bx q->p:=by
 intro zk
 try refine UE ?_
 refine Ur 12 ?_
 exact zk.o):p:=h ⟨k⟩
def acW(k:q)(h:Bx q->p:=by
 intro zk
 try refine UE ?_
 refine Uh 10 ?_;refine Uh 11 ?_;refine Uh 12 ?_;refine Ur 13 ?_
 exact zk.o):p:=h ⟨k⟩
def ajI(k:q)(h:Bx q->p:=by
 intro zk;have z0:=W_.o.hz.c0;have z0:=W_.o.hz.c1;have z0:=W_.o.hz.c2;have z0:=W_.o.hz.c3;have z0:=W_.o.hz.c4;have z0:=W_.o.hz.c5;have zf:=W_.o.hz.f;have d0:=W_.o.to.rd.c0;have d1:=W_.o.to.rd.c1;rename_i N' P4 Mj EV E9;revert N' P4 Mj EV E9 z0 zf d0 d1
 exact zk.o):p:=h ⟨k⟩
def IV(k:q)(h:Bx q->p:=by
 intro zk;obtain⟨z0,z1,z2,z3,z4,z5,zf⟩:=J_.hz.all;obtain⟨u0,u1,u2,u3,u4,u5,uf⟩:=J_.hu.all;revert z0 z1 z2 z3 z4 z5 zf u0 u1 u2 u3 u4 u5 uf
 exact zk.o):p:=h ⟨k⟩
def ajE(k:q)(h:Bx q->p:=by
 intro zk;have hmc:UL w m:=wK;have m0:w.cell? (VJ m 0)=some (.slice p ws.length cap):=by simp only[World.cell?,hm];rfl
 have m1:w.cell? (VJ m 1)=some (VI h):=by simp only[World.cell?,hm];rfl
 have mf:=λo=>hmc.free o;revert hmc m0 m1 mf
 exact zk.o):p:=h ⟨k⟩
def FT(k:q)(h:Bx q->p:=by
 intro zk;go_simp;refine w_.mono ?_
 exact zk.o):p:=h ⟨k⟩
def aiS(k:q)(h:Bx q->p:=by
 intro zk;have SM:Hid _:=hB1
 have Ca:Hid (W1.heap[w.heap.size]?=some (.cells #[.pointer (Vq (C_.map K.cb)),.string s] 59)/\W1.heap[w.heap.size+1]?=some (.cells #[.bool to.obj,VI to.n] 33)):=⟨b0,b1⟩
 revert SM Ca
 exact zk.o):p:=h ⟨k⟩
def ahb(k:q)(h:Bx q->p:=by
 intro zk;go_simp;refine(hmk _ hBa).mono ?_;rintro e w2 ⟨rfl,K',hst⟩;have h2:=(HB.o.sg.below hBa).img hst;have y0:=h2.run.c0;rw[hst.b]at y0;have y2:=(Z9 (a:=(VJ w.heap.size 2)) (hst.Ut.block _ l1 aiQ)).trans x2;revert w2 K' hst h2 y0 y2
 exact zk.o):p:=h ⟨k⟩
def CG(k:q)(h:Bx q->p:=by
 intro zk;refine Uh 16 ?_;refine Ur 17 ?_
 exact zk.o):p:=h ⟨k⟩
def aaO(k:q)(h:Bx q->p:=by
 intro zk
 go_ret
 refine⟨_,rfl,?_,((ZR _ _).alloc UM _).alloc Vy _⟩;rw[HG.o]
 exact zk.o):p:=h ⟨k⟩
def uU(k:q)(h:Bx q->p:=by
 intro zk;rw[OG _ _ Vy Vy Vz an0,ZU Vy]
 exact zk.o):p:=h ⟨k⟩
def LM(k:q)(h:Bx q->p:=by
 intro zk;unfold Kn.NM.val;simp only
 exact zk.o):p:=h ⟨k⟩
def ahO(k:q)(h:Bx q->p:=by
 intro zk
 have L0:Hid (Ux W0 sb l ps/\Sm bd W0 L pm Sd/\Vt w W0 (λ_=>False)/\TabAt W0 b n R):=⟨hs0,pA,US,HS.o.2.1.same (US.block b hbl EZ)⟩
 have Sb:=ZY hbl US.size;revert L0 Sb
 exact zk.o):p:=h ⟨k⟩
def ahN(k:q)(h:Bx q->p:=by
 intro zk
 have hne:¬sel.toList=[]:=λe=>by
  have:=IJ he;rw[e]at this;simp at this
 have UB:sel.toList.isEmpty=false:=by
  cases hx:sel.toList with
  | nil=>exact absurd hx hne
  | cons a l=>rfl
 revert hne UB
 exact zk.o):p:=h ⟨k⟩
def aip(k:q)(h:Bx q->p:=by
 intro zk;unfold Uo TQ;have hBa:Below W1.heap.size W1 W1.drew:=(ZR _ _).drew;have hBb:Below W1.heap.size W1 (W1.alloc (.cells #[.bool false,VI 0] 33)).drew:=((ZR _ _).alloc UM _).drew;revert hBa hBb
 exact zk.o):p:=h ⟨k⟩
def aiw(k:q)(h:Bx q->p:=by
 intro zk;have DS:U2 m K g:=.inr (.inr (.inr (.inr (.inl (.inl (by rw[hov];rfl))))));have B4:U2 m K (K.ob i):=.inr (.inr (.inr (.inr (.inl (.inr ⟨i,(Z7.1 ho).1,rfl⟩)))));revert DS B4
 exact zk.o):p:=h ⟨k⟩
def ajs(k:q)(h:Bx q->p:=by
 intro zk;have hcall:=jW m cb cm c0 r (W.alloc (.cells #[.pointer r.fr,.string r.sel,.pointer r.hm,.pointer r.mt] 64)) hm (hw.same (λc hc=>ZV W _ _ (hw.Vb hc).lt)) hr hc0;revert hcall
 exact zk.o):p:=h ⟨k⟩
def Py(k:q)(h:Bx q->p:=by
 intro zk;refine JE 3 λG HR HG=>?_;revert G HR HG
 exact zk.o):p:=h ⟨k⟩
def ajH(k:q)(h:Bx q->p:=by
 intro zk;have SZ:=Wt.trans r_;have S0:=(r_.lab _ Se).trans R7;have ST:Vu wr ((w4.setCell (VJ w3.heap.size 0) (.bool v.obj)).setCell (VJ w3.heap.size 1) (VI v.n)) m K m' K':=SZ.told Pt S0 _ _;revert SZ S0 ST
 exact zk.o):p:=h ⟨k⟩
def jq(k:q)(h:Bx q->p:=by
 intro zk;have d3:=(Z9 (a:=(VJ w.heap.size 3)) hcm.2.1).trans x3;revert d3
 exact zk.o):p:=h ⟨k⟩
def ji(k:q)(h:Bx q->p:=by
 intro zk;have d4:=(Z9 (a:=(VJ w.heap.size 4)) hcm.2.1).trans x4;revert d4
 exact zk.o):p:=h ⟨k⟩
def ah8(k:q)(h:Bx q->p:=by
 intro zk;have SZ:=z_.trans r_;have S0:=(r_.lab _ Se).trans R7;have ST:Vu wr ((w4.setCell (VJ X2.heap.size 0) (.bool v.obj)).setCell (VJ X2.heap.size 1) (VI v.n)) m K m' K':=SZ.told Pt S0 _ _;revert SZ S0 ST
 exact zk.o):p:=h ⟨k⟩
def ahc(k:q)(h:Bx q->p:=by
 intro zk;have Ss:e.born=en.born:=akT
 have tQ:e=en:=by
  have h1:=find_born e es.toList Ww.2 he;have h2:=find_born en es.toList Ww.2 UB;rw[Ss]at h1;exact Y7 (h1.symm.trans h2)
 revert Ss tQ
 exact zk.o):p:=h ⟨k⟩
def aen(k:q)(h:Bx q->p:=by
 intro zk;go_simp;refine p_.mono ?_;rintro e w3 ⟨rfl,hf3,hc3⟩;have YY:=(Z9 (a:=(VJ rb 24)) qZ).trans ct;revert w3 hf3 hc3 YY
 exact zk.o):p:=h ⟨k⟩
def aoE(k:q)(h:Bx q->p:=by
 intro zk;refine ZT (S:=(λw'=>w'.cell? (VJ K.b 0)=some (.slice (some (VJ g 0)) K.cl.length Zs)/\w'.cell? (VJ g (c*4+2))=some (VI (ow:Nat)))) VE UG (λhHeld=>?_);revert hHeld
 exact zk.o):p:=h ⟨k⟩
def ai5(k:q)(h:Bx q->p:=by
 intro zk;obtain⟨es,ck,hmb,_⟩:=id hlm;obtain⟨Z1,W7⟩:=h.dO hmb hcs Ch;have hc1:=Vt.QY hg1;have Sp:=h.Ut hc1 (λe=>W7 e.symm) (λj hj e=>Z1 (by rw[<- e];exact hj)) (λj hj h1 e=>UA ((h.mt j hj).LV.Vb h1) hlm e);rename_i N';revert es ck hmb N' Z1 W7 hc1 Sp
 exact zk.o):p:=h ⟨k⟩
def yJ(k:q)(h:Bx q->p:=by
 intro zk;rw[<- hW];refine hc.mono ?_;rintro e w' hw;have HX:=UQ aoR;revert e w' hw HX
 exact zk.o):p:=h ⟨k⟩
def aiy(k:q)(h:Bx q->p:=by
 intro zk;refine Ze (i:=15) (oi:=_) (v:=_) rfl VE VE VE Nh Gu Ox ?_
 exact zk.o):p:=h ⟨k⟩
def ajd(k:q)(h:Bx q->p:=by
 intro zk
 try refine UE ?_
 have hvb:=(Od X2.heap.size VH).trans (Z4 X2 _).1;have Se:=(Z5.1 hvb).1;have R7:K2.lab X2.heap.size=.no:=amY;have Pt:wr.heap.size<=X2.heap.size:=aof;revert hvb Se R7 Pt
 exact zk.o):p:=h ⟨k⟩
def tC(k:q)(h:Bx q->p:=by
 intro zk;refine Uh 5 ?_;refine Ur 6 ?_
 exact zk.o):p:=h ⟨k⟩
def CV(k:q)(h:Bx q->p:=by
 intro zk;go_simp;refine p_.mono ?_
 exact zk.o):p:=h ⟨k⟩
def ajr(k:q)(h:Bx q->p:=by
 intro zk;change Calls _ _ #[VG K.b,VG fb,.agg #[.int .u8 (k:Nat),VI n,.string (VF sl),.string (VF xa),.string (VF xb),VI (xi:Nat)],VI D] _ _
 exact zk.o):p:=h ⟨k⟩
def ajU(k:q)(h:Bx q->p:=by
 intro zk
 have hft:∀k,U2 m1 K k->k<w.heap.size:=λk e=>h.lt (by
  unfold U2 at e ⊢;rw[hm1.1,hm1.2]at e
  exact e)
 have hgl:∀k,Gl k->k<w.heap.size:=λk hk=>h.J7.lt hk;revert hft hgl
 exact zk.o):p:=h ⟨k⟩
def ahz(k:q)(h:Bx q->p:=by
 intro zk;rw[<- hW3]
 have h3:Sg NoD w0 m0 K0 rb W3 m K fu ((fb,mk)::bs) ({f with pc:=f.pc+1}::fs):=by
  exact apH
 have So:w3.heap.size=W3.heap.size:=by rw[hW3];simp[World.setCell]
 revert h3 So
 exact zk.o):p:=h ⟨k⟩
def jw(k:q)(h:Bx q->p:=by
 intro zk;refine(aaE (s.extract 5 s.size) _ Vo).mono ?_
 exact zk.o):p:=h ⟨k⟩
def Ju(k:q)(h:Bx q->p:=by
 intro zk;have B:=h.box x pl hW1;have ct:=B.ct;revert B ct
 exact zk.o):p:=h ⟨k⟩
def ahH(k:q)(h:Bx q->p:=by
 intro zk;rintro e w3 ⟨rfl,hb3⟩;have H3:=UQ (H3.o.below hb3);have z0:=H3.o.z0;have z1:=H3.o.z1;have f1:∀o,w3.frozen? (VJ (w.heap.size+1) o)=false:=λo=>UL.free ⟨_,_,H3.o.b1⟩ o;have v0:=H3.o.v0;have v1:=H3.o.v1;revert w3 hb3 H3 z0 z1 f1 v0 v1
 exact zk.o):p:=h ⟨k⟩
def FC(k:q)(h:Bx q->p:=by
 intro zk;refine Ur 4 ?_;refine Ul 5 λY_ Z_=>?_;revert Y_ Z_
 exact zk.o):p:=h ⟨k⟩
def ab2(k:q)(h:Bx q->p:=by
 intro zk;unfold KJ;rw[ZX sV];unfold Nz;rw[ZX aph];unfold LH
 exact zk.o):p:=h ⟨k⟩
def ajA(k:q)(h:Bx q->p:=by
 intro zk;have lk:(Instr.lookup 56 (.map (some sb)) (.string sel) false).run prog W0.drew=.ok (.map none) W0.drew:=akt
 have rz:Hid (∀p,¬Reg l ps sel p):=by
  exact ame
 revert lk rz
 exact zk.o):p:=h ⟨k⟩
def ag0(k:q)(h:Bx q->p:=by
 intro zk;refine ZT (S:=(λw'=>w'.cell? (VJ fb 6)=some (VI (f.pc:Nat))/\w'.cell? (VJ fb 0)=some (.slice d.wp f.ws.length d.wc))) VE UG (λhHeld=>?_);revert hHeld
 exact zk.o):p:=h ⟨k⟩
def ahj(k:q)(h:Bx q->p:=by
 intro zk;refine ZT (S:=(λw'=>w'.cell? (VJ w.heap.size 0)=some ((VG (K.cb c)))/\w'.cell? (VJ w.heap.size 1)=some (.string s))) VE UG (λhHeld=>?_);revert hHeld
 exact zk.o):p:=h ⟨k⟩
def agO(k:q)(h:Bx q->p:=by
 intro zk;rw[<- hV2,<- t_];have hB2:Below V1.heap.size V1 V2:=air;have N_:V2.heap[z10]?=some (.cells #[.bool false,VI 0] 33):=amD;have Ta:W1.heap.size<=z10:=by rw[t_];exact hc1.size
 revert hB2 N_ Ta
 exact zk.o):p:=h ⟨k⟩
def aiZ(k:q)(h:Bx q->p:=by
 intro zk;rw[<- hV2,<- u_];have hB2:Below V1.heap.size V1 V2:=air;have K_:V2.heap[z11]?=some (.cells #[.bool false,VI 0] 33):=amE;have S7:W1.heap.size<=z11:=by rw[u_];exact hc1.size
 revert hB2 K_ S7
 exact zk.o):p:=h ⟨k⟩
def acS(k:q)(h:Bx q->p:=by
 intro zk;have c1:w1.cell? (VJ w.heap.size 3)=some (.string u):=by simp only[World.cell?,hb1];rfl
 revert c1
 exact zk.o):p:=h ⟨k⟩
def Ot(k:q)(h:Bx q->p:=by
 intro zk;refine JE 2 λG HR HG=>?_;revert G HR HG
 exact zk.o):p:=h ⟨k⟩
def ahP(k:q)(h:Bx q->p:=by
 intro zk;refine ZT (S:=(λw'=>w'.cell? (VJ b 5)=some (.map (some sb))/\w'.cell? (VJ (w.heap.size+1) 0)=some (.string sel))) VE UG (λhHeld=>?_);revert hHeld
 exact zk.o):p:=h ⟨k⟩
def yH(k:q)(h:Bx q->p:=by
 intro zk
 go_ret
 refine⟨Ce ?_,rfl⟩
 exact zk.o):p:=h ⟨k⟩
def aix(k:q)(h:Bx q->p:=by
 intro zk;obtain⟨c,hc⟩:=Yd hx;have hl:=(Z7.1 hc).1;rw[h.len]at hl
 obtain⟨k,hk⟩:∃k,m.kl[c]?=some k:=⟨_,Z8 hl⟩
 revert c hc hl k hk
 exact zk.o):p:=h ⟨k⟩
def ajo(k:q)(h:Bx q->p:=by
 intro zk;have hg:=hat.lt eP;have c0:=hr.head;have c3:=hat.c3 c y hy;rw[hmv]at c3;have f3:w.frozen? (VJ g (c*4+3))=false:=hr.own.frozenAt _;have hlt:=hr.lt;have hcl:(c:Int)<(cl.length:Int):=eP;have HM:Hid _:=R2;revert hg c0 c3 f3 hlt hcl HM
 exact zk.o):p:=h ⟨k⟩
def ahl(k:q)(h:Bx q->p:=by
 intro zk;have hx2:=hx1.told (z:=w.heap.size+1) IB jg (.bool false) (VI 0);have hx3:=hx2.trans (Vu.below hx2.rk (UF _ (.cells #[.bool false,VI (an:Nat)] 79)));revert hx2 hx3
 exact zk.o):p:=h ⟨k⟩
def ahv(k:q)(h:Bx q->p:=by
 intro zk;have MD:=UQ ((Vt.refl W0 _).drew.trans hb2);have htab:=p8.o w2 T_ hp2 (λp h=>hf1 p ((ii.o p).1 h)) (λp h=>hf2 p (λh'=>h ((ii.o p).2 h'))) MD.o;revert MD htab
 exact zk.o):p:=h ⟨k⟩
def ahS(k:q)(h:Bx q->p:=by
 intro zk;refine ZT (S:=(λw'=>w'.cell? (VJ b 5)=some (.map (some sb))/\w'.cell? (VJ w.heap.size 0)=some (.string sel))) VE UG (λhHeld=>?_);revert hHeld
 exact zk.o):p:=h ⟨k⟩
def ai3(k:q)(h:Bx q->p:=by
 intro zk;refine ZT (S:=(λw'=>w'.cell? (VJ rb 0)=some (VG K.b)/\w'.cell? (VJ w.heap.size 2)=some (.string (VF x.a)))) VE UG (λhHeld=>?_);revert hHeld
 exact zk.o):p:=h ⟨k⟩
def adh(k:q)(h:Bx q->p:=by
 intro zk;have c1:w1.cell? (VJ w.heap.size 4)=some (VI n):=by simp only[World.cell?,hb1];rfl
 revert c1
 exact zk.o):p:=h ⟨k⟩
def aiH(k:q)(h:Bx q->p:=by
 intro zk;have hk:k % 4=0\/k % 4=1\/k % 4=2\/k % 4=3:=VH;show (#[Value.pointer none,.string ⟨#[]⟩,.pointer none,.pointer none][k % 4]!).oneCell'=true;revert hk
 exact zk.o):p:=h ⟨k⟩
def abx(k:q)(h:Bx q->p:=by
 intro zk;have D_:((s[0].toNat:Int)==63)=false:=Vo;have D_:((s[0].toNat:Int)==97)=true:=Vo;rename_i N';revert N' D_
 exact zk.o):p:=h ⟨k⟩
def FK(k:q)(h:Bx q->p:=by
 intro zk;simp only[World.cell?,this]
 exact zk.o):p:=h ⟨k⟩
def ael(k:q)(h:Bx q->p:=by
 intro zk;have hp2:=Hr (f:=f) G_.rk G_.fr VH;have HA:Hid _:=G_;have HO:Hid _:=ho1;unfold Vl.val at hp2;revert hp2 HA HO
 exact zk.o):p:=h ⟨k⟩
def adO(k:q)(h:Bx q->p:=by
 intro zk;have D_:((s[0].toNat:Int)==94)=false:=Vo;have D_:((s[0].toNat:Int)==45)=true:=Vo;rename_i N';revert N' D_
 exact zk.o):p:=h ⟨k⟩
def Iq(k:q)(h:Bx q->p:=by
 intro zk;simp only[World.cell?,hb]
 exact zk.o):p:=h ⟨k⟩
def aaZ(k:q)(h:Bx q->p:=by
 intro zk;refine ZQ (Lc rfl _ _ _ rfl rfl z0 z1) rfl ?_
 exact zk.o):p:=h ⟨k⟩
def ajB(k:q)(h:Bx q->p:=by
 intro zk;refine ZT (S:=(λw'=>w'.cell? (VJ rb 24)=some (VG fb)/\w'.cell? (VJ w.heap.size 1)=some (VI (i:Nat)))) VE UG (λhHeld=>?_);revert hHeld
 exact zk.o):p:=h ⟨k⟩
def ahI(k:q)(h:Bx q->p:=by
 intro zk;refine ZT (S:=(λw'=>w'.cell? (VJ rb 24)=some (VG fb)/\w'.cell? (VJ w.heap.size 1)=some (VI (n:Nat)))) VE UG (λhHeld=>?_);revert hHeld
 exact zk.o):p:=h ⟨k⟩
def ah1(k:q)(h:Bx q->p:=by
 intro zk;have g1:∀n,((bl s).drop i)[n]?=(bl s)[i+n]?:=λn=>Zn;have g2:∀n,((bl s).drop i).drop n=(bl s).drop (i+n):=λn=>VQ;revert g1 g2
 exact zk.o):p:=h ⟨k⟩
def anF(k:q)(h:Bx q->p:=by
 intro zk;refine Ur 7 ?_;refine Ul 8 λY_ Z_=>?_;revert Y_ Z_
 exact zk.o):p:=h ⟨k⟩
def aaV(k:q)(h:Bx q->p:=by
 intro zk;have hnd:=h.nd;simp only[Zc,YS,ZM,not_or]at hnd;revert hnd
 exact zk.o):p:=h ⟨k⟩
def ajR(k:q)(h:Bx q->p:=by
 intro zk;have k_:(w1.alloc (.cells #[.bool v.obj,VI v.n] 33)).heap[w1.heap.size]?=some (.cells #[.bool v.obj,VI v.n] 33):=(Z4 w1 _).1;revert k_
 exact zk.o):p:=h ⟨k⟩
def aeO(k:q)(h:Bx q->p:=by
 intro zk;have Kf:y0.size<=120:=amC;have E0:Hid _:=e0;have Kf:y1.size<=120:=an3;have E1:Hid _:=e1;rename_i N';revert N' E0 Kf E1
 exact zk.o):p:=h ⟨k⟩
def aiX(k:q)(h:Bx q->p:=by
 intro zk;have ho:∀(W:World) (v:Value) (o p:Nat),o≠p->(W.setCell (VJ b p) v).cell? (VJ b o)=W.cell? (VJ b o):=λW v o p hne=>VD abA;revert ho
 exact zk.o):p:=h ⟨k⟩
def aji(k:q)(h:Bx q->p:=by
 intro zk;obtain⟨p,cap,hv,hf⟩:=h.obs.form;have c1:=h.hd.c1;rw[hv]at c1;have hn:=h.ok.objs;have hcall:=yB hn c1 o;rw[show (decide (0<=o)&&decide (o<(m.obs.length:Int)))=m.there o from rfl]at hcall;revert p cap hv hf c1 hn hcall
 exact zk.o):p:=h ⟨k⟩
def ao6(k:q)(h:Bx q->p:=by
 intro zk
 try refine UE ?_
 refine Ul 9 λY_ Z_=>?_;revert Y_ Z_
 exact zk.o):p:=h ⟨k⟩
def aiU(k:q)(h:Bx q->p:=by
 intro zk;have y3:=(Z9 (a:=(VJ w.heap.size 3)) hxb).trans y3;have y3:=(Z9 (a:=(VJ w.heap.size 5)) hxb).trans y5;rename_i N';revert N' y3
 exact zk.o):p:=h ⟨k⟩
def ajc(k:q)(h:Bx q->p:=by
 intro zk;have lk:=h.drew.look cn;have RB:=h.drew.look to;have c0:=h.hd.c0
 have HS:Hid (Step w w.drew m K m K):=by
  have hx1:Step w w.drew m K m K:=Step.below h uq;exact hx1
 revert lk RB c0 HS
 exact zk.o):p:=h ⟨k⟩
def aht(k:q)(h:Bx q->p:=by
 intro zk
 have h1:=h.rel.same (w':=W') (by rw[hsz];exact hC.size) (Q':=K'.Q) (λk e=>by
  have:=key _ _ e Vy Vy Vy
  exact⟨this.2,this.1⟩)
 revert h1
 exact zk.o):p:=h ⟨k⟩
def abh(k:q)(h:Bx q->p:=by
 intro zk;have Wf:=PK Vi.rk Vi.fr Ei ⟨false,0⟩;have HB:Hid _:=Vi;unfold Vl.val at Wf;revert Wf HB
 exact zk.o):p:=h ⟨k⟩
def agV(k:q)(h:Bx q->p:=by
 intro zk;have UB:=(mem_left hen).1
 obtain⟨q,hq,Fy⟩:∃q∈ps,en.key=TM q:=by
  exact apw
 obtain⟨s,UX⟩:=hL q hq;obtain⟨i1,i2,i3,i4⟩:=Gw (o':=.mapIter (some ib) clock (seen.push en.born) clock) hw1 hit;revert UB q hq Fy s UX i1 i2 i3 i4
 exact zk.o):p:=h ⟨k⟩
def ajb(k:q)(h:Bx q->p:=by
 intro zk;rw[h,Zp,h1];show Result.ok _ (w.alloc (.cells (madeCells #[.bool false,VI 0] (n*2)) _))=_
 exact zk.o):p:=h ⟨k⟩
def aef(k:q)(h:Bx q->p:=by
 intro zk;obtain⟨hn0,Te⟩:=ZZ.send NP;obtain⟨d_,hna⟩:=N2.send NP;simp only at hn0 Te d_ hna;revert hn0 Te d_ hna
 exact zk.o):p:=h ⟨k⟩
def abX(k:q)(h:Bx q->p:=by
 intro zk;obtain⟨hn0,Te⟩:=ZZ.send JQ;obtain⟨d_,hna⟩:=N2.send JQ;simp only at hn0 Te d_ hna;revert hn0 Te d_ hna
 exact zk.o):p:=h ⟨k⟩
def abz(k:q)(h:Bx q->p:=by
 intro zk;obtain⟨ib,e1,e2,_⟩:=hs0.inn t _ e;injection e1 with e1;injection e1 with e1;subst e1;rename_i N';revert e2 N'
 exact zk.o):p:=h ⟨k⟩
def ac8(k:q)(h:Bx q->p:=by
 intro zk
 try refine UE ?_
 have hc2:=hc1.then hcc Qi;have l2:=ZY l1 hcc.size;revert hc2 l2
 exact zk.o):p:=h ⟨k⟩
def aiY(k:q)(h:Bx q->p:=by
 intro zk;have hc1:=hc0.then aci Js;have LL:=vE.same (hB1.block fb vE.Vb.lt);have Lt:=(hB1.cell (p:=(VJ rb 24)) l0).trans ye;have l1:=ZY l0 hB1.size;revert hc1 LL Lt l1
 exact zk.o):p:=h ⟨k⟩
def ag4(k:q)(h:Bx q->p:=by
 intro zk;refine(TY b s (i+a.length) 47 _ hs hlt hG.o HT.o.rd).mono ?_;rintro e w2 ⟨rfl,X_⟩;have OS:Hid _:=HT.o.trans X_;clear X_;revert w2 OS
 exact zk.o):p:=h ⟨k⟩
end Go
namespace Go
variable {p q:Prop}
def Um(k:q)(h:Bx q->p:=by
 intro zk
 try refine UE ?_
 refine Nr ?_
 exact zk.o):p:=h ⟨k⟩
def Fe(k:q)(h:Bx q->p:=by
 intro zk;refine Ul 10 λY_ Z_=>?_;refine wY ?_;intro hHeld;clear Z_ Y_;revert hHeld
 exact zk.o):p:=h ⟨k⟩
def ahG(k:q)(h:Bx q->p:=by
 intro zk;refine La ?_;refine Ze (i:=12) (oi:=_) (v:=_) rfl VE VE VE Nh Gu Ox ?_;refine MC ?_;refine Ze (i:=13) (oi:=_) (v:=_) rfl VE VE VE Nh Gu Ox ?_;refine MC ?_;refine Ze (i:=14) (oi:=_) (v:=_) rfl VE VE VE Nh Gu Ox ?_;refine MC ?_;refine aiy ?_;refine MC ?_;refine aiI ?_;intro hHeld;revert hHeld
 exact zk.o):p:=h ⟨k⟩
def yF(k:q)(h:Bx q->p:=by
 intro zk;refine Ul 11 λY_ Z_=>?_;refine wY ?_;intro hHeld;clear Z_ Y_;revert hHeld
 exact zk.o):p:=h ⟨k⟩
def Bf(k:q)(h:Bx q->p:=by
 intro zk;refine Ul 6 λY_ Z_=>?_;refine wY ?_;intro hHeld;clear Z_ Y_
 try refine UE ?_
 revert hHeld
 exact zk.o):p:=h ⟨k⟩
def jr(k:q)(h:Bx q->p:=by
 intro zk;refine Ju ?_;intro B ct;have l1:=B.l1;refine aW ?_;intro Wd lw Q_;have h_:=Q_.s16;rw[hst]at Q_ h_;simp only[ZI]at h_;have hcall:=dB Q_;clear Q_;revert B ct l1 Wd lw h_ hcall
 exact zk.o):p:=h ⟨k⟩
def abk(k:q)(h:Bx q->p:=by
 intro zk;refine ao6 ?_;intro Y_ Z_;refine wY ?_;intro hHeld;clear Z_ Y_;revert hHeld
 exact zk.o):p:=h ⟨k⟩
def BJ(k:q)(h:Bx q->p:=by
 intro zk;refine Ul 8 λY_ Z_=>?_;refine wY ?_;intro hHeld;clear Z_ Y_;revert hHeld
 exact zk.o):p:=h ⟨k⟩
def aha(k:q)(h:Bx q->p:=by
 intro zk;refine aiI ?_;intro hHeld;revert hHeld
 exact zk.o):p:=h ⟨k⟩
def jf(k:q)(h:Bx q->p:=by
 intro zk;refine Ul 12 λY_ Z_=>?_;refine wY ?_;intro hHeld;clear Z_ Y_
 try refine UE ?_
 revert hHeld
 exact zk.o):p:=h ⟨k⟩
def ado(k:q)(h:Bx q->p:=by
 intro zk;refine pJ ?_;refine FC ?_;intro Y_ Z_;refine wY ?_;intro hHeld;clear Z_ Y_
 try refine UE ?_
 revert hHeld
 exact zk.o):p:=h ⟨k⟩
def aoc(k:q)(h:Bx q->p:=by
 intro zk;refine wY ?_;intro hHeld;revert hHeld
 exact zk.o):p:=h ⟨k⟩
def rW(k:q)(h:Bx q->p:=by
 intro zk;have B:=h.box x pl hW1;refine aW ?_;intro Wd lw Q_;rw[hst]at Q_;revert B Wd lw Q_
 exact zk.o):p:=h ⟨k⟩
def zC(k:q)(h:Bx q->p:=by
 intro zk;refine zr1 ?_;refine abM ?_
 exact zk.o):p:=h ⟨k⟩
def yI(k:q)(h:Bx q->p:=by
 intro zk;have L_:=h.lt;have hzb:w.heap.size≠b:=VH;refine zr8 ?_;intro c1 W_;have P1:=UQ g_;revert L_ hzb c1 W_ P1
 exact zk.o):p:=h ⟨k⟩
def KG(k:q)(h:Bx q->p:=by
 intro zk;refine zr1 ?_;refine aku ?_
 exact zk.o):p:=h ⟨k⟩
def Og(k:q)(h:Bx q->p:=by
 intro zk;refine apl ?_;refine PG ?_;intro w1 W_;revert w1 W_
 exact zk.o):p:=h ⟨k⟩
def zV(k:q)(h:Bx q->p:=by
 intro zk
 try refine UE ?_
 have hc4:=hc3.then hcc Qi;refine akY ?_;intro N_ K_;revert hc4 N_ K_
 exact zk.o):p:=h ⟨k⟩
def agW(k:q)(h:Bx q->p:=by
 intro zk;have hmb:=Oi (bl s) 4 VH;have f_:=Oi (bl (s.extract 1 s.size)) 4 VH;have Y':=Oi (bl (s.extract 1 s.size)) 2 VH;have a_:=Oi (bl (s.extract 1 s.size)) 1 VH;rw[hm]at hmb;rw[hm4]at f_;rw[hm2]at Y';rw[hm1]at a_;obtain⟨PJ,hmc⟩:=hmb;revert f_ Y' a_ PJ hmc
 exact zk.o):p:=h ⟨k⟩
def iZ(k:q)(h:Bx q->p:=by
 intro zk;refine Uh 0 ?_;refine Uh 1 ?_;refine Uh 2 ?_;refine Uh 3 ?_
 exact zk.o):p:=h ⟨k⟩
def L8(k:q)(h:Bx q->p:=by
 intro zk;refine apJ ?_;refine PG ?_;intro w1 W_;revert w1 W_
 exact zk.o):p:=h ⟨k⟩
def CP(k:q)(h:Bx q->p:=by
 intro zk;refine qm ?_;rintro e w1 ⟨⟨x,rfl,hxy⟩,hb1⟩;refine al6 ?_;intro M_ P_ A_ u0 u1 u2 u3 u4 u5 uf;revert w1 hb1 x hxy M_ P_ A_ u0 u1 u2 u3 u4 u5 uf
 exact zk.o):p:=h ⟨k⟩
def DR(k:q)(h:Bx q->p:=by
 intro zk;refine qm ?_;rintro e w2 ⟨⟨x,rfl,hxy⟩,hb1⟩;refine al6 ?_;intro M_ P_ A_ u0 u1 u2 u3 u4 u5 uf;revert w2 hb1 x hxy M_ P_ A_ u0 u1 u2 u3 u4 u5 uf
 exact zk.o):p:=h ⟨k⟩
def gI(k:q)(h:Bx q->p:=by
 intro zk;have K_:=(hcc.block z11 (Z5.1 K_).1 VH).trans K_;revert K_
 exact zk.o):p:=h ⟨k⟩
def ah3(k:q)(h:Bx q->p:=by
 intro zk;have hblk:w1.heap[w.heap.size]?=some (.cells #[.int .u8 0,VI 0,.string ⟨#[]⟩,.string ⟨#[]⟩,.string ⟨#[]⟩,VI 0] 188):=(hb.block _ Vy).trans (Z4 w _).1;revert hblk
 exact zk.o):p:=h ⟨k⟩
def Lj(k:q)(h:Bx q->p:=by
 intro zk;refine apX ?_;refine PG ?_;intro w1 W_;revert w1 W_
 exact zk.o):p:=h ⟨k⟩
def IC(k:q)(h:Bx q->p:=by
 intro zk;refine zr4 ?_;refine Ur 5 ?_
 exact zk.o):p:=h ⟨k⟩
def abg(k:q)(h:Bx q->p:=by
 intro zk;refine wC ?_;intro _ _ D_;refine akI ?_;intro _ D_;have D_:((s[0].toNat:Int)==115)=true:=Vo;rename_i N' P4 Mj EV E9;revert N' P4 Mj EV E9 D_
 exact zk.o):p:=h ⟨k⟩
def Jq(k:q)(h:Bx q->p:=by
 intro zk;refine apD ?_;refine PG ?_;intro w1 W_;revert w1 W_
 exact zk.o):p:=h ⟨k⟩
def ajJ(k:q)(h:Bx q->p:=by
 intro zk;refine ZT (S:=(λ_=>True)) VE UG (λhHeld=>?_);refine Ep ?_;refine aa7 ?_;refine Ur 7 ?_;refine Zv (rs:=[2,8]) VE Vy ?_;revert hHeld
 exact zk.o):p:=h ⟨k⟩
def abt(k:q)(h:Bx q->p:=by
 intro zk;have b0:=(Vp QR).1;have b1:=(Vp QR).2;have hvl:=(Z5.1 QR).1;revert b0 b1 hvl
 exact zk.o):p:=h ⟨k⟩
def aei(k:q)(h:Bx q->p:=by
 intro zk;have D_:((s[0].toNat:Int)==63)=false:=Vo;have D_:((s[0].toNat:Int)==97)=false:=Vo;rename_i N';revert N' D_
 exact zk.o):p:=h ⟨k⟩
def CB(k:q)(h:Bx q->p:=by
 intro zk;refine hsl.mono ?_;refine Sl ?_
 exact zk.o):p:=h ⟨k⟩
def Il(k:q)(h:Bx q->p:=by
 intro zk;refine zr1 ?_;refine anF ?_;intro Y_ Z_;revert Y_ Z_
 exact zk.o):p:=h ⟨k⟩
def Hq(k:q)(h:Bx q->p:=by
 intro zk;refine apS ?_;refine PG ?_;intro w1 W_;revert w1 W_
 exact zk.o):p:=h ⟨k⟩
def ajL(k:q)(h:Bx q->p:=by
 intro zk
 try refine UE ?_
 have LO:=(hst.Ut.block _ Vy jl).trans (Z4 _ _).1;refine amK ?_;intro u0 u1 uf;have Z1:¬W1.heap.size=w.heap.size:=VH;have Te:¬W1.heap.size=rb:=VH;revert LO u0 u1 uf Z1 Te
 exact zk.o):p:=h ⟨k⟩
def ai8(k:q)(h:Bx q->p:=by
 intro zk;refine Uy ?_;refine aoE ?_;intro hHeld;refine Ep ?_;refine afr ?_;refine dX ?_;refine Uh 12 ?_;refine Ur 13 ?_;refine Ul 2 λY_ Z_=>?_;go_simp;refine hsa.mono ?_;revert hHeld Y_ Z_
 exact zk.o):p:=h ⟨k⟩
def aje(k:q)(h:Bx q->p:=by
 intro zk;have B:=h.box x pl hW1;refine aW ?_;intro Wd lw Q_;have h_:=Q_.s16;rw[hst]at Q_ h_;simp only[ZI]at h_;have hcall:=take_any Q_;unfold Vl.val at hcall;have x2:=B.x2;have l3:=B.l3;have HB:Hid _:=B;revert B Wd lw Q_ h_ hcall x2 l3 HB
 exact zk.o):p:=h ⟨k⟩
def zA(k:q)(h:Bx q->p:=by
 intro zk;refine hcall.mono ?_;refine Sl ?_
 exact zk.o):p:=h ⟨k⟩
def ahu(k:q)(h:Bx q->p:=by
 intro zk
 try refine UE ?_
 refine Ur 14 ?_;refine Uh 15 ?_;refine CG ?_;refine Ul 18 λY_ Z_=>?_;go_simp;refine(OB y1 _ _ SE B1.o).mono ?_;revert Y_ Z_
 exact zk.o):p:=h ⟨k⟩
def ajj(k:q)(h:Bx q->p:=by
 intro zk;refine ahg ?_;intro hBa hBb;have HH:Hid _:=h;have H1:Hid _:=h1
 have Nd:Hid (UH w av args ab/\(args≠[]->ab<w.heap.size/\ab≠rb/\¬U2 m K ab)):=⟨W8,hab⟩
 revert hBa hBb HH H1 Nd
 exact zk.o):p:=h ⟨k⟩
def ahK(k:q)(h:Bx q->p:=by
 intro zk;refine afA ?_;intro hl2 hpb hpl;have pk:w1.cell? (VJ w.heap.size 0)=some (.int .u8 60):=by simp only[World.cell?,hpb];rfl
 have Vi:=Z6.new (.cells #[.bool false,VI an] 79);revert hl2 hpb hpl pk Vi
 exact zk.o):p:=h ⟨k⟩
end Go
namespace Go
variable {p q:Prop}
def alV(k:q)(h:Bx q->p:=by
 intro zk;refine aoc ?_;intro hHeld;revert hHeld
 exact zk.o):p:=h ⟨k⟩
def fA(k:q)(h:Bx q->p:=by
 intro zk;refine Uy ?_;refine amX ?_;intro hHeld;refine zC ?_;refine aaP ?_;intro Y_ Z_;refine ahn ?_;revert hHeld Y_ Z_
 exact zk.o):p:=h ⟨k⟩
def aeJ(k:q)(h:Bx q->p:=by
 intro zk;refine Uy ?_;refine ana ?_;intro hHeld;refine KG ?_;refine uZ ?_;refine Ul 13 λY_ Z_=>?_;go_simp;refine ahn ?_;revert hHeld Y_ Z_
 exact zk.o):p:=h ⟨k⟩
def FU(k:q)(h:Bx q->p:=by
 intro zk;refine zC ?_;refine Ur 9 ?_
 exact zk.o):p:=h ⟨k⟩
def fF(k:q)(h:Bx q->p:=by
 intro zk;refine rW ?_;intro B Wd lw Q_;have hcall:=bP Q_ ho;clear Q_;have HB:Hid _:=B;revert B Wd lw hcall HB
 exact zk.o):p:=h ⟨k⟩
def ahQ(k:q)(h:Bx q->p:=by
 intro zk
 try refine UE ?_
 refine abM ?_;refine Ur 9 ?_;refine Fe ?_;intro hHeld
 try refine UE ?_
 refine yF ?_;intro hHeld;refine BD ?_;refine Nr ?_;rename_i N';revert N' hHeld
 exact zk.o):p:=h ⟨k⟩
def adG(k:q)(h:Bx q->p:=by
 intro zk;refine Uy ?_;refine apU ?_;intro hHeld;refine KG ?_;refine uZ ?_;refine Nr ?_;revert hHeld
 exact zk.o):p:=h ⟨k⟩
def abG(k:q)(h:Bx q->p:=by
 intro zk;have hlt:=(Z5.1 N_).1;refine yF ?_;intro hHeld
 try refine UE ?_
 revert hlt hHeld
 exact zk.o):p:=h ⟨k⟩
def abr(k:q)(h:Bx q->p:=by
 intro zk;have hlt:=(Z5.1 K_).1;refine Fe ?_;intro hHeld
 try refine UE ?_
 revert hlt hHeld
 exact zk.o):p:=h ⟨k⟩
def aiI(k:q)(h:Bx q->p:=by
 intro zk;refine Ur 16 ?_;refine Ul 17 λY_ Z_=>?_;refine wY ?_;intro hHeld;clear Z_ Y_
 try refine UE ?_
 refine Ur 18 ?_;refine Nr ?_;revert hHeld
 exact zk.o):p:=h ⟨k⟩
def ah4(k:q)(h:Bx q->p:=by
 intro zk
 try refine UE ?_
 refine BJ ?_;intro hHeld;refine abk ?_;intro hHeld;refine Um ?_;have ST:=(z_.trans r_).trans (Vu.below r_.rk aeh);rename_i N';revert N' hHeld ST
 exact zk.o):p:=h ⟨k⟩
def tZ(k:q)(h:Bx q->p:=by
 intro zk;refine abk ?_;intro hHeld;refine Um ?_;revert hHeld
 exact zk.o):p:=h ⟨k⟩
end Go
namespace Go
variable {p q:Prop}
def an2(k:q)(h:Bx q->p:=by
 intro zk;refine alV ?_;intro hHeld;revert hHeld
 exact zk.o):p:=h ⟨k⟩
end Go
namespace Go
variable {p q:Prop}
def Vg(k:q)(h:Bx q->p:=by
 intro zk;refine an2 ?_;intro hHeld;revert hHeld
 exact zk.o):p:=h ⟨k⟩
end Go
