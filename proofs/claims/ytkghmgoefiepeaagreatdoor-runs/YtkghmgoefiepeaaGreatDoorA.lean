import Derived.Deep.LoopGhost
import Derived.StillTailTactics
import Derived.Deep.Cut
import Derived.Deep.RegionHeld3
import Derived.WalkKit
import Derived.ProofKit
import Derived.ChangeMaps5
import Derived.Below
import Derived.Carry
import Derived.OwnWalk
import Derived.ScopeJumps
import Derived.WalkMore
import Derived.LaidEql
import Derived.ChangeKeysEq
import Derived.Maps.RangeRun
import Derived.Laws.BitsLemmas
set_option linter.unusedSimpArgs false
set_option linter.unusedVariables false
set_option maxHeartbeats 4000000
set_option maxRecDepth 100000
theorem Go.UQ {a:Prop}(h:a):Go.RowKit.Hid a:=h
abbrev Go.VJ (b o:Nat):Go.Addr:=⟨b,o,none⟩
abbrev Go.VG (b:Nat):Go.Value:=.pointer (some ⟨b,0,none⟩)
abbrev Go.VI (n:Int):Go.Value:=.int .i64 n
theorem Go.RowKit.Hid.o {p:Prop}(h:Go.RowKit.Hid p):p:=h
theorem Go.Shut.o {p:Prop}(h:Go.Shut p):p:=h.out
namespace Go
abbrev Z9:=@Go.World.cell?_of_block
abbrev Z8:=@List.getElem?_eq_getElem
abbrev Z7:=@List.getElem?_eq_some_iff
abbrev Z5:=@Array.getElem?_eq_some_iff
abbrev Z4:=@Go.MapKept.heap_alloc
abbrev ZY:=@Nat.lt_of_lt_of_le
abbrev ZX:=@if_neg
abbrev ZW:=@Go.RowKit.Below.heap_setCell
abbrev ZV:=@Go.RowKit.Below.heap_alloc
abbrev ZU:=@if_pos
abbrev ZT:=@Go.wp_region_held_drew
abbrev ZR:=@Go.RowKit.Below.refl
abbrev ZQ:=@Go.bodyPost_ret
abbrev ZP:=@List.getElem?_append_right
abbrev ZO:=@Go.AllReadyH.cons
abbrev ZN:=@Nat.le_refl
abbrev ZM:=@List.mem_cons
abbrev ZL:=@Go.ByteArray.toList_eq
abbrev ZK:=@List.mem_of_getElem?
abbrev ZJ:=@Go.World.size_alloc
abbrev ZI:=@List.length_cons
abbrev ZH:=@List.getElem?_append_left
abbrev ZG:=@Option.map_some
abbrev ZF:=@beq_eq_false_iff_ne
abbrev ZE:=@Go.World.block_lt_of_cell?
abbrev ZC:=@Nat.le_trans
abbrev ZB:=@Bool.and_eq_true
abbrev ZA:=@Go.AllReadyH.nil
abbrev Zz:=@Array.getElem?_modify
abbrev Zy:=@List.mem_map
abbrev Zx:=@List.not_mem_nil
abbrev Zw:=@List.length_append
abbrev Zv:=@Go.wpAnyH_ready
abbrev Zu:=@Go.run_underlying
abbrev Zt:=@Classical.byContradiction
abbrev Zr:=@Go.World.frozen?_of_block
abbrev Zq:=@decide_eq_true_eq
abbrev Zp:=@Int.toNat_natCast
abbrev Zo:=@List.mem_cons_of_mem
abbrev Zn:=@List.getElem?_drop
abbrev Zm:=@Option.map_none
abbrev Zl:=@List.getElem?_take_of_lt
abbrev Zk:=@List.drop_eq_nil_of_le
abbrev Zj:=@UInt8.toNat_inj
abbrev Zi:=@List.isPrefixOf_iff_prefix
abbrev Zh:=@List.length_drop
abbrev Zg:=@if_false
abbrev Zf:=@Array.getElem?_toList
abbrev Ze:=@Go.wpAnyH_take
abbrev Zd:=@Go.ChangeMaps.heap_setBlock_other
abbrev Zc:=@List.map_cons
abbrev Zb:=@Go.ChangeMaps.heap_setBlock_same
abbrev Za:=@List.length_take
abbrev Y9:=@List.all_eq_true
abbrev Y8:=@List.getElem?_eq_none
abbrev Y7:=@Option.some.inj
abbrev Y6:=@if_true
abbrev Y5:=@Go.MapKept.run_getObj_map
abbrev Y4:=@List.getElem?_modify
abbrev Y3:=@Bool.eq_false_iff
abbrev Y2:=@Option.some.injEq
abbrev Y1:=@List.append_assoc
abbrev Y0:=@Nat.sub_self
abbrev YZ:=@List.findIdx?_eq_some_iff_getElem
abbrev YX:=@Option.getD_some
abbrev YW:=@Go.World.ownsRow_nil
abbrev YV:=@congrArg
abbrev YU:=@Nat.zero_add
abbrev YT:=@List.mem_append
abbrev YS:=@List.nodup_cons
abbrev YR:=@List.cons_append
abbrev YQ:=@Go.info_parts
abbrev YP:=@Int.eq_ofNat_of_zero_le
abbrev YO:=@List.getElem?_map
abbrev YN:=@Go.MapKept.run_setObj_map
abbrev YM:=@List.drop_append
abbrev YL:=@Prod.mk.injEq
abbrev YK:=@Go.World.frozen?_setCell
abbrev YJ:=@List.length_nil
abbrev YI:=@List.findIdx?_eq_none_iff
abbrev YH:=@beq_iff_eq
abbrev YG:=@List.mem_iff_getElem?
abbrev YF:=@List.getElem?_toArray
abbrev YE:=@or_false
abbrev YD:=@List.mem_range
abbrev YC:=@List.cons.injEq
abbrev YB:=@decide_eq_true_iff
abbrev YA:=@Option.bind_some
abbrev Yz:=@Array.size_modify
abbrev Yy:=@Nat.zero_le
abbrev Yx:=@List.drop_eq_getElem_cons
abbrev Yw:=@List.take_append_drop
abbrev Yv:=@List.take_length
abbrev Yu:=@Nat.zero_mul
abbrev Yt:=@Nat.add_zero
abbrev Yr:=@Go.MapKept.run_checkKey
abbrev Yq:=@List.eq_nil_of_length_eq_zero
abbrev Yp:=@List.drop_append_of_le_length
abbrev Yo:=@Go.World.cell?_setCell_far
abbrev Yn:=@Array.getElem?_setIfInBounds
abbrev Ym:=@Go.MapKept.run_findKey
abbrev Yl:=@Option.map_eq_some_iff
abbrev Yk:=@Nat.testBit_succ
abbrev Yj:=@List.getElem?_take_eq_none
abbrev Yi:=@List.filter_append
abbrev Yh:=@Array.getElem?_append_left
abbrev Yg:=@List.nil_append
abbrev Yf:=@Bool.eq_iff_iff
abbrev Ye:=@List.mem_of_mem_drop
abbrev Yd:=@List.getElem?_of_mem
abbrev Yc:=@List.take_add_one
abbrev Yb:=@Nat.pow_le_pow_right
abbrev Ya:=@List.mem_append_left
abbrev X9:=@List.length_reverse
abbrev X8:=@List.drop_succ_cons
abbrev X7:=@Go.ChangeMaps.map_eraseIdx
abbrev X6:=@List.countP_cons_of_pos
abbrev X5:=@List.drop_zero
abbrev X0:=@Option.bind_eq_some_iff
abbrev XZ:=@List.mem_cons_self
abbrev XY:=@List.set_cons_succ
abbrev XW:=@Bool.false_eq_true
abbrev XV:=@Option.isSome_none
abbrev XU:=@List.take_of_length_le
abbrev XT:=@Nat.min_eq_left
abbrev XR:=@List.append_nil
abbrev XQ:=@decide_eq_false
abbrev XP:=@List.head?_cons
abbrev XO:=@List.takeWhile_append_of_pos
abbrev XM:=@List.mem_filter
abbrev XL:=@Nat.testBit_and
abbrev XK:=@Int.natCast_add
abbrev XJ:=@Go.WideShapes.add_plain
abbrev XI:=@List.length_filter_le
abbrev XH:=@List.ext_getElem?
abbrev XG:=@Array.getElem?_append_right
abbrev XF:=@Go.DataW.trod_struct
abbrev XE:=@List.setIfInBounds_toArray
abbrev XD:=@List.takeWhile_cons_of_neg
abbrev XC:=@Nat.pow_lt_pow_right
abbrev XB:=@Go.IntKind.wrap_u32
abbrev XA:=@Nat.lt_succ_self
abbrev Xz:=@List.filter_cons
abbrev Xy:=@Nat.testBit_zero
abbrev Xx:=@Array.getElem?_eq_getElem
abbrev Xw:=@List.mem_of_find?_eq_some
abbrev Xv:=@Go.World.grownBy_alloc
abbrev Xu:=@Nat.testBit_two_pow
abbrev Xt:=@Array.length_toList
abbrev Xr:=@List.find?_some
abbrev Xq:=@List.take_left'
abbrev Xp:=@List.find?_eq_none
abbrev Xo:=@List.countP_cons_of_neg
abbrev Xn:=@List.getElem?_cons_succ
abbrev Xm:=@Go.wpList_step
abbrev Xl:=@List.getElem_cons_zero
abbrev Xk:=@List.getElem_cons_succ
abbrev Xj:=@List.map_nil
abbrev Xi:=@List.nodup_append
abbrev Xh:=@decide_eq_true
abbrev Xg:=@Nat.lt_trichotomy
abbrev Xf:=@List.reverse_cons
abbrev Xe:=@List.size_toArray
abbrev Xd:=@Go.DataW.trod_string
abbrev Xc:=@Go.DataW.trod_int
abbrev Xb:=@List.eraseIdx_sublist
abbrev W9:=@Or.inl
abbrev WZ:=@Array.eq_empty_of_size_eq_zero
abbrev WY:=@Bool.false_or
abbrev WX:=@List.any_cons
abbrev WW:=@List.getElem_toArray
abbrev WV:=@Nat.eq_of_testBit_eq
abbrev WU:=@Bool.or_eq_true
abbrev WT:=@List.foldl_cons
abbrev WS:=@Int.natCast_one
abbrev WR:=@List.filter_eq_self
abbrev WQ:=@List.getElem_of_mem
abbrev WO:=@Go.World.ownsRow.alloc
abbrev WM:=@List.set_cons_zero
abbrev WL:=@Go.step_scope
abbrev WJ:=@List.mem_singleton
abbrev WI:=@List.eraseIdx_of_length_le
abbrev WH:=@List.drop_take
abbrev WG:=@Option.isSome_some
abbrev WE:=@Nat.mod_two_eq_zero_or_one
abbrev WC:=@List.findIdx?_cons
abbrev WB:=@List.mem_or_eq_of_mem_set
abbrev WA:=@List.getElem?_eq_none_iff
abbrev Wy:=@List.foldl_append
abbrev Wx:=@Go.wpList_append_own
abbrev Wv:=@Go.run_storeCells_at
abbrev Wu:=@List.getElem?_set
abbrev Ws:=@Go.World.cells?_some
abbrev Wq:=@Go.run_range_map
abbrev Wp:=@Bool.true_and
abbrev Wn:=@Nat.add_assoc
abbrev Wj:=@Go.IntKind.wrap_i64
abbrev Wh:=@Array.toList_inj
abbrev V9:=@List.getElem_mem
abbrev V8:=@List.any_eq_true
abbrev V7:=@Option.getD_none
abbrev V6:=@decide_eq_false_iff_not
abbrev VZ:=@List.length_eq_zero_iff
abbrev VY:=@Int.not_le
abbrev VX:=@Go.run_entry_at
abbrev VW:=@Nat.lt_trans
abbrev VU:=@List.map_append
abbrev VT:=@Go.World.var?_cell
abbrev VR:=@Nat.le_succ
abbrev VQ:=@List.drop_drop
abbrev VP:=@Go.setRow_heap
abbrev VO:=@Go.run_next_at
abbrev VN:=@Go.run_make
abbrev VL:=@Ne.symm
abbrev VK:=@and_true
variable {p q:Prop}
theorem sH(h:p:=by simp at e):p:=h
theorem Ei(h:p:=by simp only;omega):p:=h
theorem VH(h:p:=by omega):p:=h
theorem pI(h:p:=by rw[e]):p:=h
theorem zb4(h:p:=by simp[World.setCell]):p:=h
theorem Vy(h:p:=by simp):p:=h
theorem zb6(h:p:=by rw[hs];simp):p:=h
theorem zb7(h:p:=by simp[U9]):p:=h
theorem uI(h:p:=by simp[TS]):p:=h
theorem PO(h:p:=by intro e;injection e with e1 e2;omega):p:=h
theorem Ez(h:p:=by rw[MK];decide):p:=h
theorem Vz(h:p:=by decide):p:=h
theorem akp(h:p:=by simp at hc;rw[<- hc];decide):p:=h
theorem bF(h:p:=by first|rfl|simp):p:=h
theorem jS(h:p:=by rw[HR.o];rfl):p:=h
theorem VE(h:p:=by kernel_rfl):p:=h
theorem lK(h:p:=by simp[go_sem]):p:=h
theorem EJ(h:p:=by show w.heap.size<W1.heap.size;omega):p:=h
theorem afu(h:p:=by have:=Wg.o _ e;omega):p:=h
theorem sK(h:p:=by first|rfl|trivial):p:=h
theorem Uu(h:p:=by go_num):p:=h
theorem wB(h:p:=by have:=(Nd.o.2 e).2;omega):p:=h
theorem ale(h:p:=by first|omega|(simp;omega)|assumption):p:=h
theorem anQ(h:p:=by simp[Instr.findNow,hk,Instr.sameNow,hs,h2];omega):p:=h
theorem aky(h:p:=by have:=hb.size;simp only[ZJ];omega):p:=h
theorem qP(h:p:=by unfold Addr.add;split<;>simp_all):p:=h
theorem adk(h:p:=by cases n<;>rfl):p:=h
theorem amb(h:p:=by obtain⟨es,c,h1,h2⟩:=h;exact⟨es,c,e.trans h1,h2⟩):p:=h
theorem JO(h:p:=by simp[ChangeMaps.setBlock]):p:=h
theorem ak2(h:p:=by simpa using YV List.length hl):p:=h
theorem Nv(h:p:=by simpa using h):p:=h
theorem G8(h:p:=by rw[VB];omega):p:=h
theorem aed(h:p:=by rw[Za];omega):p:=h
theorem Vo(h:p:=by simp;omega):p:=h
theorem SE(h:p:=by unfold maxLen;omega):p:=h
theorem aps(h:p:=by rw[hW3,aj2 T'];exact M_):p:=h
theorem apy(h:p:=by rw[hW3];exact SQ A_ zt2 _ _ _ _ _ _):p:=h
theorem JU(h:p:=by simp[results,results141,go_sem,q0,q1,q2,q3,q4,q5]):p:=h
theorem an6(h:p:=by rw[hg];exact Zj.1 (by rw[C'];rfl)):p:=h
theorem Hz(h:p:=by rw[VB];exact hlt):p:=h
theorem Sv(h:p:=by rw[e];rfl):p:=h
theorem Ey(h:p:=by simp only[ZJ];omega):p:=h
theorem afC(h:p:=by have:=h.size;simpa[World.setCell]using this):p:=h
theorem xM(h:p:=by simp[World.setCell];omega):p:=h
theorem xY(h:p:=by intro e';injection e' with e1 e2;omega):p:=h
theorem EO(h:p:=by cases e):p:=h
theorem vF(h:p:=by simp at h):p:=h
theorem an1(h:p:=by unfold Ph;rw[Fi.o.1,Fi.o.2.1];exact hok):p:=h
theorem vH(h:p:=by simp[Value.oneCell']):p:=h
theorem ql(h:p:=by unfold EG;rw[hx];rfl):p:=h
theorem ako(h:p:=by simpa[World.setCell]using h.lt):p:=h
theorem anV(h:p:=by have:=hg2.size;simp only[ZJ]at this;omega):p:=h
theorem UG(h:p:=by go_keep):p:=h
theorem Ar(h:p:=by rw[Wj];omega):p:=h
theorem Ox(h:p:=by assumption):p:=h
theorem abA(h:p:=by intro e;injection e with e1 e1;omega):p:=h
theorem aaD(h:p:=by rw[hlen];omega):p:=h
theorem MO(h:p:=by cases h):p:=h
theorem kR(h:p:=by rw[hs];simp[hy]):p:=h
theorem mO(h:p:=by simp[U9,hs]):p:=h
theorem apr(h:p:=by simp only[e,Zg];exact h4.same (hg.block _ h4.lt (λe'=>by injection e' with e';exact e e'))):p:=h
theorem aol(h:p:=by injection e with e;exact UA hc h.map e):p:=h
theorem aoU(h:p:=by simp only[World.setCell,Yz];exact hj.lt):p:=h
theorem anK(h:p:=by simp only[World.setCell,Yz];exact hml):p:=h
theorem aoA(h:p:=by rw[RN W0.drew sb l HN.o.1.drew.map,hl];rfl):p:=h
theorem adi(h:p:=by rw[<- hp];simp):p:=h
theorem amu(h:p:=by rw[<- hk];simp):p:=h
theorem afc(h:p:=by show w.heap.size<=w.heap.size+1+1;omega):p:=h
theorem agL(h:p:=by simp[World.setRow]):p:=h
theorem oV(h:p:=by simp[Mm.rows]):p:=h
theorem alW(h:p:=by unfold World.iterSeen;rw[hit]):p:=h
theorem akT(h:p:=by simpa using hc):p:=h
theorem GL(h:p:=by simp[List.isPrefixOf]):p:=h
theorem afp(h:p:=by rw[e]at h1;simp at h1):p:=h
theorem akU(h:p:=by rw[YM,Zk (by omega),show nm.length+1-nm.length=1 from by omega];rfl):p:=h
theorem afd(h:p:=by simp;rintro rfl;revert hc;decide):p:=h
theorem al7(h:p:=by simp at hy;rw[<- hy,Y3];intro hs;simp[isSmall]at hs;omega):p:=h
theorem akE(h:p:=by rw[<- h.2];simp;omega):p:=h
theorem agw(h:p:=by have:=hr1 x;omega):p:=h
theorem aml(h:p:=by rcases e with e|e;omega;have:=HN.o.2.2 _ e;omega):p:=h
theorem akt(h:p:=by rw[RN W0.drew sb l L0.o.1.drew.map,hl];rfl):p:=h
theorem apO(h:p:=by rw[hl]at e;have:=PL e;subst this;exact h):p:=h
theorem ak8(h:p:=by rw[<- e];exact .inr x9):p:=h
theorem agG(h:p:=by rw[h.len];exact hc):p:=h
theorem eP(h:p:=by rw[h.len];omega):p:=h
theorem agI(h:p:=by rw[<- HN.o];exact hjn):p:=h
theorem aeV(h:p:=by rw[<- HN.o];omega):p:=h
theorem alx(h:p:=by have:=ho.1 e;cases this):p:=h
theorem akN(h:p:=by rw[h2,Option.map_map];rfl):p:=h
theorem adY(h:p:=by rw[<- ho.len];exact hc):p:=h
theorem aot(h:p:=by unfold Im.copy;rw[hcl,y'];simp only;rw[h.rG Vn]):p:=h
theorem xq(h:p:=by rw[<- hlen];exact hd):p:=h
theorem al9(h:p:=by unfold Ua;rw[hcl];exact⟨Vn,by rw[ZU rfl]⟩):p:=h
theorem amm(h:p:=by rw[<- hr];unfold Im.nP;rw[ht,ZU rfl,hi,hx];simp only;rw[hk];rfl):p:=h
theorem acn(h:p:=by rw[hW1];simp):p:=h
theorem aj1(h:p:=by rw[<- e];exact .inr (.inr (.inl hk))):p:=h
theorem ani(h:p:=by rw[hW1];exact below2 _ _ _):p:=h
theorem apB(h:p:=by rw[hW1];exact VD (by intro e;injection e with e1 e2;omega)):p:=h
theorem abp(h:p:=by rw[hW1];simp[World.setCell]):p:=h
theorem anI(h:p:=by show w.heap.size<w4.heap.size;omega):p:=h
theorem zn(h:p:=by rw[HK.o];rfl):p:=h
theorem JK(h:p:=by simp[results,results155,go_sem]<;>rfl):p:=h
theorem jv(h:p:=by rw[hW1,hzz];exact(Z4 _ _).1):p:=h
theorem abJ(h:p:=by rw[hW1,hzz];exact set2 LO):p:=h
theorem ac1(h:p:=by show w.heap.size<W3.heap.size;omega):p:=h
theorem ajP(h:p:=by rw[hW1];exact((Vt.refl _ (λk=>k=z)).setCell _ _ (λ_=>rfl)).setCell _ _ (λ_=>rfl)):p:=h
theorem ag8(h:p:=by have:=hfw k e;omega):p:=h
theorem aoP(h:p:=by rw[hW1,hzz];exact((Vt.refl _ (λk=>k=W1.heap.size)).setCell _ _ (λ_=>rfl)).setCell _ _ (λ_=>rfl)):p:=h
theorem aoC(h:p:=by rw[e];exact⟨by have:=HH.o.Qj.Ut.size;omega,Rp,λe'=>by have:=(HH.o.lo z e').2.1;omega,λe'=>by have:=(HH.o.dead z e').2.1;omega⟩):p:=h
theorem fQ(h:p:=by rw[hW1];exact(ZR _ _).alloc UM _):p:=h
theorem Pq(h:p:=by rw[V_];rfl):p:=h
theorem amO(h:p:=by have:=(HH.o.dead z e').2.1;omega):p:=h
theorem aoz(h:p:=by have:=(HH.o.lo z e').2.1;omega):p:=h
theorem amh(h:p:=by have:=HH.o.Qj.Ut.size;omega):p:=h
theorem pX(h:p:=by unfold VA;simp[hk]):p:=h
theorem JD(h:p:=by unfold VA;simp[hk,hst]):p:=h
theorem adz(h:p:=by unfold Kn.wrap64 Go.RowKit.wrap64;exact Wj _):p:=h
theorem jh(h:p:=by unfold VA;simp[hk,hst,ho]):p:=h
theorem abf(h:p:=by rw[hW1];exact(Z4 _ _).1):p:=h
theorem Ea(h:p:=by simp only[ZI];omega):p:=h
theorem iq(h:p:=by rw[<- e];exact B4):p:=h
theorem ahZ(h:p:=by show w.heap.size<w2.heap.size;omega):p:=h
theorem ahU(h:p:=by rw[hV0];exact(ZR _ _).alloc UM _):p:=h
theorem apb(h:p:=by rw[hV0,t_];exact(Z4 _ _).1):p:=h
theorem am3(h:p:=by rw[t_];exact hc2.size):p:=h
theorem ajT(h:p:=by rw[SW];exact(ZR _ _).alloc UM _):p:=h
theorem amn(h:p:=by rw[SW,u_];exact(Z4 _ _).1):p:=h
theorem amR(h:p:=by rw[u_];exact hc3.size):p:=h
theorem anf(h:p:=by rw[hV0,u_];exact(Z4 _ _).1):p:=h
theorem aob(h:p:=by rw[u_];exact hc2.size):p:=h
theorem al4(h:p:=by rw[SW,t_];exact(Z4 _ _).1):p:=h
theorem aok(h:p:=by rw[t_];exact hc3.size):p:=h
theorem air(h:p:=by rw[hV2];exact(ZR _ _).alloc UM _):p:=h
theorem amD(h:p:=by rw[hV2,t_];exact(Z4 _ _).1):p:=h
theorem amE(h:p:=by rw[hV2,u_];exact(Z4 _ _).1):p:=h
theorem zH(h:p:=by simp[U9]at hro;show f.st.length<16;omega):p:=h
theorem QW(h:p:=by simp[U9]at hst;omega):p:=h
theorem aik(h:p:=by rw[e];have:=h3.lo fb (by simp);exact⟨this.1,this.2.1,this.2.2,h3.LY.1.raw.Vb⟩):p:=h
theorem aiu(h:p:=by simp only[ZI]at rS ⊢;omega):p:=h
theorem aa6(h:p:=by have:=HZ.o.2.2.1;omega):p:=h
theorem ahk(h:p:=by have h1:=hsz.1;have h11:=hsz.2;simp only[YJ]at h11;omega):p:=h
theorem qN(h:p:=by rw[e]at hv;cases hv):p:=h
theorem fM(h:p:=by have:=HH.o.lt;omega):p:=h
theorem ag6(h:p:=by simp[results,results108,go_sem,z0,z1,z2,z3,z4,z5]):p:=h
theorem ai0(h:p:=by simp[results,results107,go_sem,z0,z1,z2,z3,z4,z5]):p:=h
theorem aia(h:p:=by simp only[ZJ];first|omega|(show w.heap.size+1<=wr.heap.size+1;omega)):p:=h
theorem ah7(h:p:=by rw[Wg.o];exact Qu.snoc HY.o.2 _ _ HI.o.2.1):p:=h
theorem aie(h:p:=by rw[Wg.o,Zw,<- Db.o];exact D1.o):p:=h
theorem aeD(h:p:=by rw[hb,hgl]at e;exact hne e.symm):p:=h
theorem ac4(h:p:=by rw[hz];exact ZN _):p:=h
theorem ajy(h:p:=by rw[hW];exact ZW W _ v k yV):p:=h
theorem Oa(h:p:=by rw[hK]):p:=h
theorem agU(h:p:=by unfold Im.drop;rw[hc];simp only;rw[lq hk,hw]):p:=h
theorem aoY(h:p:=by first|omega|(have:=YV List.length hst;simp at this;omega)):p:=h
theorem sJ(h:p:=by have:=HL.o.2.2;omega):p:=h
theorem ahq(h:p:=by rw[X9,Za,XT HL.o.1]):p:=h
theorem ajp(h:p:=by rw[X9,Za,XT HL.o.1];exact HI.o.2.2.2.2.2):p:=h
theorem aiL(h:p:=by simp only[Zh];have:=HL.o.2.1;omega):p:=h
theorem ajx(h:p:=by rw[show N-g=N-(g+1)+1 from by omega];exact oY):p:=h
theorem gZ(h:p:=by rw[Wg.o];exact C'):p:=h
theorem yO(h:p:=by intro e;injection e with e;exact Te e):p:=h
theorem ahM(h:p:=by have:=HY.o.2.2.2;omega):p:=h
theorem JB(h:p:=by simp[VA,he]):p:=h
theorem amB(h:p:=by rw[SU];exact(ZW _ _ _ _ yV).trans (ZW _ _ _ _ yV)):p:=h
theorem anM(h:p:=by rw[hK2];exact hs2.trans (Vu.below hs2.rk (ZR _ _).drew)):p:=h
theorem aos(h:p:=by rw[hK2];exact hs2.trans (Vu.below hs2.rk (UF _ _).drew)):p:=h
theorem aiM(h:p:=by first|(cases e;done)|(have h2:=OS.o;simpa using h2)):p:=h
theorem iQ(h:p:=by rw[HX.o.2.2.2.1];exact HI.o.2.2.2.2):p:=h
theorem an5(h:p:=by rw[S1];exact af o):p:=h
theorem ama(h:p:=by rw[<- hr0,hrun];rfl):p:=h
theorem alX(h:p:=by rw[<- hr0,hrun]):p:=h
theorem agY(h:p:=by rw[QK (QK Wo 0 _) 1 _];rfl):p:=h
theorem amY(h:p:=by rw[HX.o.2.2.2.2.2.2];exact HH.o.2.rk.QF (by rw[HX.o.2.2.1];exact ZN _)):p:=h
theorem aof(h:p:=by rw[HX.o.2.2.1];exact ZN _):p:=h
theorem jk(h:p:=by have:=h.zu;omega):p:=h
theorem agX(h:p:=by rw[<- LA];exact DB):p:=h
theorem ad8(h:p:=by simp[results,results156,go_sem]):p:=h
theorem acX(h:p:=by rw[MY];simp):p:=h
theorem ad1(h:p:=by rw[<- HP.o,<- hsp,N9]):p:=h
theorem amC(h:p:=by rw[<- VB,e0];exact hl0):p:=h
theorem an3(h:p:=by rw[<- VB,e1];exact Rv):p:=h
theorem alU(h:p:=by have:=hb.size;simp only[ZJ]at this;omega):p:=h
theorem aoh(h:p:=by simp only[ZJ]at hg;omega):p:=h
theorem AY(h:p:=by simp[results,results156,go_sem,r0,r1,r2,r3,r4,r5]):p:=h
theorem zt0(h:p:=by exact⟨by simp[kinds],Ei,Ei,λe=>sH,λe=>sH⟩):p:=h
theorem KP(h:p:=by exact⟨rfl,rfl⟩):p:=h
theorem zt2(h:p:=by exact Nat.le_of_lt y_):p:=h
theorem UM(h:p:=by exact ZN _):p:=h
theorem zt4(h:p:=by exact(h8 VH).2 h3):p:=h
theorem fZ(h:p:=by exact⟨gG hz h.1,h.2⟩):p:=h
theorem zt6(h:p:=by exact⟨rfl,(ZR _ _).alloc (ZN _) _⟩):p:=h
theorem zt7(h:p:=by exact(ZR _ _).alloc (ZN _) _):p:=h
theorem Vx(h:p:=by exact⟨_,rfl⟩):p:=h
theorem zt9(h:p:=by exact⟨0,rfl,VH,λj h=>VH⟩):p:=h
theorem agB(h:p:=by exact .inl (.inr ⟨rfl,VH⟩)):p:=h
theorem vJ(h:p:=by exact .inr (.inl e)):p:=h
theorem apu(h:p:=by exact .inr (.inr e)):p:=h
theorem akJ(h:p:=by exact λk hk=>by injection hk with hk;omega):p:=h
theorem akS(h:p:=by exact λe=>by injection e with e;omega):p:=h
theorem NP(h:p:=by exact .inl rfl):p:=h
theorem nO(h:p:=by exact Yy _):p:=h
theorem afa(h:p:=by exact⟨rfl,rfl,rfl,zb4,λk hk hne=>ZW _ _ _ _ (by intro e;exact hne pI)⟩):p:=h
theorem uq(h:p:=by exact⟨rfl,rfl,rfl,ZN _,λ_ _=>rfl⟩):p:=h
theorem apz(h:p:=by exact show 0<W2.drew.heap.size from tv):p:=h
theorem apt(h:p:=by exact(oE.o.below hge hi1.o.below) kk t l sd jp st pZ.o):p:=h
theorem akX(h:p:=by exact HP.o _ (by rw[x8.o];simp)):p:=h
theorem Nh(h:p:=by exact λ_ _ _ h=>h):p:=h
theorem Gu(h:p:=by exact Or.inr ⟨by rfl,rfl⟩):p:=h
theorem aj8(h:p:=by exact ZV _ _ _ Vy):p:=h
theorem apn(h:p:=by exact⟨rfl,VH⟩):p:=h
theorem EH(h:p:=by exact hno i x):p:=h
theorem NU(h:p:=by exact⟨h,Ext.refl m⟩):p:=h
theorem LW(h:p:=by exact Ext.refl m):p:=h
theorem akf(h:p:=by exact λy hy=>hf.st y (Ye hy)):p:=h
theorem alJ(h:p:=by exact hf.st to (Ye zb6)):p:=h
theorem agt(h:p:=by exact λv hv=>hf.st v (List.mem_of_mem_take (List.mem_reverse.1 hv))):p:=h
theorem JQ(h:p:=by exact .inr rfl):p:=h
theorem apW(h:p:=by exact λy hy=>(hf.st y hy).ext hb.2):p:=h
theorem apN(h:p:=by exact a1 hb.2 uI zb7 (λy hy=>(hf.st y hy).ext hb.2)):p:=h
theorem wK(h:p:=by exact⟨_,_,hm⟩):p:=h
theorem EZ(h:p:=by exact λh=>h):p:=h
theorem aap(h:p:=by exact λ_ _ _ _ _ h=>h.elim):p:=h
theorem Dx(h:p:=by exact λ_=>.inl rfl):p:=h
theorem anL(h:p:=by exact(ho _ _ _ _ VH).trans (h.c1 j hj)):p:=h
theorem amj(h:p:=by exact((ho _ _ _ _ VH).trans (ho _ _ _ _ VH)).trans (h.c2 j hj)):p:=h
theorem aoM(h:p:=by exact(((ho _ _ _ _ VH).trans (ho _ _ _ _ VH)).trans (ho _ _ _ _ VH)).trans (h.c3 j hj)):p:=h
theorem alb(h:p:=by exact(VD PO).trans z1):p:=h
theorem amZ(h:p:=by exact hb1.mono Vy):p:=h
theorem Qi(h:p:=by exact λk _ e=>e):p:=h
theorem ao2(h:p:=by exact⟨p,s,hp,.inl rfl⟩):p:=h
theorem lF(h:p:=by exact λk _ e=>.inr e):p:=h
theorem apV(h:p:=by exact⟨p,hp,rfl⟩):p:=h
theorem akj(h:p:=by exact left_shrinks es seen en hen):p:=h
theorem aK(h:p:=by exact λk hk e=>VH):p:=h
theorem alj(h:p:=by exact⟨Vt.of_below hb3 _,(hb3.block _ tG).trans i1⟩):p:=h
theorem mF(h:p:=by exact⟨VH,VH⟩):p:=h
theorem apQ(h:p:=by exact .inr (.inr (.inr (.inr (.inr (.inr (.inr (.inr (.inl ⟨r,hd,rfl,by rw[<- h,e];rfl⟩))))))))):p:=h
theorem alc(h:p:=by exact .inr (.inr (.inr (.inr (.inr (.inr (.inr (.inr (.inr (.inl ⟨r,hd,rfl,by rw[<- h,e];rfl⟩)))))))))):p:=h
theorem sV(h:p:=by exact λh=>absurd h.1 Ez):p:=h
theorem aph(h:p:=by exact λh=>by have:=h.1;rw[MK]at this;revert this;decide):p:=h
theorem oG(h:p:=by exact .inr (.inl rfl)):p:=h
theorem aaW(h:p:=by exact aJ hu):p:=h
theorem ao7(h:p:=by exact h0 _ Vz):p:=h
theorem an0(h:p:=by exact .inr (λc hc=>akp)):p:=h
theorem apF(h:p:=by exact .inr (.inr (.inr (.inr (.inr (.inr (.inr (.inr (.inl ⟨d,⟨h1,hm,hd⟩,rfl,rfl⟩))))))))):p:=h
theorem apR(h:p:=by exact⟨d,⟨h1,hm,hd⟩,rfl,rfl⟩):p:=h
theorem ak9(h:p:=by exact .inr (.inr (.inr (.inr (.inr (.inr (.inr (.inr (.inr (.inl ⟨d,⟨h1,hm,hd⟩,rfl,rfl⟩)))))))))):p:=h
theorem aeu(h:p:=by exact Oy h):p:=h
theorem alK(h:p:=by exact λn h0 h1=>by rw[XB];omega):p:=h
theorem alz(h:p:=by exact((ZR _ W).alloc (ZN _) _).trans (hb1.mono Vy)):p:=h
theorem agl(h:p:=by exact⟨bF,HB.o⟩):p:=h
theorem jJ(h:p:=by exact λk _ e=>.inl e):p:=h
theorem lT(h:p:=by exact⟨p,s,hps,.inl e⟩):p:=h
theorem Ji(h:p:=by exact λ_ _=>rfl):p:=h
theorem tN(h:p:=by exact .inl e.symm):p:=h
theorem aj3(h:p:=by exact .inr ⟨s,by subst e;exact hs⟩):p:=h
theorem EP(h:p:=by exact .inr (.inr (.inl e))):p:=h
theorem aeg(h:p:=by exact .inr (.inr (.inr e))):p:=h
theorem x9(h:p:=by exact .inr (.inr hk)):p:=h
theorem akH(h:p:=by exact λe=>Z2 (by rw[<- e];exact hj)):p:=h
theorem amr(h:p:=by exact⟨1,k,rfl,.inl ⟨k,hkn,rfl,.inl (HA.o.2 VH),G'.o,λ_=>rfl,λh=>absurd (HA.o.2 VH) h⟩,ZR _ _⟩):p:=h
theorem ala(h:p:=by exact hb1.block _ HM.o.lt):p:=h
theorem alD(h:p:=by exact .inl ⟨j,x,rfl,HX.o,rfl,rfl⟩):p:=h
theorem vg(h:p:=by exact⟨rfl,rfl,rfl⟩):p:=h
theorem adf(h:p:=by exact .inr (.inr (.inr (.inl e)))):p:=h
theorem mM(h:p:=by exact .inr (.inr (.inr (.inr (.inl e))))):p:=h
theorem yg(h:p:=by exact⟨hk,rfl⟩):p:=h
theorem JR(h:p:=by exact λh=>e h.symm):p:=h
theorem aga(h:p:=by exact λs=>h.ap.yQ c s hc):p:=h
theorem dY(h:p:=by exact λk hg e=>h.gl k e hg):p:=h
theorem Ou(h:p:=by exact⟨rfl,K,HS.o⟩):p:=h
theorem aoN(h:p:=by exact .inr (.inr (.inl (.inr (.inr (.inl e)))))):p:=h
theorem aaN(h:p:=by exact .inr (.inr (.inr (.inr (.inr e))))):p:=h
theorem agD(h:p:=by exact⟨h.ap.Bc,h.ap.Bo,h.ap.zF,h.ap.IQ,h.ap.yQ,h.ap.DU⟩):p:=h
theorem Dv(h:p:=by exact⟨n.toNat,VH⟩):p:=h
theorem agc(h:p:=by exact fo _ _ _ _ VH):p:=h
theorem alR(h:p:=by exact⟨rfl,(ZR _ w).alloc (ZN _) _⟩):p:=h
theorem akQ(h:p:=by exact(Vt.refl w _).setCell _ _ (λ_=>.inl rfl)):p:=h
theorem akC(h:p:=by exact .inr (.inl ⟨p,s,hp,.inl rfl⟩)):p:=h
theorem akF(h:p:=by exact λe w' ⟨h1,h2⟩=>⟨.only,h1,trivial,B3 _,λq hq=>(by cases hq),Vt.of_below h2 _⟩):p:=h
theorem aj9(h:p:=by exact(VD PO).trans f1):p:=h
theorem qY(h:p:=by exact⟨by rw[HN.o];rfl,rfl⟩):p:=h
theorem alh(h:p:=by exact⟨by rw[HB.o];rfl,HH.o.drewN _⟩):p:=h
theorem aar(h:p:=by exact⟨jS,HB.o⟩):p:=h
theorem JH(h:p:=by exact⟨rfl,((ZR _ _).alloc (ZN _) _)⟩):p:=h
theorem E8(h:p:=by exact λW=>VE):p:=h
theorem FI(h:p:=by exact λa W=>lK):p:=h
theorem fU(h:p:=by exact Zo _ hg):p:=h
theorem Po(h:p:=by exact XZ ..):p:=h
theorem ig(h:p:=by exact Zo _ (Zy.2 ⟨p,hp,rfl⟩)):p:=h
theorem qM(h:p:=by exact λk e=>by rw[e];exact⟨hlo.1,hlo.2.2⟩):p:=h
theorem DL(h:p:=by exact λk hk=>h0.lt hk):p:=h
theorem aeb(h:p:=by exact⟨(h.lo k hk).1,ZY (h.lo k hk).2.1 hch.size,(h.lo k hk).2.2⟩):p:=h
theorem iV(h:p:=by exact λ_ hk=>⟨hk,rfl⟩):p:=h
theorem aoL(h:p:=by exact Zy.2 ⟨p,hp,rfl⟩):p:=h
theorem ac0(h:p:=by exact Zy.2 ⟨p,hp,e⟩):p:=h
theorem ai6(h:p:=by exact hch.block k (h.dead k hk).2.1 e):p:=h
theorem qX(h:p:=by exact(Vt.refl W1 _).drew.then hc3 (λk _ e=>e)):p:=h
theorem fD(h:p:=by exact hbk _ (ZN _) EJ):p:=h
theorem jl(h:p:=by exact λe=>by have:=hfw _ e;omega):p:=h
theorem ajS(h:p:=by exact⟨hst.b,hst.cb,hst.md⟩):p:=h
theorem aci(h:p:=by exact Vt.of_below hB1 (λ_=>False)):p:=h
theorem Js(h:p:=by exact λ_ _ e=>e.elim):p:=h
theorem yG(h:p:=by exact B.sg.LY.1.raw.same rfl):p:=h
theorem qZ(h:p:=by exact hc3.block _ l1 HB.o.n1):p:=h
theorem iw(h:p:=by exact hc3.block _ l3 HB.o.n2):p:=h
theorem iY(h:p:=by exact hc2.block _ l1 HB.o.n1):p:=h
theorem ahs(h:p:=by exact⟨rfl,rfl,K,HB.o.gave h0 hc2⟩):p:=h
theorem iL(h:p:=by exact hc2.block _ xF vi):p:=h
theorem uY(h:p:=by exact hc3.block _ lo Te):p:=h
theorem ail(h:p:=by exact hk4 _ A6 (by show w.heap.size<=w2.heap.size;omega)):p:=h
theorem aiQ(h:p:=by exact λe=>by have:=Wg.o _ e;simp only at this;omega):p:=h
theorem ape(h:p:=by exact Vt.of_below j_ (λ_=>False)):p:=h
theorem amG(h:p:=by exact j_.block fb SF.Vb.lt):p:=h
theorem aiT(h:p:=by exact Vt.of_below hB4 (λ_=>False)):p:=h
theorem ai9(h:p:=by exact hB4.block fb T5.Vb.lt):p:=h
theorem amJ(h:p:=by exact Vt.of_below hB2 (λ_=>False)):p:=h
theorem amM(h:p:=by exact hB2.block fb LL.Vb.lt):p:=h
theorem ane(h:p:=by exact hcc.block _ l2 HB.o.n1):p:=h
theorem aoF(h:p:=by exact hcc.block _ l3 HB.o.n1):p:=h
theorem fV(h:p:=by exact λe=>by simp only at e;omega):p:=h
theorem aaY(h:p:=by exact λe=>afu):p:=h
theorem Jw(h:p:=by exact λ_ _ _ h=>akO Vz h):p:=h
theorem IB(h:p:=by exact VR _):p:=h
theorem Oc(h:p:=by exact⟨jS,hb.alloc VH _⟩):p:=h
theorem zq(h:p:=by exact HH.o.alloc _):p:=h
theorem aeF(h:p:=by exact λk e=>hoth k (key _ _ (h.lc k e) Vy)):p:=h
theorem iH(h:p:=by exact λk e=>⟨e,hoth k (key _ _ e Vy)⟩):p:=h
theorem adE(h:p:=by exact λk e=>hoth k (key _ _ (h.lo k e) Vy)):p:=h
theorem fB(h:p:=by exact⟨(hoth _ (key _ _ h2 Vy)).trans h1,h2⟩):p:=h
theorem acJ(h:p:=by exact λ_=>uK hgl Vy Vy):p:=h
theorem yV(h:p:=by exact λx=>e x):p:=h
theorem acR(h:p:=by exact⟨rfl,pW HB.o (ZN _) _ _⟩):p:=h
theorem O5(h:p:=by exact⟨rfl,HR.o⟩):p:=h
theorem adS(h:p:=by exact⟨j+1,a,Uu,rfl,VH,VH,HR.o,sK⟩):p:=h
theorem adQ(h:p:=by exact⟨hk,hen⟩):p:=h
theorem SH(h:p:=by exact⟨hF,hO,hb⟩):p:=h
theorem aoy(h:p:=by exact UF _ (.cells #[.bool false,VI bn] 79)):p:=h
theorem aeh(h:p:=by exact UF w4 (.cells #[.bool v.obj,VI v.n] 79)):p:=h
theorem aoR(h:p:=by exact UZ.pre HF.o.run hw):p:=h
theorem jg(h:p:=by exact HH.o.QF (VR _)):p:=h
theorem iJ(h:p:=by exact ZV _ _ _ (by rw[UN,UN,UN];exact hzl)):p:=h
theorem an4(h:p:=by exact Ye zb6):p:=h
theorem abQ(h:p:=by exact⟨K,rfl,HR.o⟩):p:=h
theorem ais(h:p:=by exact hb3.block _ (by show w.heap.size<X2.heap.size;omega)):p:=h
theorem gy(h:p:=by exact λg hg=>by cases hg):p:=h
theorem eU(h:p:=by exact IL HH.o.1.ok RW.o):p:=h
theorem ahB(h:p:=by exact Nd.o.1.same (λe=>(z_.Ut.block ab wB (λx=>x.1 (Nd.o.2 e).1)))):p:=h
theorem aiN(h:p:=by exact λe=>⟨(z_.lab ab wB).trans (Nd.o.2 e).1,ZY wB z_.Ut.size⟩):p:=h
theorem aho(h:p:=by exact r_.Ut.block _ (ZY VH z_.Ut.size) (λx=>x.1 ((z_.lab _ VH).trans (HH.o.1.QF (ZN _))))):p:=h
theorem anG(h:p:=by exact λx=>x.1 (HH.o.1.QF (VR _))):p:=h
theorem aep(h:p:=by exact⟨HH.o.2.trans ST,(ST.lab _ hw1).trans (HH.o.1.QF (VR _))⟩):p:=h
theorem am7(h:p:=by exact⟨K',rfl,HZ.o⟩):p:=h
theorem ano(h:p:=by exact⟨K',by rw[<- pn.o];rfl,HZ.o.trans (Vu.below HZ.o.rk (ZR _ _).drew)⟩):p:=h
theorem abD(h:p:=by exact ZV w3 _ w.heap.size VH):p:=h
theorem ajO(h:p:=by exact λx=>x.1 (Nd.o.2 e).1):p:=h
theorem ajC(h:p:=by exact r_.Ut.block _ (ZY VH Wt.Ut.size) (λx=>x.1 ((Wt.lab _ VH).trans (HH.o.1.QF (ZN _))))):p:=h
theorem aiJ(h:p:=by exact(Od w.heap.size VH).trans (ZV X2 _ w.heap.size VH)):p:=h
theorem iP(h:p:=by exact ZC h.zw (Nat.le_of_lt h.zu)):p:=h
theorem ai7(h:p:=by exact(sI.o.N8 _ _ _ _ _).alloc _):p:=h
theorem aod(h:p:=by exact N1.o.hz.N8 _ _ _ _ _):p:=h
theorem aiC(h:p:=by exact⟨rfl,N1.o.to.N8 L_ (ZN _) _ _ _ _ _⟩):p:=h
theorem apa(h:p:=by exact J_.o.hz.N8 _ _ _ _ _):p:=h
theorem aoK(h:p:=by exact⟨rfl,_,ale,J_.o.to.N8 L_ (ZN _) _ _ _ _ _⟩):p:=h
theorem amf(h:p:=by exact⟨rfl,_,ale,N1.o.to.N8 L_ (ZN _) _ _ _ _ _⟩):p:=h
theorem LG(h:p:=by exact⟨hD,hB,hb⟩):p:=h
theorem yL(h:p:=by exact⟨R',S5.o.ref hr⟩):p:=h
theorem ahd(h:p:=by exact λe=>⟨(Hc e).1,(Hc e).2.1⟩):p:=h
theorem adX(h:p:=by exact UF w4 (.cells #[.bool false,VI 0] 79)):p:=h
theorem FM(h:p:=by exact λ_=>by have:=HC.o;omega):p:=h
theorem ahy(h:p:=by exact P1.o.to (W_.o).drew.to hg1 L_):p:=h
theorem aox(h:p:=by exact W_.o.hz.N8 _ _ _ _ _):p:=h
theorem ajD(h:p:=by exact⟨rfl,W_.o.to.N8 L_ (ZN _) _ _ _ _ _⟩):p:=h
theorem ah0(h:p:=by exact⟨YV _ HV.o.symm,j,hj,W_.o.to.N8 L_ (ZN _) _ _ _ _ _,HJ.o⟩):p:=h
section
variable {P : Program} {md : Region.Mode} {ops : Array Oper} {Q : Exit -> Act -> World -> Prop} {S : World -> Prop}
theorem Uh (i:Nat){oi:Oper}{v:Value}{fuel:Nat}{listed:Array Bool}{a:Act}{w:World}
 (h:wpAnyH P md ops Q S fuel (listed.setIfInBounds i true) (a.put oi.dst v) w)
 (hi:ops[i]?=some oi:=by rfl) (hs:Region.noSelect ops=true:=by kernel_rfl) (hf:Region.free md ops listed i=true:=by kernel_rfl) (hr:(Region.ready md ops listed).contains i=true:=by kernel_rfl)
 (hQ:∀c a w,Q (.panic c) (a.put oi.dst v) w->Q (.panic c) a w:=by exact λ_ _ _ h=>h) (hw:Region.wanted oi (yielded ops a.tmps)=true:=by rfl)
 (hy:∀w,S w->(execOp a.eval oi).run P w=.ok (.value v) w:=by intro w hSw;(try dsimp only at hSw);go_simp<;>with_reducible rfl) (hS:S w:=by assumption):wpAnyH P md ops Q S (fuel+1) listed a w:=
 Ze hi hs hf hr hQ (W9 ⟨hw,hy⟩) hS h
theorem Ur (i:Nat){oi:Oper}{v:Value}{fuel:Nat}{listed:Array Bool}{a a':Act}{w:World}
 (h:wpAnyH P md ops Q S fuel (listed.setIfInBounds i true) a' w)
 (hi:ops[i]?=some oi:=by rfl) (hs:Region.noSelect ops=true:=by kernel_rfl) (hf:Region.free md ops listed i=true:=by kernel_rfl) (hr:(Region.ready md ops listed).contains i=true:=by kernel_rfl)
 (hQ:∀c a w,Q (.panic c) (a.put oi.dst v) w->Q (.panic c) a w:=by exact λ_ _ _ h=>h) (hw:Region.wanted oi (yielded ops a.tmps)=true:=by rfl)
 (hy:∀w,S w->(execOp a.eval oi).run P w=.ok (.value v) w:=by intro w hSw;(try dsimp only at hSw);go_simp<;>with_reducible rfl) (hS:S w:=by assumption)
 (he:a.put oi.dst v=a':=by simp only[Act.put,WW,Xl,Xk,XE,WM,XY];rfl):wpAnyH P md ops Q S (fuel+1) listed a w:=
 Ze hi hs hf hr hQ (W9 ⟨hw,hy⟩) hS (he ▸ h)
theorem Ul (i:Nat){o:Oper}{fuel:Nat}{listed:Array Bool}{a:Act}{w:World}
 (h:∀K':Act->World->Prop,Shut (∀a w,S w->(S w->wpAnyH P md ops Q S fuel (listed.setIfInBounds i true) a w)->K' a w)->if Region.wanted o (yielded ops a.tmps)=true then Oper.wp P o a w K' Q else K' (a.put o.dst undef) w)
 (hr:Region.ready md ops listed=[i]:=by kernel_rfl) (ho:ops[i]?=some o:=by rfl):wpAnyH P md ops Q S (fuel+1) listed a w:=
 Zv hr Vy (ZO ho h ZA)
theorem Shut.go {X K:Act->World->Prop}(k:Shut (∀a w,S w->(S w->X a w)->K a w)){a:Act}{w:World}(h:S w->X a w)(hs:S w:=by go_keep):K a w:=k.o a w hs h
theorem UE {fuel:Nat}{listed:Array Bool}{a a':Act}{w:World}(h:wpAnyH P md ops Q S fuel listed a' w)
 (he:a=a':=by simp only[Act.put,WW,Xl,Xk,XE,WM,XY];rfl):wpAnyH P md ops Q S fuel listed a w:=he ▸ h
end
end Go
namespace Kn
open Go Go.RowKit
theorem SK (a b:ByteArray):(a==b)=true↔a=b:=by
 cases a with|mk a=>cases b with|mk b=>
 have e:((⟨a⟩:ByteArray)==⟨b⟩)=(a==b):=rfl;rw[e,YH];exact⟨λh=>by rw[h],λh=>by injection h⟩
theorem Vf (a b:ByteArray):(a==b)=false↔a≠b:=by
 rw[Ne,<- SK a b,Bool.not_eq_true]
theorem Tq (a:ByteArray):(a==a)=true:=(SK a a).2 rfl
def Holds (es:Array MapEntry)(l:List (ByteArray×Value)):Prop:=es.toList.map (λe=>(e.key,e.val))=l.map (λp=>(Value.string p.1,p.2))
def D8 (w:World)(b:Nat)(l:List (ByteArray×Value)):Prop:=∃es clock,w.heap[b]?=some (.map es clock)/\Holds es l
def put:List (ByteArray×Value)->ByteArray->Value->List (ByteArray×Value)
 | [],s,v=>[(s,v)]
 | (k,x)::r,s,v=>if s==k then (s,v)::r else (k,x)::put r s v
theorem Dq {e:MapEntry}{es:List MapEntry}{l:List (ByteArray×Value)}(h:(e::es).map (λe=>(e.key,e.val))=l.map (λp=>(Value.string p.1,p.2))):
 ∃k v r,l=(k,v)::r/\e.key=.string k/\e.val=v/\es.map (λe=>(e.key,e.val))=r.map (λp=>(Value.string p.1,p.2)):=by
 cases l with
 | nil=>simp at h
 | cons p r=>
  simp only[Zc,YC,YL]at h;exact⟨p.1,p.2,r,rfl,h.1.1,h.1.2,h.2⟩
theorem Lr (s:ByteArray):∀(es:List MapEntry) (l:List (ByteArray×Value)) (i:Nat),es.map (λe=>(e.key,e.val))=l.map (λp=>(Value.string p.1,p.2))->
 (l.lookup s=none/\Instr.findNow .string (.string s) es i=some none/\put l s=λv=>l++[(s,v)])\/
 (∃j v,l.lookup s=some v/\Instr.findNow .string (.string s) es i=some (some (i+j,v))/\(es[j]?).map (·.key)=some (.string s)/\put l s=λx=>l.set j (s,x))
 | [],l,i,h=>by
  cases l with
  | nil=>left;exact⟨rfl,rfl,by funext v;rfl⟩
  | cons p r=>simp at h
 | e::es,l,i,h=>by
  obtain⟨k,v,r,rfl,hk,hv,hr⟩:=Dq h
  cases hs:(s==k) with
  | true=>
   right;refine⟨0,v,by simp[List.lookup,hs],by simp[Instr.findNow,hk,Instr.sameNow,hs,hv],?_,?_⟩
   . have e:=(SK s k).1 hs;simp[hk,e]
   . funext x;simp[put,hs]
  | false=>
   rcases Lr s es r (i+1) hr with⟨h1,h2,h3⟩|⟨j,x,h1,h2,h3,h4⟩
   . left;refine⟨by simp[List.lookup,hs,h1],by simp[Instr.findNow,hk,Instr.sameNow,hs,h2],?_⟩;funext v;simp[put,hs,h3]
   . right;refine⟨j+1,x,by simp[List.lookup,hs,h1],anQ,by simpa using h3,?_⟩;funext v;simp[put,hs,h4]
theorem MQ (s:ByteArray):MapKept.IsKey .string (.string s):=by simp[MapKept.IsKey]
variable {w : World}
theorem MF {P:Program}{b:Nat}{l:List (ByteArray×Value)}(h:D8 w b l){t k e:TypeId}(ht:P.underlying t=some (.map k e))(hk:P.underlying k=some .string){z:Value}
 (hz:(zeroValue e).run P w=.ok z w) (s:ByteArray):(Instr.lookup t (.map (some b)) (.string s) false).run P w=.ok ((l.lookup s).getD z) w:=by
 obtain⟨es,clock,hb,hl⟩:=h;rcases Lr s es.toList l 0 hl with⟨h1,h2,_⟩|⟨j,x,h1,h2,_,_⟩
 . simp[Instr.lookup,Zu ht,Y5 hb,Yr hk (MQ s),Ym hk h2,Result.andThen,h1,hz]
 . simp[Instr.lookup,Zu ht,Y5 hb,Yr hk (MQ s),Ym hk h2,Result.andThen,h1]
theorem D8.lt {b:Nat}{l:List (ByteArray×Value)}(h:D8 w b l):b<w.heap.size:=by
 obtain⟨es,clock,hb,_⟩:=h;exact(Z5.1 hb).1
variable {w' : World}
theorem Tc {w wr w1:World}{B:Nat}{e:TypeId}{size n:Nat}{v:Value}{xs:List Value}{o:Obj}(hb:Below B w wr)(hB:B<=w.heap.size)(hown:wr.ownsRow B e size v n xs)
 (hg:(wr.alloc o).grownBy w1 v.ownBlock):Below B w w1:=
 (hb.alloc (ZC hB hb.size) o).grown hg aky (λk hk=>(hown.lt k hk).1)
theorem Us (w:World)(xs:List Value)(e:TypeId):∀j u,xs[j]?=some u->(w.alloc (.cells xs.toArray e)).cell? ((VJ w.heap.size 0).add j)=some u:=by
 intro j u hj;have hadd:(VJ w.heap.size 0).add j=(VJ w.heap.size j):=qP;rw[hadd];have e1:=(Z4 w (.cells xs.toArray e)).1;simp only[World.cell?,e1];simpa using hj
theorem oM {H:Type}{enc:TypeId×Value->H}{P:Program}{f:Func}{s:ChangeSpec}{apart fresh handsOn again:Bool}{W W':World}{args:Array Value}{v:Value}{ds gs:List (DataW H)}{before pa pv:List MemPlace}
 (hW:DataW.Whole enc P f.params.toList s.vars apart W args.toList ds gs before)
 (hres:∀(b:Nat) (sp:Nat->Bool) (hd:Bool),DataW.TrodAll enc P W' b sp hd f.resultTypes.toList (v.resultList f.resultTypes.size) (s.fn H (ds++gs)).results [])
 (hargs:∀sp:Nat->Bool,(∀p∈before,sp p.block=true)->DataW.TrodAll enc P W' 0 sp true f.params.toList args.toList (s.fn H (ds++gs)).args pa)
 (hvars:∀sp:Nat->Bool,(∀p∈before,sp p.block=true)->DataW.TrodVars enc P W' sp s.vars (s.fn H (ds++gs)).vars pv)
 (hps:before=pa++pv) (hb:Below W.heap.size W W')
 (hok:∀(j:Nat) (t:TypeId) (r:Value),f.resultTypes[j]?=some t->(v.resultList f.resultTypes.size)[j]?=some r->Value.okWide P W' .any 0 t r):
 s.post enc P f apart fresh handsOn again W args v W':=by
 have hlt:=hW.lt;have hold:∀p∈before,(λb=>decide (b<W.heap.size)) p.block=true:=λp hp=>by simpa using hlt p hp
 refine⟨ds,gs,before,[],pa,pv,hW,hres _ _ _,hargs _ hold,hvars _ hold,World.keptBut_mono (λp hp=>⟨hp,?_⟩) (hb.frame (·∈before)),λ_=>?_⟩
 . exact Or.inr (by simpa[hps]using hp)
 . obtain⟨_,_,_,_,_,hz,hn⟩:=hW;refine⟨hok,_,_,([]++pa)++pv,⟨[]++pa,pv,ChangeShapes.trodAll_append (hargs _ (λ_ _=>rfl)) (hres _ _ _),hvars _ (λ_ _=>rfl),rfl,?_,?_⟩,?_⟩
   . intro b off hp;have hm:MemPlace.cell b off∈before:=by rw[hps];simpa using hp
     have:=hlt _ hm;rw[hb.frozen (p:=(VJ b off)) this];exact hz b off hm
   . intro ha;have:=hn ha;rw[hps]at this;simpa using this
   . intro p hp _;rw[hps];simpa using hp
end Kn
namespace Kn
open Go
def gotos (P:Program)(c:Code)(Q:Exit->Act->World->Prop):Nat->Exit->Act->World->Prop
 | 0,.goto _,_,_=>False
 | n+1,.goto l,a,w=>∃rest,findLabel c l=some rest/\rest.wp P (gotos P c Q n) a w
 | _,e,a,w=>Q e a w
variable {w : World}
theorem G5 {P:Program}{c:Code}{Q:Exit->Act->World->Prop}{n:Nat}{a:Act}:gotos P c Q n .normal a w=Q .normal a w:=adk
theorem BP {P:Program}{c:Code}{Q:Exit->Act->World->Prop}{n i:Nat}{a:Act}:gotos P c Q n (.exit i) a w=Q (.exit i) a w:=adk
theorem Gs {P:Program}{c:Code}{Q:Exit->Act->World->Prop}{n:Nat}{a:Act}:gotos P c Q n .ret a w=Q .ret a w:=adk
theorem Fg {P:Program}{c:Code}{Q:Exit->Act->World->Prop}{n:Nat}{ch:List PanicEntry}{a:Act}:gotos P c Q n (.panic ch) a w=Q (.panic ch) a w:=adk
theorem KD {P:Program}{c:Code}{Q:Exit->Act->World->Prop}{n:Nat}{a:Act}:gotos P c Q n .outgrown a w=Q .outgrown a w:=adk
def Em (J:Nat->Act->World->Prop)(Q:Exit->Act->World->Prop):Exit->Act->World->Prop
 | .goto l,a,w=>J l a w
 | e,a,w=>Q e a w
theorem L9 {P:Program}{a:Act}{Q:Exit->Act->World->Prop}{c:Code}(J:Nat->Nat->Act->World->Prop)
 (first:c.wp P (Em (λl a w=>∃n,J n l a w) Q) a w)
 (pass:∀n l a w,J n l a w->∃rest,findLabel c l=some rest/\rest.wp P (Em (λl' a' w'=>∃n',n'<n/\J n' l' a' w') Q) a w):(Code.scope c).wp P Q a w:=by
 intro b k cs
 have key:∀n l a w,J n l a w->∃e a' w',Q e a' w'/\∀rest,findLabel c l=some rest->Arrives P (lone (b.at a (.code rest::.inScope c::k)) cs w) b k cs e a' w':=by
  intro n
  induction n using Nat.strongRecOn with
  | _ n ih=>
   intro l a w hJ;obtain⟨rest,hf,hw⟩:=pass n l a w hJ;obtain⟨e,a₁,w₁,hq,harr⟩:=hw b (.inScope c::k) cs;have one:∀ {r},findLabel c l=some r->r=rest:=λh=>by rw[hf]at h;injection h with h;exact h.symm
   cases e with
   | normal=>exact⟨.normal,a₁,w₁,hq,λr hr=>by rw[one hr];exact Steps.trans harr (.one step_inScope)⟩
   | exit id=>exact⟨.exit id,a₁,w₁,hq,λr hr=>by rw[one hr];exact λk' hk=>harr k' (by simp[exitTo,hk])⟩
   | goto l'=>
    obtain⟨n',hlt,ry⟩:=hq;obtain⟨rest',hf',_⟩:=pass n' l' a₁ w₁ ry;have hg:gotoIn l' (.inScope c::k)=some (.code rest'::.inScope c::k):=by simp[gotoIn,hf']
    obtain⟨e₂,a₂,w₂,hq₂,harr₂⟩:=ih _ hlt l' a₁ w₁ ry;exact⟨e₂,a₂,w₂,hq₂,λr hr=>by rw[one hr];exact .of_steps (harr _ hg) (harr₂ rest' hf')⟩
   | ret=>exact⟨_,a₁,w₁,hq,λr hr=>by rw[one hr];exact harr⟩
   | panic ch=>exact⟨_,a₁,w₁,hq,λr hr=>by rw[one hr];exact harr⟩
   | outgrown=>exact⟨_,a₁,w₁,hq,λr hr=>by rw[one hr];exact harr⟩
 obtain⟨e,a₁,w₁,hq,harr⟩:=first b (.inScope c::k) cs
 cases e with
 | normal=>exact⟨.normal,a₁,w₁,hq,.head WL (Steps.trans harr (.one step_inScope))⟩
 | exit id=>exact⟨.exit id,a₁,w₁,hq,λk' hk=>.head WL (harr k' (by simp[exitTo,hk]))⟩
 | goto l'=>
  obtain⟨n,ry⟩:=hq;obtain⟨rest',hf',_⟩:=pass n l' a₁ w₁ ry;have hg:gotoIn l' (.inScope c::k)=some (.code rest'::.inScope c::k):=by simp[gotoIn,hf']
  obtain⟨e₂,a₂,w₂,hq₂,harr₂⟩:=key _ l' a₁ w₁ ry;exact⟨e₂,a₂,w₂,hq₂,.of_steps (.head WL (harr _ hg)) (harr₂ rest' hf')⟩
 | ret=>exact⟨_,a₁,w₁,hq,.of_steps (.one WL) harr⟩
 | panic ch=>exact⟨_,a₁,w₁,hq,.of_steps (.one WL) harr⟩
 | outgrown=>exact⟨_,a₁,w₁,hq,.of_steps (.one WL) harr⟩
theorem wp_mono' {P:Program}{c:Code}{Q Q':Exit->Act->World->Prop}{a:Act}(h:c.wp P Q a w)(hQ:∀e a w,Q e a w->Q' e a w):c.wp P Q' a w:=by
 intro b k cs;obtain⟨e,a₁,w₁,hq,harr⟩:=h b k cs;exact⟨e,a₁,w₁,hQ _ _ _ hq,harr⟩
theorem KT {P:Program}{a:Act}{Q:Exit->Act->World->Prop}{c:Code}(n:Nat)(h:c.wp P (gotos P c Q n) a w):(Code.scope c).wp P Q a w:=by
 refine L9 (λm l a w=>gotos P c Q m (.goto l) a w) (wp_mono' h ?_) ?_
 . intro e a w he
   cases e with
   | goto l=>exact⟨n,he⟩
   | normal=>rw[G5]at he;exact he
   | exit i=>rw[BP]at he;exact he
   | ret=>rw[Gs]at he;exact he
   | panic ch=>rw[Fg]at he;exact he
   | outgrown=>rw[KD]at he;exact he
 . intro m l a w hm
   cases m with
   | zero=>exact hm.elim
   | succ m=>
    obtain⟨rest,hf,hw⟩:=hm;refine⟨rest,hf,wp_mono' hw ?_⟩;intro e a w he
    cases e with
    | goto l=>exact⟨m,XA m,he⟩
    | normal=>rw[G5]at he;exact he
    | exit i=>rw[BP]at he;exact he
    | ret=>rw[Gs]at he;exact he
    | panic ch=>rw[Fg]at he;exact he
    | outgrown=>rw[KD]at he;exact he
theorem JE {P:Program}{a:Act}{Q:Exit->Act->World->Prop}{c:Code}(n:Nat)
 (h:∀G:Nat->Exit->Act->World->Prop,RowKit.Hid (∀m a w,Q .ret a w->G m .ret a w)->RowKit.Hid (∀m l rest a w,findLabel c l=some rest->rest.wp P (G m) a w->G (m+1) (.goto l) a w)->c.wp P (G n) a w):(Code.scope c).wp P Q a w:=
 KT n (h (gotos P c Q) (λm a w hq=>by show gotos P c Q m .ret a w;rw[Gs];exact hq) (λm l rest a w hf hw=>⟨rest,hf,hw⟩))
theorem Aa {P:Program}{a:Act}{Q:Exit->Act->World->Prop}{c:Code}(J:Nat->Nat->Act->World->Prop)
 (pass:∀n l a w,J n l a w->∀G:Exit->Act->World->Prop,RowKit.Hid (∀a w,Q .ret a w->G .ret a w)->RowKit.Hid (∀n' l' a' w',n'<n->J n' l' a' w'->G (.goto l') a' w')->∃rest,findLabel c l=some (.seq .skip rest)/\rest.wp P G a w)
 (first:∀G:Exit->Act->World->Prop,RowKit.Hid (∀n l rest a w,J n l a w->findLabel c l=some (.seq .skip rest)->rest.wp P G a w)->c.wp P G a w):(Code.scope c).wp P Q a w:=
 L9 J (first _ (λn l rest a w h hf=>by
  obtain⟨rest',hf',hw⟩:=pass n l a w h (Em (λl a w=>∃n,J n l a w) Q) (λa w h=>h) (λn' l' a' w' _ h=>⟨n',h⟩);rw[hf]at hf';injection hf' with e;injection e with _ e;rw[e]
  exact hw)) (λn l a w h=>by
   obtain⟨rest,hf,hw⟩:=pass n l a w h (Em (λl' a' w'=>∃n',n'<n/\J n' l' a' w') Q) (λa w h=>h) (λn' l' a' w' hlt h=>⟨n',hlt,h⟩)
   exact⟨_,hf,wp_seq (wp_skip hw)⟩)
open Go.RowKit
structure Vt (w w':World)(S:Nat->Prop):Prop where
 os:w'.os=w.os
 tape:w'.tape=w.tape
 output:w'.output=w.output
 size:w.heap.size<=w'.heap.size
 block:∀k,k<w.heap.size->¬S k->w'.heap[k]?=w.heap[k]?
theorem Vt.refl (w:World)(S:Nat->Prop):Vt w w S:=⟨rfl,rfl,rfl,ZN _,λ_ _ _=>rfl⟩
variable {w' : World}
theorem Vt.of_below (h:Below w.heap.size w w')(S:Nat->Prop):Vt w w' S:=⟨h.os,h.tape,h.output,h.size,λk hk _=>h.block k hk⟩
theorem Vt.QY {k:Nat}(h:w.grownBy w' (some k)):Vt w w' (·=k):=⟨h.os,h.tape,h.output,h.size,λj hj hn=>h.block j hj (λe=>by injection e with e;exact hn e)⟩
theorem Vt.mono {S S':Nat->Prop}(h:Vt w w' S)(hS:∀k,k<w.heap.size->S k->S' k):Vt w w' S':=⟨h.os,h.tape,h.output,h.size,λk hk hn=>h.block k hk (λhs=>hn (hS k hk hs))⟩
variable {w1 w2 : World}
theorem Vt.trans {S:Nat->Prop}(h1:Vt w w1 S)(h2:Vt w1 w2 S):Vt w w2 S:=
 ⟨h2.os.trans h1.os,h2.tape.trans h1.tape,h2.output.trans h1.output,ZC h1.size h2.size,λk hk hn=>(h2.block k (ZY hk h1.size) hn).trans (h1.block k hk hn)⟩
theorem Vt.then {S S':Nat->Prop}(h1:Vt w w1 S)(h2:Vt w1 w2 S')(hS:∀k,k<w.heap.size->S' k->S k):Vt w w2 S:=
 ⟨h2.os.trans h1.os,h2.tape.trans h1.tape,h2.output.trans h1.output,ZC h1.size h2.size,λk hk hn=>(h2.block k (ZY hk h1.size) (λhs=>hn (hS k hk hs))).trans (h1.block k hk hn)⟩
theorem Vt.below {S:Nat->Prop}{B:Nat}(h:Vt w w' S)(hB:B<=w.heap.size)(hS:∀k,k<w.heap.size->S k->B<=k):Below B w w':=
 ⟨h.os,h.tape,h.output,h.size,λk hk=>h.block k (ZY hk hB) (λhs=>by have:=hS k (ZY hk hB) hs;omega)⟩
theorem Vt.alloc {S:Nat->Prop}(h:Vt w w1 S)(o:Obj):Vt w (w1.alloc o) S:=h.trans ⟨rfl,rfl,rfl,Vy,λk hk _=>ZV w1 o k hk⟩
theorem Vt.setCell {S:Nat->Prop}(h:Vt w w1 S)(a:Addr)(v:Value)(ha:a.block<w.heap.size->S a.block):Vt w (w1.setCell a v) S:=
 ⟨h.os,h.tape,h.output,by simp only[World.setCell,Yz];exact h.size,λk hk hn=>(ZW w1 a v k (λe=>hn (by subst e;exact ha hk))).trans (h.block k hk hn)⟩
theorem Vt.drew {S:Nat->Prop}(h:Vt w w1 S):Vt w w1.drew S:=⟨h.os,h.tape,h.output,h.size,h.block⟩
theorem IJ {a b:ByteArray}(h:¬a=b):(a.toList==b.toList)=false:=by
 refine ZF.2 λe=>h ?_;rw[ZL,ZL]at e;cases a;cases b;congr 1;exact Wh.1 e
def UL (w:World)(p:Nat):Prop:=∃cs t,w.heap[p]?=some (.cells cs t (0,0))
theorem UL.lt {p:Nat}(h:UL w p):p<w.heap.size:=by obtain⟨cs,t,h⟩:=h;exact(Z5.1 h).1
theorem UL.same {p:Nat}(h:UL w p)(e:w'.heap[p]?=w.heap[p]?):UL w' p:=by obtain⟨cs,t,h⟩:=h;exact⟨cs,t,e.trans h⟩
theorem UL.free {p:Nat}(h:UL w p)(o:Nat):w.frozen? (VJ p o)=false:=by
 obtain⟨cs,t,h⟩:=h;simp only[World.frozen?,h];simp
theorem UL.alloc {p:Nat}(h:UL w p)(o:Obj):UL (w.alloc o) p:=h.same (ZV w o p h.lt)
theorem UL.setCell {p:Nat}(h:UL w p)(a:Addr)(v:Value):UL (w.setCell a v) p:=by
 by_cases e:p=a.block
 . obtain⟨cs,t,h⟩:=h;subst e;exact⟨_,t,by simp only[World.setCell,Zz,ZU,h];rfl⟩
 . exact h.same (ZW w a v p e)
theorem Hl {P:Program}{p q:Nat}(hp:UL w p)(hq:UL w q):(sameAddr (VJ p 0) (VJ q 0)).run P w=.ok (decide (p=q)) w:=by
 by_cases h:p=q
 . subst h;rw[run_sameAddr_same];simp
 . obtain⟨_,_,hp⟩:=hp;obtain⟨_,_,hq⟩:=hq;rw[run_sameAddr_other w (λe=>h (by injection e)) hp hq];simp[h]
theorem N7 {P:Program}{t e:TypeId}{i:TypeInfo}(ht:P.underlying t=some (.pointer e))(he:P.info? e=some i)(hs:i.size≠0){p q:Nat}(hp:UL w p)(hq:UL w q):
 (Op.equal t (VG p) (VG q)).run P w=.ok (decide (p=q)) w:=by
 have h:∀d:Nat,(Op.equalIn (d+1) t (VG p) (VG q)).run P w=.ok (decide (p=q)) w:=λd=>by
  simp[Op.equalIn,Zu ht,Go.sizeOf,typeInfo,he,hs,Hl hp hq]
 exact h 9999
def Born (es:Array MapEntry)(clock:Nat):Prop:=(∀x∈es.toList,x.born<clock)/\(es.toList.map (·.born)).Nodup
theorem D5:Born #[] 0:=⟨Vy,Vy⟩
theorem zL {es:Array MapEntry}{clock:Nat}(h:Born es clock)(k v:Value):Born (es.push {key:=k,val:=v,born:=clock}) (clock+1):=by
 refine⟨λx hx=>?_,?_⟩
 . simp only[Array.toList_push,YT,WJ]at hx;rcases hx with hx|rfl
   . have:=h.1 x hx;omega
   . exact XA _
 . simp only[Array.toList_push,VU,Zc,Xj];refine Xi.2 ⟨h.2,Vy,?_⟩;intro a ha b hb;simp at hb;obtain⟨x,hx,rfl⟩:=Zy.1 ha;have:=h.1 x hx;omega
theorem y9 {es es':Array MapEntry}{clock:Nat}(h:Born es clock)(e:es'.toList.map (·.born)=es.toList.map (·.born)):Born es' clock:=by
 refine⟨λx hx=>?_,by rw[e];exact h.2⟩;have hm:x.born∈es.toList.map (·.born):=by rw[<- e];exact Zy.2 ⟨x,hx,rfl⟩
 obtain⟨y,hy,hyx⟩:=Zy.1 hm;have:=h.1 y hy;omega
theorem Fz (es:Array MapEntry)(j:Nat)(k v:Value):(es.modify j λe=>{e with key:=k,val:=v}).toList.map (·.born)=es.toList.map (·.born):=by
 apply XH;intro i;simp only[YO,Zf,Zz];by_cases h:j=i
 . subst h;cases es[j]?<;>simp
 . simp[h]
theorem Eb {es:Array MapEntry}{clock:Nat}(h:Born es clock)(j:Nat):Born (es.eraseIdxIfInBounds j) clock:=by
 have e:(es.eraseIdxIfInBounds j).toList=es.toList.eraseIdx j:=by
  unfold Array.eraseIdxIfInBounds;by_cases hj:j<es.size
  . simp[hj]
  . simp[hj];rw[WI (by simpa using hj)]
 refine⟨λx hx=>h.1 x (by rw[e]at hx;exact(Xb _ _).mem hx),?_⟩;rw[e];exact((Xb _ _).map _).nodup h.2
def Uniq (l:List (ByteArray×Value)):Prop:=(l.map (·.1)).Nodup
def SMap (w:World)(b:Nat)(l:List (ByteArray×Value)):Prop:=∃es clock,w.heap[b]?=some (.map es clock)/\Holds es l/\Born es clock/\Uniq l
theorem SMap.str {b:Nat}{l:List (ByteArray×Value)}(h:SMap w b l):D8 w b l:=by obtain⟨es,c,h1,h2,_⟩:=h;exact⟨es,c,h1,h2⟩
theorem SMap.lt {b:Nat}{l:List (ByteArray×Value)}(h:SMap w b l):b<w.heap.size:=h.str.lt
theorem SMap.same {b:Nat}{l:List (ByteArray×Value)}(h:SMap w b l)(e:w'.heap[b]?=w.heap[b]?):SMap w' b l:=amb
theorem OL {b:Nat}(h:w.heap[b]?=some (.map #[] 0)):SMap w b []:=⟨#[],0,h,rfl,D5,by simp[Uniq]⟩
theorem S9 (l:List (ByteArray×Value))(s t:ByteArray)(v:Value):(put l s v).lookup t=if t=s then some v else l.lookup t:=by
 induction l with
 | nil=>
  by_cases h:t=s
  . subst h;simp[put,List.lookup,Tq]
  . simp[put,List.lookup,(Vf t s).2 h,h]
 | cons p r ih=>
  obtain⟨k,x⟩:=p
  cases hs:(s==k) with
  | true=>
   have e:=(SK s k).1 hs;subst e;by_cases h:t=s
   . subst h;simp[put,hs,List.lookup,Tq]
   . simp[put,hs,List.lookup,(Vf t s).2 h,h]
  | false=>
   simp only[put,hs];by_cases h:t=s
   . subst h;rw[ZU rfl]at ih ⊢;simp[List.lookup,hs,ih]
   . rw[ZX h]at ih ⊢
     cases htk:(t==k) with
     | true=>simp[List.lookup,htk]
     | false=>simp[List.lookup,htk,ih]
theorem agi {l:List (ByteArray×Value)}{s t:ByteArray}{v:Value}(h:t∈(put l s v).map (·.1)):t=s\/t∈l.map (·.1):=by
 induction l with
 | nil=>simpa[put]using h
 | cons p r ih=>
  obtain⟨k,x⟩:=p
  cases hs:(s==k) with
  | true=>simp[put,hs]at h ⊢;rcases h with h|h;exact .inl h;exact .inr (.inr h)
  | false=>
   simp only[put,hs,XW,Zg,Zc,ZM]at h ⊢;rcases h with h|h
   . exact .inr (.inl h)
   . rcases ih h with h|h
     . exact .inl h
     . exact .inr (.inr h)
theorem qO {l:List (ByteArray×Value)}(h:Uniq l)(s:ByteArray)(v:Value):Uniq (put l s v):=by
 unfold Uniq at h ⊢
 induction l with
 | nil=>simp[put]
 | cons p r ih=>
  obtain⟨k,x⟩:=p;rw[Zc,YS]at h
  cases hs:(s==k) with
  | true=>
   have e:=(SK s k).1 hs;subst e;simpa[put,hs]using h
  | false=>
   simp only[put,hs,XW,Zg,Zc,YS];refine⟨λhm=>?_,ih h.2⟩;rcases agi hm with e|hm
   . exact(Vf s k).1 hs e.symm
   . exact h.1 hm
def del (l:List (ByteArray×Value))(s:ByteArray):List (ByteArray×Value):=l.filter (λp=>!(p.1==s))
theorem ace {l:List (ByteArray×Value)}(h:Uniq l)(s:ByteArray):Uniq (del l s):=(List.filter_sublist.map _).nodup h
theorem Na (l:List (ByteArray×Value))(s t:ByteArray):(del l s).lookup t=if t=s then none else l.lookup t:=by
 unfold del
 induction l with
 | nil=>by_cases h:t=s<;>simp[h,List.lookup]
 | cons p r ih=>
  obtain⟨k,x⟩:=p
  cases hs:(k==s) with
  | true=>
   have e:=(SK k s).1 hs;subst e;rw[Xz];simp only[hs,Bool.not_true,XW,Zg];rw[ih];by_cases h:t=k
   . simp[h]
   . simp[h,List.lookup,(Vf t k).2 h]
  | false=>
   rw[Xz];simp only[hs,Bool.not_false,Y6];by_cases h:t=s
   . subst h;have h1:=(Vf t k).2 (λe=>(Vf k t).1 hs e.symm);simp only[List.lookup,h1];simpa using ih
   . cases htk:(t==k) with
     | true=>simp[List.lookup,htk,h]
     | false=>simp only[List.lookup,htk];exact ih
theorem jX {l:List (ByteArray×Value)}{s:ByteArray}{v:Value}(h:l.lookup s=some v):(s,v)∈l:=by
 induction l with
 | nil=>simp[List.lookup]at h
 | cons p r ih=>
  obtain⟨k,x⟩:=p
  cases hs:(s==k) with
  | true=>simp[List.lookup,hs]at h;subst h;rw[(SK s k).1 hs];exact XZ
  | false=>simp[List.lookup,hs]at h;exact Zo _ (ih h)
theorem oH {l:List (ByteArray×Value)}(hu:Uniq l){s:ByteArray}{v:Value}(h:(s,v)∈l):l.lookup s=some v:=by
 induction l with
 | nil=>cases h
 | cons p r ih=>
  obtain⟨k,x⟩:=p;unfold Uniq at hu;rw[Zc,YS]at hu;rcases ZM.1 h with e|h
  . injection e with e1 e2;subst e1 e2;simp[List.lookup,Tq]
  . have hne:=(Vf s k).2 (λe=>hu.1 (by rw[<- e];exact Zy.2 ⟨_,h,rfl⟩));simp only[List.lookup,hne];exact ih hu.2 h
theorem yj {P:Program}{b:Nat}{l:List (ByteArray×Value)}(h:SMap w b l){t k e:TypeId}(ht:P.underlying t=some (.map k e))(hk:P.underlying k=some .string)(s:ByteArray)(v:Value):
 ∃w',(Instr.mapUpdate t (.map (some b)) (.string s) v).run P w=.ok () w'/\SMap w' b (put l s v)/\w.grownBy w' (some b)/\w'.heap.size=w.heap.size:=by
 obtain⟨es,clock,hb,hl,Ww,hu⟩:=h;rcases Lr s es.toList l 0 hl with⟨h1,h1,h3⟩|⟨j,x,h1,h1,h3,h4⟩
 . refine⟨ChangeMaps.setBlock w b (.map (es.push {key:=.string s,val:=v,born:=clock}) (clock+1)),?_,⟨_,_,Zb hb _,?_,zL Ww _ _,qO hu s v⟩,⟨rfl,rfl,rfl,JO,λi _ hi=>Zd hb _ (λe=>hi pI)⟩,JO⟩
   . simp[Instr.mapUpdate,Zu ht,Y5 hb,Yr hk (MQ s),Ym hk h1,YN _ hb,Result.andThen,ChangeMaps.setBlock]
   . unfold Holds at hl ⊢;rw[h3];simp[hl]
 . obtain⟨e0,he0,hk0⟩:∃e0,es.toList[j]?=some e0/\e0.key=.string s:=by
    cases he:es.toList[j]? with
    | none=>simp[he]at h3
    | some e0=>exact⟨e0,rfl,by simpa[he]using h3⟩
   have he1:es[j]?=some e0:=by simpa using he0
   refine⟨ChangeMaps.setBlock w b (.map (es.modify j λe=>{e with key:=.string s,val:=v}) clock),?_,⟨_,_,Zb hb _,?_,y9 Ww (Fz es j _ _),qO hu s v⟩,⟨rfl,rfl,rfl,JO,λi _ hi=>Zd hb _ (λe=>hi pI)⟩,JO⟩
   . simp[Instr.mapUpdate,Zu ht,Y5 hb,Yr hk (MQ s),Ym hk h1,he1,hk0,MapKept.run_keyThatStays (MQ s),YN _ hb,Result.andThen,ChangeMaps.setBlock]
   . unfold Holds at hl ⊢;rw[h4];apply XH;intro i;have hi:=YV (λl=>l[i]?) hl;simp only[YO]at hi ⊢;rw[Array.toList_modify,ChangeMaps.modify_eq_set _ _ _ _ he0];by_cases hij:j=i
     . subst hij;have hlt:=(Z5.1 he1).1;have hlen:es.toList.length=l.length:=ak2;have hlt':j<l.length:=by simp at hlen;omega
       simp[hlt,hlt']
     . simp[hij]at hi ⊢;exact hi
theorem CU (s:ByteArray):∀(es:List MapEntry) (l:List (ByteArray×Value)) (i:Nat),es.map (λe=>(e.key,e.val))=l.map (λp=>(Value.string p.1,p.2))->Uniq l->
 (Instr.findNow .string (.string s) es i=some none/\del l s=l)\/(∃j v,Instr.findNow .string (.string s) es i=some (some (i+j,v))/\del l s=l.eraseIdx j)
 | [],l,i,h,_=>by
  cases l with
  | nil=>left;exact⟨rfl,rfl⟩
  | cons p r=>simp at h
 | e::es,l,i,h,hu=>by
  obtain⟨k,v,r,rfl,hk,hv,hr⟩:=Dq h;unfold Uniq at hu;rw[Zc,YS]at hu
  cases hs:(s==k) with
  | true=>
   right;refine⟨0,v,by simp[Instr.findNow,hk,Instr.sameNow,hs,hv],?_⟩;have e:=(SK s k).1 hs;subst e;unfold del;rw[Xz];simp only[hs,Bool.not_true,XW,Zg,List.eraseIdx_zero,List.tail_cons];refine WR.2 (λp hp=>?_);have:(p.1==s)=false:=(Vf _ _).2 (λe=>hu.1 (by rw[<- e];exact Zy.2 ⟨p,hp,rfl⟩));simp[this]
  | false=>
   have hks:=(Vf k s).2 (λe=>(Vf s k).1 hs e.symm)
   have hd:del ((k,v)::r) s=(k,v)::del r s:=by
    unfold del;rw[Xz];simp[hks]
   rcases CU s es r (i+1) hr hu.2 with⟨h2,h3⟩|⟨j,x,h2,h3⟩
   . left;exact⟨by simp[Instr.findNow,hk,Instr.sameNow,hs,h2],by rw[hd,h3]⟩
   . right;refine⟨j+1,x,anQ,by rw[hd,h3];rfl⟩
theorem C9 (es:Array MapEntry)(j:Nat):(es.eraseIdxIfInBounds j).toList=es.toList.eraseIdx j:=by
 unfold Array.eraseIdxIfInBounds;by_cases hj:j<es.size
 . simp[hj]
 . simp[hj];rw[WI (by simpa using hj)]
theorem je {P:Program}{b:Nat}{l:List (ByteArray×Value)}(h:SMap w b l){t k e:TypeId}(ht:P.underlying t=some (.map k e))(hk:P.underlying k=some .string)(s:ByteArray)(t2 ty:TypeId):
 ∃w',(Builtin.delete_ #[t,t2] ty #[.map (some b),.string s]).run P w=.ok (.tuple #[]) w'/\SMap w' b (del l s)/\w.grownBy w' (some b)/\w'.heap.size=w.heap.size:=by
 obtain⟨es,clock,hb,hl,Ww,hu⟩:=h;rcases CU s es.toList l 0 hl hu with⟨h2,h3⟩|⟨j,x,h2,h3⟩
 . refine⟨ChangeMaps.setBlock w b (.map es clock),?_,⟨_,_,Zb hb _,by rw[h3];exact hl,Ww,by rw[h3];exact hu⟩,⟨rfl,rfl,rfl,JO,λi _ hi=>Zd hb _ (λe=>hi pI)⟩,JO⟩;simp[Builtin.delete_,Zu ht,Y5 hb,Yr hk (MQ s),Ym hk h2,YN _ hb,Result.andThen,ChangeMaps.setBlock]
 . rw[YU]at h2;refine⟨ChangeMaps.setBlock w b (.map (es.eraseIdxIfInBounds j) clock),?_,⟨_,_,Zb hb _,?_,Eb Ww j,ace hu s⟩,⟨rfl,rfl,rfl,JO,λi _ hi=>Zd hb _ (λe=>hi pI)⟩,JO⟩
   . simp[Builtin.delete_,Zu ht,Y5 hb,Yr hk (MQ s),Ym hk h2,YN _ hb,Result.andThen,ChangeMaps.setBlock]
   . unfold Holds at hl ⊢;rw[C9,h3,X7,X7,hl]
def TM (p:Nat):Value:=(VG p)
def LX (w:World)(b:Nat)(ps:List Nat):Prop:=∃es clock,w.heap[b]?=some (.map es clock)/\es.toList.map (·.key)=ps.map TM/\Born es clock/\ps.Nodup
theorem LX.lt {b:Nat}{ps:List Nat}(h:LX w b ps):b<w.heap.size:=by obtain⟨es,c,h1,_⟩:=h;exact(Z5.1 h1).1
theorem LX.same {b:Nat}{ps:List Nat}(h:LX w b ps)(e:w'.heap[b]?=w.heap[b]?):LX w' b ps:=amb
theorem jT {b:Nat}(h:w.heap[b]?=some (.map #[] 0)):LX w b []:=⟨#[],0,h,rfl,D5,Vy⟩
theorem kZ {e:MapEntry}{es:List MapEntry}{ps:List Nat}(h:(e::es).map (·.key)=ps.map TM):∃p r,ps=p::r/\e.key=TM p/\es.map (·.key)=r.map TM:=by
 cases ps with
 | nil=>simp at h
 | cons p r=>simp only[Zc,YC]at h;exact⟨p,r,rfl,h.1,h.2⟩
structure Gt (P:Program)(t:TypeId):Prop where
 und:∃e i,P.underlying t=some (.pointer e)/\P.info? e=some i/\i.size≠0
theorem LJ {P:Program}{t:TypeId}(hk:Gt P t){q:Nat}(hq:UL w q):∀(es:List MapEntry) (ps:List Nat) (i:Nat),es.map (·.key)=ps.map TM->(∀p∈ps,UL w p)->
 (q ∉ ps/\(Instr.findAsking t (TM q) es i).run P w=.ok none w)\/(∃j v,ps[j]?=some q/\(Instr.findAsking t (TM q) es i).run P w=.ok (some (i+j,v)) w)
 | [],ps,i,h,_=>by
  cases ps with
  | nil=>left;exact⟨Vy,rfl⟩
  | cons p r=>simp at h
 | e::es,ps,i,h,hc=>by
  obtain⟨p,r,rfl,hkey,hr⟩:=kZ h;obtain⟨el,inf,h1,h2,h3⟩:=hk.und;have heq:=N7 (P:=P) (w:=w) h1 h2 h3 hq (hc p Vy);by_cases MY:q=p
  . subst MY;right;refine⟨0,e.val,Vy,?_⟩;unfold Instr.findAsking;rw[hkey];simp[TM,heq]
  . have hstep:(Instr.findAsking t (TM q) (e::es) i).run P w=(Instr.findAsking t (TM q) es (i+1)).run P w:=by
     rw[Instr.findAsking,hkey];simp[TM,heq,MY]
    rcases LJ hk hq es r (i+1) hr (λx hx=>hc x (by simp[hx])) with⟨h4,h5⟩|⟨j,v,h4,h5⟩
    . left;exact⟨by simp[MY,h4],by rw[hstep];exact h5⟩
    . right;exact⟨j+1,v,by simpa using h4,by rw[hstep,h5];congr 3;omega⟩
theorem F8 {P:Program}{t:TypeId}(hk:Gt P t){q:Nat}(hq:UL w q){es:Array MapEntry}{ps:List Nat}(h:es.toList.map (·.key)=ps.map TM)(hc:∀p∈ps,UL w p):
 (q ∉ ps/\(Instr.findKey t (TM q) es.toList).run P w=.ok none w)\/(∃j v,ps[j]?=some q/\(Instr.findKey t (TM q) es.toList).run P w=.ok (some (j,v)) w):=by
 obtain⟨el,inf,h1,h2,h2⟩:=hk.und
 cases hl:es.toList with
 | nil=>
  rw[hl]at h
  cases ps with
  | nil=>left;exact⟨Vy,by simp[Instr.findKey,Zu h1,Result.andThen,Instr.findNow]⟩
  | cons p r=>simp at h
 | cons e r=>
  rw[hl]at h
  have hs:(Instr.findKey t (TM q) (e::r)).run P w=(Instr.findAsking t (TM q) (e::r)).run P w:=by
   simp[Instr.findKey,Zu h1,Result.andThen,Instr.findNow,Instr.sameNow]
  rcases LJ hk hq (e::r) ps 0 h hc with⟨h1,h2⟩|⟨j,v,h1,h2⟩
  . exact .inl ⟨h1,by rw[hs];exact h2⟩
  . exact .inr ⟨j,v,h1,by rw[hs,h2];simp⟩
theorem Qp {P:Program}{t:TypeId}(hk:Gt P t)(e:Bool)(q n:Nat):(Instr.checkKey e (n+1) t (TM q)).run P w=.ok () w:=by
 obtain⟨el,inf,h1,h2,h2⟩:=hk.und;unfold Instr.checkKey;simp[Zu h1,TM]
theorem acj {P:Program}{b:Nat}{ps:List Nat}(h:LX w b ps)(hc:∀p∈ps,UL w p){t k e:TypeId}(ht:P.underlying t=some (.map k e))(hk:Gt P k){q:Nat}(hq:UL w q)(v:Value):
 ∃w' ps',(Instr.mapUpdate t (.map (some b)) (TM q) v).run P w=.ok () w'/\LX w' b ps'/\(∀p,p∈ps'↔p∈ps\/p=q)/\w.grownBy w' (some b)/\w'.heap.size=w.heap.size:=by
 obtain⟨es,clock,hb,hl,Ww,hu⟩:=h;rcases F8 hk hq hl hc with⟨h1,h2⟩|⟨j,x,h1,h2⟩
 . refine⟨ChangeMaps.setBlock w b (.map (es.push {key:=TM q,val:=v,born:=clock}) (clock+1)),ps++[q],?_,⟨_,_,Zb hb _,by simp[hl],zL Ww _ _,?_⟩,Vy,⟨rfl,rfl,rfl,JO,λi _ hi=>Zd hb _ (λe=>hi pI)⟩,JO⟩
   . simp[Instr.mapUpdate,Zu ht,Y5 hb,Qp hk,h2,YN _ hb,Result.andThen,ChangeMaps.setBlock]
   . exact Xi.2 ⟨hu,Vy,λa ha b hb e=>by simp at hb;subst hb;subst e;exact h1 ha⟩
 . have hj:j<ps.length:=(Z7.1 h1).1
   have Id:(es[j]?).map (·.key)=some (TM q):=by
    have:=YV (λl=>l[j]?) hl;simp only[YO,h1,Zf]at this;simpa using this
   obtain⟨e0,he0,hk0⟩:∃e0,es[j]?=some e0/\e0.key=TM q:=by
    cases he:es[j]? with
    | none=>simp[he]at Id
    | some e0=>exact⟨e0,rfl,by simpa[he]using Id⟩
   refine⟨ChangeMaps.setBlock w b (.map (es.modify j λe=>{e with key:=TM q,val:=v}) clock),ps,?_,⟨_,_,Zb hb _,?_,y9 Ww (Fz es j _ _),hu⟩,λp=>?_,⟨rfl,rfl,rfl,JO,λi _ hi=>Zd hb _ (λe=>hi pI)⟩,JO⟩
   . have hst:(Instr.keyThatStays (TM q) (TM q)).run P w=.ok (TM q) w:=by simp[Instr.keyThatStays,TM,Instr.sameBits]
     simp[Instr.mapUpdate,Zu ht,Y5 hb,Qp hk,h2,he0,hk0,hst,YN _ hb,Result.andThen,ChangeMaps.setBlock]
   . rw[<- hl];apply XH;intro i;simp only[YO,Zf,Zz];by_cases hij:j=i
     . subst hij;simp[he0,hk0]
     . simp[hij]
   . exact⟨.inl,λh=>by rcases h with h|rfl;exact h;exact ZK h1⟩
theorem abm {P:Program}{b:Nat}{ps:List Nat}(h:LX w b ps)(hc:∀p∈ps,UL w p){t k e:TypeId}(ht:P.underlying t=some (.map k e))(hk:Gt P k){q:Nat}(hq:UL w q)(t2 ty:TypeId):
 ∃w' ps',(Builtin.delete_ #[t,t2] ty #[.map (some b),TM q]).run P w=.ok (.tuple #[]) w'/\LX w' b ps'/\(∀p,p∈ps'↔p∈ps/\p≠q)/\w.grownBy w' (some b)/\w'.heap.size=w.heap.size:=by
 obtain⟨es,clock,hb,hl,Ww,hu⟩:=h;rcases F8 hk hq hl hc with⟨h1,h2⟩|⟨j,x,h1,h2⟩
 . refine⟨ChangeMaps.setBlock w b (.map es clock),ps,?_,⟨_,_,Zb hb _,hl,Ww,hu⟩,λp=>⟨λh=>⟨h,λe=>h1 (e ▸ h)⟩,λh=>h.1⟩,⟨rfl,rfl,rfl,JO,λi _ hi=>Zd hb _ (λe=>hi pI)⟩,JO⟩;simp[Builtin.delete_,Zu ht,Y5 hb,Qp hk,h2,YN _ hb,Result.andThen,ChangeMaps.setBlock]
 . refine⟨ChangeMaps.setBlock w b (.map (es.eraseIdxIfInBounds j) clock),ps.eraseIdx j,?_,⟨_,_,Zb hb _,?_,Eb Ww j,(Xb _ _).nodup hu⟩,λp=>?_,⟨rfl,rfl,rfl,JO,λi _ hi=>Zd hb _ (λe=>hi pI)⟩,JO⟩
   . simp[Builtin.delete_,Zu ht,Y5 hb,Qp hk,h2,YN _ hb,Result.andThen,ChangeMaps.setBlock]
   . rw[C9,X7,X7,hl]
   . have hj:=(Z7.1 h1).1;have pD:ps[j]=q:=(Z7.1 h1).2;have hm:=List.mem_eraseIdx_iff_getElem (l:=ps) (x:=p) (k:=j);rw[hm];constructor
     . rintro⟨i,hi,hne,rfl⟩;exact⟨V9 _,λe=>hne ((List.getElem_inj hu).1 (e.trans pD.symm))⟩
     . rintro⟨hp,hne⟩;obtain⟨i,hi,rfl⟩:=WQ hp;exact⟨i,hi,λe=>hne (by subst e;exact pD),rfl⟩
theorem aek {P:Program}{b:Nat}{ps:List Nat}(h:LX w b ps){t:TypeId}(ht:P.underlying t=some (.map (P.mapKeyOf t) (P.mapElemOf t)))(ty:TypeId):(Builtin.len_ #[t] ty #[.map (some b)]).run P w=.ok (VI (ps.length:Nat)) w:=by
 obtain⟨es,clock,hb,hl,_⟩:=h;have e:es.size=ps.length:=ak2;rw[run_len_map w t ty b es clock ht hb,e];rfl
end Kn
namespace Go
variable {p q:Prop}
theorem zz0(h:p:=by
 clear f0 f1;go_wp2_with fail;refine Uy ?_;refine aif ?_;intro hHeld;refine pJ ?_;refine FC ?_;intro Y_ Z_;refine Vg ?_;intro hHeld;clear Z_ Y_;refine Um ?_;go_wp2_with fail;rw[LQ];clear heq c3;obtain⟨W1,hW1⟩:∃W1,W1=w2.setCell (VJ K.b 3) (VI (Go.RowKit.wrap64 ((K.UC+1:Nat):Int))):=Vx;rw[<- hW1];have z_:Step w2 W1 m K m {K with UC:=K.UC+1}:=by rw[hW1];exact H2.o.afv hl
 have mK:∀o,W1.cell? (VJ w.heap.size o)=w2.cell? (VJ w.heap.size o):=λo=>apB;have q0:=(mK 0).trans RC;have q1:=(mK 1).trans RR;have Rv:W1.heap.size=w2.heap.size:=abp;have hfi:=aP z_.Ub.drew.drew (some c) (λx hx=>by injection hx with hx;subst hx;exact hc) s;simp only[ZG,Vq]at hfi;clear hW1 RC RR t0 t1 t2 t3;refine Uy ?_;refine ahj ?_;intro hHeld;refine IC ?_;refine Ul 6 λY_ Z_=>?_;go_simp;refine hfi.mono ?_;rintro e w4 ⟨rfl,hb2⟩;have Gr:=RH (RH hb2);have cJ:=(Gr.cell (p:=(VJ w.heap.size 0)) EJ).trans q0;have cI:=(Gr.cell (p:=(VJ w.heap.size 1)) EJ).trans q1
 try go_wp2_with fail
 refine Z_.go λhHeld=>?_;clear Z_ Y_
 try refine UE ?_
 have r_:=z_.trans (Step.below z_.Ub Gr);have hl4:=Gr.size;have Id:=adC (some (VJ (K.cb c) 0)) (Vq ((K.says m s (some c)).map (λx=>K.cb x.1))) (Vq ((K.says m s (some c)).map (·.2))) s hs w4;unfold U1.val at Id;clear hb2 hfi;refine Ul 7 λY_ Z_=>?_;go_simp;refine Id.mono ?_;rintro e w5 ⟨rfl,hb5⟩;have q05:=(hb5.cell (p:=(VJ w.heap.size 0)) anI).trans cJ;have q15:=(hb5.cell (p:=(VJ w.heap.size 1)) anI).trans cI
 try go_wp2_with fail
 refine Z_.go λhHeld=>?_;clear Z_ Y_
 try refine UE ?_
 have NA:=r_.trans (Step.below r_.Ub hb5);have t0:=NA.Ub.Uc.tab.c0 i VH;have t1:=NA.Ub.Uc.tab.c1 i VH;have t2:=NA.Ub.Uc.tab.c2 i VH;have t3:=NA.Ub.Uc.tab.c3 i VH;have ap7:∀o,w5.frozen? (VJ K.b o)=false:=λo=>NA.Ub.Uc.tab.Vb.free o;have c15:=(NA.Ut.block _ VH (λe=>by have:=h.lt e;omega)).trans c1;have f0:w5.cell? (VJ (w.heap.size+1) 0)=some (.pointer none):=by simp only[World.cell?,c15];rfl
 have f1:w5.cell? (VJ (w.heap.size+1) 1)=some (.pointer none):=by simp only[World.cell?,c15];rfl
 have i7:∀o,w5.frozen? (VJ (w.heap.size+1) o)=false:=λo=>UL.free ⟨_,_,c15⟩ o;have H5:Hid _:=NA;clear Id NA r_ z_ q0 q1 cJ cI Gr hb5;refine Ur 8 ?_;refine Ul 9 λY_ Z_=>?_;refine Vg ?_;intro hHeld;clear Z_ Y_;refine Um ?_;go_wp2;have hput:=uM h Uv.o hl2 H5.o hc hi s _ _ rfl rfl (.pointer (Vq ((K.says m s (some c)).map (λx=>K.cb x.1)))) (.pointer (Vq ((K.says m s (some c)).map (·.2))));obtain⟨W6,Fk⟩:∃W6,W6=((((w5.setCell (VJ K.b (6+i*4)) ((VG (K.cb c)))).setCell (VJ K.b (6+i*4+1)) (.string s)).setCell (VJ K.b (6+i*4+2)) (.pointer (Vq ((K.says m s (some c)).map (λx=>K.cb x.1))))).setCell (VJ K.b (6+i*4+3)) (.pointer (Vq ((K.says m s (some c)).map (·.2))))):=Vx;rw[<- Fk]at hput ⊢
 have g0:W6.cell? (VJ (w.heap.size+1) 0)=some (.pointer none):=by
  rw[Fk,VD PO,VD PO,VD PO,VD PO];exact f0
 have g1:W6.cell? (VJ (w.heap.size+1) 1)=some (.pointer none):=by
  rw[Fk,VD PO,VD PO,VD PO,VD PO];exact f1
 refine ZQ (RD (z:=w.heap.size+1) results150 (.pointer (Vq ((K.says m s (some c)).map (λx=>K.cb x.1)))) (.pointer (Vq ((K.says m s (some c)).map (·.2)))) rfl ?_ ?_) rfl ⟨rfl,hput⟩
 . exact(VD PO).trans (Vr g0)
 . exact Vr ((VD PO).trans g1)):p:=h
theorem zz1(h:p:=by
 go_wp2_with fail;refine Uy ?_;refine ZT (S:=(λw'=>w'.cell? (VJ K.b 0)=some (.slice (some (VJ g 0)) K.cl.length Zs)/\w'.cell? (VJ g (c*4+3))=some (.slice (some (VJ mg 0)) nm RM)/\w'.cell? (VJ mg (i*2+1))=some (.slice q ws.length cc)/\w'.cell? (VJ w.heap.size 0)=some (.bool to.obj)/\w'.cell? (VJ w.heap.size 1)=some (VI to.n))) VE UG (λhHeld=>?_);refine KG ?_;refine Uh 15 ?_;refine CG ?_;refine Ul 11 λY_ Z_=>?_;go_simp;refine Ch.mono ?_;rintro e w3 ⟨rfl,rfl⟩
 try go_wp2_with fail
 refine Z_.go λhHeld=>?_;clear Z_ Y_
 try refine UE ?_
 refine Uh 12 ?_;refine Uh 13 ?_;refine Uh 14 ?_;refine Ur 18 ?_;refine Ul 19 λY_ Z_=>?_;refine Vg ?_;intro hHeld;clear Z_ Y_
 try refine UE ?_
 refine Ur 20 ?_;refine Nr ?_;rw[<- hY];clear hY;go_wp2_with fail;refine hrun.mono ?_;rintro e Z ⟨v,m',K',rfl,dc,Pf,Rm,d_⟩
 have vz:Vu w Z m K m' K':=⟨dc,HS.o.1.Ut.then Pf.Ut (λk hk e=>by
  rcases e with e|e|e
  . exact e
  . omega
  . have:=HY.o.2.2.2;have:=e.1
    omega),λk hk=>(Pf.lab k (ZY hk HS.o.1.Ut.size)).trans (HS.o.1.lab k hk),Pf.b.trans HS.o.1.b⟩
 have F3:K'.lab (w.heap.size+1)=.no:=(Pf.lab _ ahM).trans jg
 have hbz:Z.heap[w.heap.size+1]?=Y.heap[w.heap.size+1]?:=Pf.Ut.block _ ahM (λe=>by
  rcases e with e|e|e
  . exact e.1 jg
  . omega
  . have:=HY.o.2.2.2
    omega)
 have x0:Z.cell? (VJ (w.heap.size+1) 0)=some (.bool false):=(Z9 (a:=(VJ (w.heap.size+1) 0)) hbz).trans HY.o.1;have x1:Z.cell? (VJ (w.heap.size+1) 1)=some (VI 0):=(Z9 (a:=(VJ (w.heap.size+1) 1)) hbz).trans HY.o.2.1;have xf:∀o,Z.frozen? (VJ (w.heap.size+1) o)=false:=λo=>(Zr (a:=(VJ (w.heap.size+1) o)) hbz).trans (HY.o.2.2.1 o);obtain⟨x2,x3⟩:=RQ x0 x1 (.bool v.obj) (VI v.n)
 have HE:Hid (lJ w m K (m.send K.fu C_ to sel args fs) fs (.returned (Vl.val v)) ((Z.setCell (VJ (w.heap.size+1) 0) (.bool v.obj)).setCell (VJ (w.heap.size+1) 1) (VI v.n))):=by
  have hx1:=vz.told (z:=w.heap.size+1) IB F3 (.bool v.obj) (VI v.n);exact⟨v,m',K',rfl,hx1,Rm,by rw[HS.o.2];exact d_⟩
 clear dc Pf Rm d_ vz F3 hbz hrun;unfold Vl.val;go_wp2
 exact ZQ (RI results56 _ _ rfl x2 x3) rfl HE.o):p:=h
theorem zz2(h:p:=by
 refine ami ?_;intro _ _ _ D_;have D_:((s.size:Int)==3)=true:=Vo;have Dm:2<=s.size:=VH;clear h3;refine zr2 ?_;intro hxs O2 HP Sy B1 HM Ml PB Q6 f_ Y' a_ PJ hmc;obtain⟨TX,T6⟩:=f_;obtain⟨Tr,Tw⟩:=Y';obtain⟨Ts,TC⟩:=a_;clear hp hn U_ hm hm4 hm2 hm1 hc;go_enter func141,ntmps141;go_wp2_with fail;refine Lh ?_;intro w1 y_ T' hblk L_;go_wp2_with fail;refine CP ?_;intro w1 hb1 x hxy M_ P_ A_ u0 u1 u2 u3 u4 u5 uf;clear hb1 hblk L_ hxy;go_wp2_with fail;refine pO ?_;intro W3 hW3 R_ hb1;clear hW3 u0 u1 u2 u3 u4 u5 uf M_ P_ A_;obtain⟨q0,q1,q2,q3,q4,q5,qf⟩:=TL R_;clear R_;go_wp2_with fail;refine Ip ?_;rintro e w' ⟨rfl,rfl⟩;go_wp2_with fail;refine GR ?_;rintro e w' ⟨rfl,rfl⟩;go_wp2_with fail;refine ED ?_;rintro e w' ⟨rfl,rfl⟩;go_wp2_with fail;refine DV ?_;rintro e w' ⟨rfl,rfl⟩;go_wp2;refine ZQ (v:=.tuple #[.agg #[.int .u8 0,VI 0,.string ⟨#[]⟩,.string ⟨#[]⟩,.string ⟨#[]⟩,VI 0],.bool false]) JU rfl ⟨?_,?_⟩
 . rfl
 . exact SQ hb1 UM _ _ _ _ _ _):p:=h
theorem zz3(h:p:=by
 refine ami ?_;intro _ _ _ D_;have D_:((s.size:Int)==3)=false:=Vo;refine zr2 ?_;intro hxs O2 HP Sy B1 HM Ml PB Q6 f_ Y' a_ PJ hmc;obtain⟨TX,T6⟩:=f_;obtain⟨Tr,Tw⟩:=Y';obtain⟨Ts,TC⟩:=a_;clear hp hn U_ hm hm4 hm2 hm1 hc;go_enter func141,ntmps141;go_wp2_with fail;refine Lh ?_;intro w1 y_ T' hblk L_;go_wp2_with fail;refine CP ?_;intro w1 hb1 x hxy M_ P_ A_ u0 u1 u2 u3 u4 u5 uf;clear hb1 hblk L_ hxy;go_wp2_with fail;refine pO ?_;intro W3 hW3 R_ hb1;clear hW3 u0 u1 u2 u3 u4 u5 uf M_ P_ A_;obtain⟨q0,q1,q2,q3,q4,q5,qf⟩:=TL R_;clear R_;go_wp2_with fail;refine Ip ?_;rintro e w' ⟨rfl,rfl⟩;go_wp2_with fail;refine GR ?_;rintro e w' ⟨rfl,rfl⟩;go_wp2_with fail;refine ED ?_;rintro e w' ⟨rfl,rfl⟩;go_wp2_with fail;refine DV ?_;rintro e w' ⟨rfl,rfl⟩;go_wp2;refine ZQ (v:=.tuple #[.agg #[.int .u8 0,VI 0,.string ⟨#[]⟩,.string ⟨#[]⟩,.string ⟨#[]⟩,VI 0],.bool false]) JU rfl ⟨?_,?_⟩
 . rfl
 . exact SQ hb1 UM _ _ _ _ _ _):p:=h
theorem zz4(h:p:=by
 have D_:((s[0].toNat:Int)==97)=false:=Vo;refine uy ?_;intro _ D_;have Dm:2<=s.size:=VH;clear h3;refine zr2 ?_;intro hxs O2 HP Sy B1 HM Ml PB Q6 f_ Y' a_ PJ hmc;obtain⟨TX,T6⟩:=f_;obtain⟨Tr,Tw⟩:=Y';obtain⟨Ts,TC⟩:=a_;clear hp hn U_ hm hm4 hm2 hm1 hc;go_enter func141,ntmps141;go_wp2_with fail;refine Lh ?_;intro w1 y_ T' hblk L_;go_wp2_with fail;refine CP ?_;intro w1 hb1 x hxy M_ P_ A_ u0 u1 u2 u3 u4 u5 uf;clear hb1 hblk L_ hxy;go_wp2_with fail;refine pO ?_;intro W3 hW3 R_ hb1;clear hW3 u0 u1 u2 u3 u4 u5 uf M_ P_ A_;obtain⟨q0,q1,q2,q3,q4,q5,qf⟩:=TL R_;clear R_;go_wp2_with fail;refine Ip ?_;rintro e w' ⟨rfl,rfl⟩;go_wp2_with fail;refine GR ?_;rintro e w' ⟨rfl,rfl⟩;go_wp2_with fail;refine ED ?_;rintro e w' ⟨rfl,rfl⟩;go_wp2_with fail;refine DV ?_;rintro e w' ⟨rfl,rfl⟩;go_wp2;refine ZQ (v:=.tuple #[.agg #[.int .u8 0,VI 0,.string ⟨#[]⟩,.string ⟨#[]⟩,.string ⟨#[]⟩,VI 0],.bool false]) JU rfl ⟨?_,?_⟩
 . rfl
 . exact SQ hb1 UM _ _ _ _ _ _):p:=h
theorem zz5(h:p:=by
 have B2:Hid _:=hb2;clear hb2;refine zr2 ?_;intro hxs O2 HP Sy B1 HM Ml PB Q6 f_ Y' a_ PJ hmc;obtain⟨TX,T6⟩:=f_;obtain⟨Tr,Tw⟩:=Y';obtain⟨Ts,TC⟩:=a_;clear hp hn U_ hm hm4 hm2 hm1 hc;go_enter func141,ntmps141;go_wp2_with fail;refine Lh ?_;intro w1 y_ T' hblk L_;go_wp2_with fail;refine qm ?_;rintro e w1 ⟨⟨x,rfl,hxy⟩,hb2⟩;rw[Sy.o];simp only[Tm,XV];obtain⟨M_,P_,A_⟩:=Eh y_ hblk L_ hb2;obtain⟨u0,u1,u2,u3,u4,u5,uf⟩:=TL P_;clear hb2 hblk L_ hxy;go_wp2_with fail;refine pO ?_;intro W3 hW3 R_ hb1;clear hW3 u0 u1 u2 u3 u4 u5 uf M_ P_ A_;obtain⟨q0,q1,q2,q3,q4,q5,qf⟩:=TL R_;clear R_;go_wp2_with fail;refine(OB (s.extract 1 s.size) _ _ SE B2.o).mono ?_;rintro e w' ⟨rfl,rfl⟩;go_wp2_with fail;refine Ip ?_;rintro e w' ⟨rfl,rfl⟩;go_wp2_with fail;refine GR ?_;rintro e w' ⟨rfl,rfl⟩;go_wp2_with fail;refine ED ?_;rintro e w' ⟨rfl,rfl⟩;go_wp2_with fail;refine DV ?_;rintro e w' ⟨rfl,rfl⟩;go_wp2;refine ZQ (v:=.tuple #[.agg #[.int .u8 0,VI 0,.string ⟨#[]⟩,.string ⟨#[]⟩,.string ⟨#[]⟩,VI 0],.bool false]) JU rfl ⟨?_,?_⟩
 . rfl
 . exact SQ hb1 UM _ _ _ _ _ _):p:=h
theorem zz6(h:p:=by
 have D_:((s[0].toNat:Int)==97)=false:=Vo;refine aaX ?_;intro _ D_;refine zr2 ?_;intro hxs O2 HP Sy B1 HM Ml PB Q6 f_ Y' a_ PJ hmc;obtain⟨TX,T6⟩:=f_;obtain⟨Tr,Tw⟩:=Y';obtain⟨Ts,TC⟩:=a_;clear hp hn U_ hm hm4 hm2 hm1 hc;go_enter func141,ntmps141;go_wp2_with fail;refine Lh ?_;intro w1 y_ T' hblk L_;go_wp2_with fail;refine CP ?_;intro w1 hb1 x hxy M_ P_ A_ u0 u1 u2 u3 u4 u5 uf;clear hb1 hblk L_ hxy;go_wp2_with fail;refine pO ?_;intro W3 hW3 R_ hb1;clear hW3 u0 u1 u2 u3 u4 u5 uf M_ P_ A_;obtain⟨q0,q1,q2,q3,q4,q5,qf⟩:=TL R_;clear R_;go_wp2_with fail;refine Ip ?_;rintro e w' ⟨rfl,rfl⟩;go_wp2_with fail;refine GR ?_;rintro e w' ⟨rfl,rfl⟩;go_wp2_with fail;refine ED ?_;rintro e w' ⟨rfl,rfl⟩;go_wp2_with fail;refine DV ?_;rintro e w' ⟨rfl,rfl⟩;go_wp2;refine ZQ (v:=.tuple #[.agg #[.int .u8 0,VI 0,.string ⟨#[]⟩,.string ⟨#[]⟩,.string ⟨#[]⟩,VI 0],.bool false]) JU rfl ⟨?_,?_⟩
 . rfl
 . exact SQ hb1 UM _ _ _ _ _ _):p:=h
theorem zz7(h:p:=by
 refine zr2 ?_;intro hxs O2 HP Sy B1 HM Ml PB Q6 f_ Y' a_ PJ hmc;obtain⟨TX,T6⟩:=f_;obtain⟨Tr,Tw⟩:=Y';obtain⟨Ts,TC⟩:=a_;clear hp hn U_ hm hm4 hm2 hm1 hc;go_enter func141,ntmps141;go_wp2_with fail;refine Lh ?_;intro w1 y_ T' hblk L_;go_wp2_with fail;refine CP ?_;intro w1 hb1 x hxy M_ P_ A_ u0 u1 u2 u3 u4 u5 uf;clear hb1 hblk L_ hxy;go_wp2_with fail;refine pO ?_;intro W3 hW3 R_ hb1;clear hW3 u0 u1 u2 u3 u4 u5 uf M_ P_ A_;obtain⟨q0,q1,q2,q3,q4,q5,qf⟩:=TL R_;clear R_;rcases hx with hx|hx
 all_goals
  go_wp2_with fail;refine Ip ?_;rintro e w' ⟨rfl,rfl⟩;go_wp2_with fail;refine GR ?_;rintro e w' ⟨rfl,rfl⟩;go_wp2_with fail;refine ED ?_;rintro e w' ⟨rfl,rfl⟩;go_wp2_with fail;refine DV ?_;rintro e w' ⟨rfl,rfl⟩;go_wp2;refine ZQ (v:=.tuple #[.agg #[.int .u8 0,VI 0,.string ⟨#[]⟩,.string ⟨#[]⟩,.string ⟨#[]⟩,VI 0],.bool false]) JU rfl ⟨?_,?_⟩
  . rfl
  . exact SQ hb1 UM _ _ _ _ _ _):p:=h
theorem zz8(h:p:=by
 refine zr2 ?_;intro hxs O2 HP Sy B1 HM Ml PB Q6 f_ Y' a_ PJ hmc;obtain⟨TX,T6⟩:=f_;obtain⟨Tr,Tw⟩:=Y';obtain⟨Ts,TC⟩:=a_;clear hp hn U_ hm hm4 hm2 hm1 hc;go_enter func141,ntmps141;go_wp2_with fail;refine Lh ?_;intro w1 y_ T' hblk L_;go_wp2_with fail;refine CP ?_;intro w1 hb1 x hxy M_ P_ A_ u0 u1 u2 u3 u4 u5 uf;clear hb1 hblk L_ hxy;go_wp2_with fail;refine pO ?_;intro W3 hW3 R_ hb1;clear hW3 u0 u1 u2 u3 u4 u5 uf M_ P_ A_;obtain⟨q0,q1,q2,q3,q4,q5,qf⟩:=TL R_;clear R_;go_wp2_with fail;refine Ip ?_;rintro e w' ⟨rfl,rfl⟩;go_wp2_with fail;refine GR ?_;rintro e w' ⟨rfl,rfl⟩;go_wp2_with fail;refine ED ?_;rintro e w' ⟨rfl,rfl⟩;go_wp2_with fail;refine DV ?_;rintro e w' ⟨rfl,rfl⟩;go_wp2;refine ZQ (v:=.tuple #[.agg #[.int .u8 0,VI 0,.string ⟨#[]⟩,.string ⟨#[]⟩,.string ⟨#[]⟩,VI 0],.bool false]) JU rfl ⟨?_,?_⟩
 . rfl
 . exact SQ hb1 UM _ _ _ _ _ _):p:=h
theorem zz9(h:p:=by
 have hxs:(s.extract 1 s.size).size<=119:=Vo;refine afL ?_;intro O2 HP Sy B1;have HM:Hid _:=hm;have Ml:Hid _:=hm4;have PB:Hid _:=hm2;refine zr7 ?_;intro PJ hmc TX T6 Tr Tw Ts TC;clear hp hn U_ hm hm4 hm2 hm1 hc;go_enter func141,ntmps141;go_wp2_with fail;refine Lh ?_;intro w1 y_ T' hblk L_;go_wp2_with fail;refine DR ?_;intro w2 hb1 x hxy M_ P_ A_ u0 u1 u2 u3 u4 u5 uf;clear hb1 hblk L_ hxy;go_wp2_with fail;refine pO ?_;intro W3 hW3 R_ hb1;clear hW3 u0 u1 u2 u3 u4 u5 uf M_ P_ A_;obtain⟨q0,q1,q2,q3,q4,q5,qf⟩:=TL R_;clear R_;go_wp2_with fail;refine Ip ?_;rintro e w' ⟨rfl,rfl⟩;go_wp2_with fail;refine GR ?_;rintro e w' ⟨rfl,rfl⟩;go_wp2_with fail;refine ED ?_;rintro e w' ⟨rfl,rfl⟩;go_wp2;refine ZQ (v:=.tuple #[.agg #[.int .u8 s[0].toNat,VI m2,.string ⟨#[]⟩,.string ⟨#[]⟩,.string ⟨#[]⟩,VI 0],.bool true]) JU rfl ⟨?_,?_⟩
 . rfl
 . exact SQ hb1 UM _ _ _ _ _ _):p:=h
theorem aou(h:p:=by
 refine Uh 19 ?_;refine Ur 20 ?_;refine Ze (i:=21) (oi:=_) (v:=_) rfl VE VE VE Nh Gu Ox ?_;refine MC ?_;refine Ze (i:=22) (oi:=_) (v:=_) rfl VE VE VE Nh Gu Ox ?_;refine MC ?_;refine Ze (i:=23) (oi:=_) (v:=_) rfl VE VE VE Nh Gu Ox ?_;refine MC ?_;refine Ze (i:=24) (oi:=_) (v:=_) rfl VE VE VE Nh Gu Ox ?_;refine MC ?_;refine Ur 25 ?_;refine Ul 26 λY_ Z_=>?_;refine Vg ?_;intro hHeld;clear Z_ Y_
 try refine UE ?_
 refine Ur 27 ?_;refine Nr ?_;go_wp2;refine ZQ (v:=.tuple #[.agg #[.int .u8 99,VI 0,.string y1,.string y0,.string y2,VI 0],.bool false]) AY rfl ⟨QX ⟨99,0,q,p,r⟩ false ?_ ?_,?_⟩
 . rw[HR.o,<- E0.o,<- E1.o,<- E2.o];simp[B0.o,B1.o,B2.o]
 . rw[<- E0.o,<- E1.o,<- E2.o];rfl
 . exact((((((L_.setCell UM _).setCell UM _).setCell UM _).setCell UM _).setCell UM _).setCell UM _).drew):p:=h
theorem adJ(h:p:=by
 refine Pg ?_;go_wp2;have d0:=W_.o.to.rd.c0;have d1:=W_.o.to.rd.c1;have hq1:(0:Int)<=(i:Int):=VH;have hq1:(i:Int)<=(i:Int)+1:=VH;have hq1:(i:Int)+1<=s.size:=VH;refine Uy ?_;refine ZT (S:=(λw'=>w'.cell? (VJ b 0)=some (.string s)/\w'.cell? (VJ b 1)=some (VI ((i+1:Nat):Int)))) VE UG (λhHeld=>?_);refine zC ?_;refine aaP ?_;intro Y_ Z_;refine(JA (s.extract i (i+1)) _ IH.o ahy).mono ?_;rintro e w1 ⟨rfl,hb⟩;rw[zj.o];have W_:Hid _:=(W_.o).drew.below hb;clear d0 d1 hb;refine ajI ?_;intro _ _ _ _ _ z0 zf d0 d1
 try go_wp2_with fail
 refine Z_.go λhHeld=>?_;clear Z_ Y_;refine La ?_;refine Ul 12 λY_ Z_=>?_;refine Vg ?_;intro hHeld;clear Z_ Y_;refine Um ?_;go_wp2;refine iC ?_
 exact ajD):p:=h
theorem am2(h:p:=by
 obtain⟨qb,qk⟩:=q;have dz:w6.cell? (VJ rb 24)=some (VG qb):=h6.run.ct;have hne:=ajW h6.LY.1.raw.Vb hc;have h7:=h6.look (Df:=NoD) (λk e=>(e:False).elim)
 have cG:Hid (alB w0 m0 K0 rb R qb gj w6):=⟨m',K',fuel',qk,bs',g,gs,h7,i_,VH,aiu,WD⟩
 have HO7:Hid (FOn w0 m0 K0 rb R gj w6):=⟨m',K',fuel',_,_,h7,i_,VH,aiu,WD⟩
 clear h6 h7 hc hg i_ WD;by_cases LN:qb=fb
 . subst LN;have ya:(binOp .neq 172 (VG qb) (VG qb)).run prog w6=.ok (.bool false) w6:=by rw[hne];simp
   clear hne;refine Z_.go λhHeld=>?_;clear Z_ Y_;refine DT ?_;go_wp2
   go_roundg gj
   case measure=>omega
   case rel=>exact⟨cG.o,VH⟩
 . have ya:(binOp .neq 172 (VG qb) (VG fb)).run prog w6=.ok (.bool true) w6:=by rw[hne];simp[LN]
   clear hne;refine Z_.go λhHeld=>?_;clear Z_ Y_;refine DT ?_;go_wp2
   go_roundg gj
   case measure=>omega
   case rel=>exact .inl HO7.o):p:=h
theorem dH(h:p:=by
 have hrun:=To.sent T1 rfl;have Pf:r=(Vl.zero,K'.en,0,m'):=alX;subst Pf;obtain⟨y2,y3⟩:=RQ a0 a1 (.bool false) (VI 0);have HZ:Hid (Vu w ((Y.setCell (VJ (w.heap.size+1) 0) (.bool false)).setCell (VJ (w.heap.size+1) 1) (VI 0)) m K m' K'):=HY.o.1.told IB HY.o.2 _ _;obtain⟨en,hen⟩:∃en,en=K'.en:=Vx;have pn:Hid _:=hen;rw[<- hen]at UV KB;clear T1 hrun hr0 hen;go_wp2_with fail;refine Uy ?_;refine ZT (S:=(λw'=>w'.cell? (VJ K.b 4)=some (VI en))) VE UG (λhHeld=>?_);refine ado ?_;intro hHeld;refine Uh 6 ?_;refine Ur 7 ?_;refine Nr ?_;go_wp2_with fail
 exact ZQ (OD results28 _ _ _ _ rfl rfl rfl y2 y3) rfl ano):p:=h
theorem an8(h:p:=by
 refine(tK hW m cb cm c0 sel hm hc0 ut hQ hR).mono ?_;rintro e W3 ⟨rfl,tA,R4,hW3,Kp,hc3,hd4⟩;have hbW:=(OP.block b Sp.tab.Vb.lt h.bn).trans (hc1.block b h.tab.Vb.lt (λe=>W7 e.symm));refine⟨rfl,l,ps,tA,R4,hW3,?_,⟨Z2.l,λp q e=>Z2.arr p q (Kp p q e)⟩,?_,(UK.of_block hbW).trans hd4⟩
 . obtain⟨es',db,hx,_⟩:=id pE;refine pE.same (hc3.block _ pE.lt (λe=>?_));rcases e with e|e
   . exact W7 e
   . exact TT hW.Ru hx e
 . refine((hc1.mono (λj _ e=>.inr (.inl e))).then OP (λj _ e=>.inr (.inr e))).then hc3 (λj hj e=>?_);rcases e with e|e
   . exact .inl e
   . have hx:=Td.old (K:=K) (N:=w.heap.size) (l:=l) (ps:=ps) (pm:=pm) (R:=K.R) EP Z2.l Z2.arr;rcases hx with hx|hx
     . exact .inr (.inr hx)
     . omega):p:=h
theorem am8(h:p:=by
 refine Gg ?_;intro HH L_ Ng Ma;clear E_ TH;clear h;go_enter func109,ntmps109;go_wp2;refine Ot ?_;intro G HR HG;go_wp2_with fail;refine vP ?_;intro w1 X_;refine ak6 ?_;intro Bb sI hz oq _ _ _ _ _ z0 zf;clear X_ hz;go_wp2;refine HR.o _ _ _ ?_;refine ZQ (Rt results109 _ _ _ _ _ rfl ai7) rfl ?_
 exact⟨rfl,(Bb.o.N8 L_ UM _ _ _ _ _).alloc _⟩):p:=h
theorem amL(h:p:=by
 have hc:∀i x o,ws[i]?=some x->w'.cell? (VJ g o)=w.cell? (VJ g o):=λi x o hx=>hb.cell (p:=(VJ g o)) (by
  have:1<=ws.length:=by have:=(Z7.1 hx).1;omega
  have:=h.lt this;show g<B
  omega)
 exact⟨h.head,λe=>ZY (h.lt e) hb.size,λi x hx=>(hc i x _ hx).trans (h.c0 i x hx),λi x hx=>(hc i x _ hx).trans (h.c1 i x hx),λi x hx=>(hc i x _ hx).trans (h.c2 i x hx),
  λi x hx=>(hc i x _ hx).trans (h.c3 i x hx),λi x hx=>(hc i x _ hx).trans (h.c4 i x hx),λi x hx=>(hc i x _ hx).trans (h.c5 i x hx)⟩):p:=h
theorem anc(h:p:=by
 skip;by_cases hb:(slots:Int)<=xn
 . skip;go_wp2
   go_ret2
   exact⟨7,k,rfl,.inl ⟨k,hkn,rfl,.inr (HS.o.2 VH),G'.o,λh=>by have:=HA.o.1 h;omega,λ_=>rfl⟩,ZR _ _⟩
 . skip;go_wp2
   go_round
   case rel=>
    refine⟨k+1,Uu,VH,λj hj=>?_⟩;by_cases e:j=k
    . subst e;rintro(h|h)
      . have:=HA.o.1 h;omega
      . have:=HS.o.1 h;omega
    . exact G'.o j VH
   case measure=>simp[intOf]<;>omega):p:=h
theorem aaF(h:p:=by
 have hrun:=To.sent T1 rfl;have Pf:r=(v,0,0,m'):=ama;subst Pf;obtain⟨y2,y3⟩:=RQ a0 a1 (.bool v.obj) (VI v.n);have HZ:Hid (Vu w ((Y.setCell (VJ (w.heap.size+1) 0) (.bool v.obj)).setCell (VJ (w.heap.size+1) 1) (VI v.n)) m K m' K'):=HY.o.1.told IB HY.o.2 _ _;rw[he0]at UV;clear T1 hrun he0 hr0;go_wp2_with fail
 exact ZQ (OD results28 _ _ _ _ rfl rfl rfl y2 y3) rfl am7):p:=h
theorem aoD(h:p:=by
 rcases e with e|e|e|e|e|e
 . exact .inl (.inl e)
 . exact .inl vJ
 . exact .inl EP
 . rcases e with e|e|e|e
   . exact .inl (.inr (.inr (.inr (.inl (.inl e)))))
   . exact .inl (.inr (.inr (.inr (.inl vJ))))
   . rcases hpb k e with e|e
     . exact .inl (.inr aoN)
     . exact .inr e
   . exact .inl (.inr (.inr (.inr (.inl aeg))))
 . exact .inl mM
 . exact .inl aaN):p:=h
theorem anH(h:p:=by
 rintro e w1 ⟨rfl,X_⟩;rw[wT.o]at X_ ⊢;have J_:=J_.o.call X_;clear z0 z1 z2 z3 z4 z5 zf u0 u1 u2 u3 u4 u5 uf;refine IV ?_;intro z0 z1 z2 z3 z4 z5 zf u0 u1 u2 u3 u4 u5 uf;have N1:Hid _:=J_.bV (.string (VF nq));clear J_ X_;go_wp2;refine aeP ?_
 exact aiC):p:=h
theorem aj6(h:p:=by
 refine JM ?_;split
 . rename_i b a r hs;by_cases ho:(a.obj||b.obj)=true
   . rw[ZU ho];exact h
   . rw[ZX ho];refine LP h LW (a1 LW uI mO (λy hy=>?_)) I' C';rcases ZM.1 hy with rfl|hy
     . exact jZ m (qp _)
     . exact hf.st y kR
 . exact h):p:=h
theorem amx(h:p:=by
 rw[ht]at TE;have hr0:=eT.o
 rw[ZU (by
  rw[V8]
  exact⟨⟨true,vn⟩,Zo _ (ZK HV.o),by simp[ht]⟩)]at hr0
 subst hr0;go_wp2_with fail;refine TE.mono ?_;refine Sl ?_;go_wp2
 exact ZQ (OD results28 _ _ _ _ rfl rfl rfl y0 y1) rfl abQ):p:=h
theorem amW(h:p:=by
 rw[hcs,WY]at hc;refine ahc ?_;intro Ss tQ;rw[tQ,Fy]at I1;unfold TM at I1;injection I1 with I1;injection I1 with I1;injection I1 with I1 _ _
 exact absurd I1.symm e1):p:=h
theorem al0(h:p:=by
 skip;by_cases hb:(ws.length:Int)<xn
 . skip;go_wp2
   go_ret2
   exact amr
 . skip;go_wp2
   go_round
   case rel=>
    refine⟨k+1,Uu,VH,λj hj=>?_⟩;by_cases e:j=k
    . subst e;rintro(h|h)
      . have:=HA.o.1 h;omega
      . have:=HS.o.1 h;omega
    . exact G'.o j VH
   case measure=>simp[intOf]<;>omega):p:=h
theorem aov(h:p:=by
 clear h hok;go_enter func21,ntmps21;go_wp2_with fail;rw[<- hW];clear hW;refine Z3.mono ?_;refine Sl ?_;go_wp2;obtain⟨y0,y1⟩:=RQ z0 z1 (.bool false) (VI 0)
 exact ZQ (O1 results21 _ _ _ rfl rfl y0 y1) rfl ⟨rfl,SG.below HH.o (pW HB.o UM _ _)⟩):p:=h
theorem alL(h:p:=by
 clear hbad;go_enter func28,ntmps28;go_wp2_with fail;rw[<- hW];clear hW;refine CB ?_;go_wp2_with fail;refine hag.mono ?_;refine Sl ?_;go_wp2
 exact ZQ (OD results28 _ _ _ _ rfl rfl rfl y0 y1) rfl abQ):p:=h
theorem alZ(h:p:=by
 have hno:∀(i:Nat) (x:Kn.W×Nat),d.ws[i]?≠some x:=λi x hx=>by have:=(Z7.1 hx).1;omega
 exact⟨λh=>absurd h h1,λh=>absurd h h1,λi x hx=>absurd hx EH,λi x hx=>absurd hx EH,λi x hx=>absurd hx EH,λi x hx=>absurd hx EH,λi x hx=>absurd hx EH,λi x hx=>absurd hx EH⟩):p:=h
theorem anR(h:p:=by
 exact⟨some (VJ g 0),g,cap,rfl,⟨λ_=>rfl,λ_=>(Z5.1 hg).1,λi x hx=>key i x 0 _ hx VH rfl,λi x hx=>key i x 1 _ hx VH rfl,λi x hx=>key i x 2 _ hx VH rfl,
  λi x hx=>key i x 3 _ hx VH rfl,λi x hx=>key i x 4 _ hx VH rfl,λi x hx=>key i x 5 _ hx VH rfl⟩⟩):p:=h
theorem anv(h:p:=by
 intro d k hk;rw[SL]at hk;by_cases e:c=d
 . rw[ZU e]at hk
   cases hd:m.kl[d]? with
   | none=>rw[hd]at hk;cases hk
   | some k0=>rw[hd]at hk;simp at hk;subst hk;exact⟨k0,rfl,rfl,rfl,rfl,.inl ⟨e,rfl⟩⟩
 . rw[ZX e]at hk
   exact⟨k,hk,rfl,rfl,rfl,.inr ⟨e,rfl⟩⟩):p:=h
theorem aoq(h:p:=by
 clear hj;go_enter func24,ntmps24;go_wp2_with fail;rw[<- hW];clear hW;refine zA ?_;go_wp2;obtain⟨y0,y1⟩:=RQ z0 z1 (.bool false) (VI 0)
 exact ZQ (O1 results24 _ _ _ rfl rfl y0 y1) rfl acR):p:=h
theorem aoa(h:p:=by
 refine⟨T_,hpl,λp hp=>?_,λp hp=>?_,hch⟩
 . have:TM p∈es.toList.map (·.key):=by rw[GG];exact Zy.2 apV
   obtain⟨e,he,zP⟩:=Zy.1 this;exact hdone e he p zP (zy hl0 he)
 . rcases WK p with h|h
   . exact h
   . exact absurd h.1 hp):p:=h
theorem ao3(h:p:=by
 have d0:=hcm.2.2.1
 try go_wp2_with fail
 refine Z_.go λhHeld=>?_;clear Z_ Y_
 try refine UE ?_
 have Rb:=Ee e0 he w2;refine Ul 9 λY_ Z_=>?_;go_simp;refine Rb.mono ?_;rintro e w3 ⟨rfl,rfl⟩
 exact⟨rfl,rfl,K',hcm.1.Qj⟩):p:=h
theorem anl(h:p:=by
 obtain⟨cur,V_⟩:=h.Uc.img;rw[<- e]at V_;rcases hcs with hc|hc
 . rw[V_]at hc;injection hc with hc;injection hc with _ hc _;revert hc;decide
 . rw[V_]at hc;injection hc with hc
   injection hc with _ hc _;revert hc;decide):p:=h
theorem aog(h:p:=by
 rw[WX,OS.o,WY,Y3];intro e;rw[V8]at e;obtain⟨u,hu,hu2⟩:=e;obtain⟨k,hk⟩:=Yd hu;have:=HG.o k u (Z7.1 hk).1 hk;rw[hu2]at this
 cases this):p:=h
theorem rM(h:p:=by
 rintro e w1 ⟨rfl,j,hj,X_,hjn⟩;have W_:Hid _:=W_.o.call X_;clear X_;have q:=W_.o.al;have HJ:Hid _:=hjn;clear hjn;go_wp2;refine iC ?_
 exact ah0):p:=h
theorem amF(h:p:=by
 have hv:(zeroValue 64).run prog w=.ok (.agg #[Value.pointer none,.string ⟨#[]⟩,.pointer none,.pointer none]) w:=zeroValue64 w;rw[hm]at hst hzs ⊢
 simp[Builtin.clear_,Zu underlying139,hv,Value.cells,hzs,hst]):p:=h
theorem ang(h:p:=by
 refine Pg ?_;go_wp2;refine HR.o _ _ _ ?_;refine ZQ (Rt results109 _ _ _ _ _ rfl ai7) rfl ?_
 exact⟨rfl,_,ale,(Bb.o.N8 L_ UM _ _ _ _ _).alloc _⟩):p:=h
theorem anZ(h:p:=by
 clear h h0 hf hv hok Wm hz;go_enter func16,ntmps16;go_wp2_with fail;refine O_.mono ?_;rintro e w' ⟨rfl,rfl⟩;go_wp2;refine aaZ ?_
 exact⟨rfl,K,W_.o⟩):p:=h
theorem anS(h:p:=by
 subst hdr;clear hr hsl;go_enter func23,ntmps23;go_wp2_with fail;refine hcall.mono ?_;rintro e w' ⟨rfl,rfl⟩;go_wp2;refine aaZ ?_
 exact⟨rfl,HB.o⟩):p:=h
theorem amk(h:p:=by
 exact⟨m,_,rfl,hs2.rk,(HQ.o.run.trans (HE.o.run z fb)).trans (hs2.run z fb),ZN _,.inr ⟨by show (3:Int)≠0;omega,by rcases hkk with rfl|rfl|rfl|rfl<;>(simp[VA];exact To.refl _)⟩⟩):p:=h
theorem aj7(h:p:=by
 exact⟨λh=>absurd h h1,λh=>absurd h h1,λi x hx=>absurd hx EH,λi x hx=>absurd hx EH,λi x hx=>absurd hx EH,λi x hx=>absurd hx EH,λi x hx=>absurd hx EH,λi x hx=>absurd hx EH⟩):p:=h
theorem amP(h:p:=by
 by_cases hd0:d=0
 . obtain⟨ms,hm⟩:=h.any;rw[hd0,hm]at hk;injection hk with hk;rw[<- hk]at hb;cases hb
 . obtain⟨b',e1,e2,_⟩:=h.up d k hk hd0;rw[e1]at hb;injection hb with hb
   omega):p:=h
theorem anm(h:p:=by
 by_cases e:j=i
 . subst e;rw[ho _ _ _ _ VH,ho _ _ _ _ VH,ho _ _ _ _ VH,Vr (h.c0 j hj)];simp
 . rw[ho _ _ _ _ VH,ho _ _ _ _ VH,ho _ _ _ _ VH,ho _ _ _ _ VH,h.c0 j hj]
   simp[e]):p:=h
theorem am9(h:p:=by
 refine ZQ (RI results97 _ _ rfl y0 y1) rfl ⟨v',m',K',e1,(Vu.below e2 (ZR _ _).drew).rk,e3.trans ((Vu.below e2 (ZR _ _).drew).run _ _),e4,e5⟩):p:=h
theorem afb(h:p:=by
 refine Pg ?_;go_wp2;refine HR.o _ _ _ ?_;refine ZQ (Rt results109 _ _ _ _ _ rfl apa) rfl ?_
 exact aoK):p:=h
theorem afT(h:p:=by
 refine Pg ?_;go_wp2;refine aeP ?_
 exact amf):p:=h
theorem apH(h:p:=by
 refine H3.o.top h0 (f':={f with pc:=f.pc+1}) ?_ ?_ rfl rfl
 . rw[hW3];exact(Vt.refl _ (λk=>k=fb)).setCell _ _ (λ_=>rfl)
 . rw[hW3]
   exact H3.o.LY.1.raw.goto (f.pc+1)):p:=h
theorem apv(h:p:=by
 rw[hW1];have:=(Z4 (w.alloc (.cells #[.pointer (Vq (C_.map K.cb)),.string s] 59)) (.cells #[.bool to.obj,VI to.n] 33)).1;rw[ZJ]at this
 exact this):p:=h
theorem anY(h:p:=by
 have h1:=hcl.at_ c _ (Z8 hc);refine⟨TK hP h1 Vz Vz,λe=>?_⟩;rw[e,S3]at h1;injection h1 with h1;injection h1 with _ h1 _;revert h1
 decide):p:=h
theorem ao8(h:p:=by
 refine⟨#[],pm,(Z4 w _).1,eV.o.same (λk hk=>ZV w _ k (nh.o k hk)),λe _ p _ hc=>by simp at hc,λp=>.inl rfl,(Vt.refl w _).alloc _⟩):p:=h
theorem apd(h:p:=by
 rcases hf with⟨j',hj',ea,hb,_,h1,h7⟩|⟨_,h6,_⟩
 . by_cases ha:TJ (Vh src).1 (U6 sel) j'
   . have:=h1 ha;omega
   . have:=h7 ha;omega
 . omega):p:=h
theorem apT(h:p:=by
 have hx:∀k,k<W1.heap.size->¬U2 m K k->W3.heap[k]?=W1.heap[k]?:=λk e1 e2=>(hc3.block k VH VH).trans ((hst.Ut.block k Vo e2).trans (hBb.block k e1))
 exact hx):p:=h
theorem al2(h:p:=by
 have hp2:tmps[p]?.getD undef=(VG z):=adi;have hk2:tmps[k]?.getD undef=v:=amu;have hl2:tmps[l]?.getD undef=u:=by rw[<- hl];simp
 simp[results,h,hp2,hk2,hl2,go_sem,z0,z1]):p:=h
theorem am4(h:p:=by
 by_cases e:j=i
 . subst e;rw[ho _ _ _ _ VH,ho _ _ _ _ VH,Vr anL];simp
 . rw[ho _ _ _ _ VH,ho _ _ _ _ VH,ho _ _ _ _ VH,ho _ _ _ _ VH,h.c1 j hj]
   simp[e]):p:=h
theorem anh(h:p:=by
 simp only[WU,Zq];constructor
 . rintro(h|h)
   . exact .inl VH
   . exact .inr h
 . rintro(h|h)
   . exact .inl VH
   . exact .inr h):p:=h
theorem anj(h:p:=by
 refine⟨k+1,Uu,VH,λj hj=>?_⟩;by_cases e:j=k
 . subst e;rintro(h|h)
   . have:=HA.o.1 h;omega
   . have:=HS.o.1 h;omega
 . exact G'.o j VH):p:=h
theorem ao4(h:p:=by
 have:v=[]:=by
  have:=YV List.length hv;rw[Zw]at this;exact Yq VH
 rw[this,XR]at hv;rw[hv]
 exact hc):p:=h
theorem anO(h:p:=by
 intro d e k l hk hl hkl;obtain⟨k0,h0,hn,_⟩:=get d k hk;obtain⟨l0,h1,Z1,_⟩:=get e l hl
 exact h.once d e k0 l0 h0 h1 (by rw[<- hn,<- Z1];exact hkl)):p:=h
theorem anT(h:p:=by
 go_wp2;refine yM ?_
 exact⟨rfl,H,_,va,A,((ak4 hi1.o VH HR.o HO.o).mono uq),λ_ _ h=>h,ZN _⟩):p:=h
theorem aoi(h:p:=by
 by_cases e:j=i
 . subst e;rw[ho _ _ _ _ VH,Vr amj];simp
 . rw[ho _ _ _ _ VH,ho _ _ _ _ VH,ho _ _ _ _ VH,ho _ _ _ _ VH,h.c2 j hj]
   simp[e]):p:=h
theorem aoQ(h:p:=by
 refine⟨5,rfl,VH,hb.alloc VH _,λj hj=>?_⟩;by_cases ej:j=4
 . subst ej;intro h;injection h with h;exact HE.o h.symm
 . exact G'.o j VH):p:=h
theorem anw(h:p:=by
 refine⟨4,rfl,VH,hb.alloc VH _,λj hj=>?_⟩;by_cases ej:j=3
 . subst ej;intro h;injection h with h;exact HE.o h.symm
 . exact G'.o j VH):p:=h
theorem anB(h:p:=by
 refine⟨3,rfl,VH,hb.alloc VH _,λj hj=>?_⟩;by_cases ej:j=2
 . subst ej;intro h;injection h with h;exact HE.o h.symm
 . exact G'.o j VH):p:=h
theorem amQ(h:p:=by
 refine⟨2,rfl,VH,hb.alloc VH _,λj hj=>?_⟩;by_cases ej:j=1
 . subst ej;intro h;injection h with h;exact HE.o h.symm
 . exact G'.o j VH):p:=h
theorem ao5(h:p:=by
 refine⟨1,rfl,VH,hb.alloc VH _,λj hj=>?_⟩;by_cases ej:j=0
 . subst ej;intro h;injection h with h;exact HE.o h.symm
 . exact G'.o j VH):p:=h
theorem apw(h:p:=by
 have:en.key∈es.toList.map (·.key):=Zy.2 ⟨en,UB,rfl⟩;rw[GG]at this;obtain⟨q,hq,e⟩:=Zy.1 this
 exact⟨q,hq,e.symm⟩):p:=h
theorem aoI(h:p:=by
 refine⟨none,0,0,by rw[h0],⟨λe=>VH,λe=>VH,?_,?_,?_,?_,?_,?_⟩⟩
 all_goals
  intro i x hx;have:=(Z7.1 hx).1
  omega):p:=h
theorem amN(h:p:=by
 have:=(Z4 (w.alloc (.cells #[.bool to.obj,VI to.n] 33)) (.cells #[.bool false,VI 0] 33)).1;rw[ZJ]at this
 exact this):p:=h
theorem aoJ(h:p:=by
 rintro k ⟨p,s,hps,e|e⟩
 . subst e;exact(hP.Vb hps).lt
 . obtain⟨cr,hcr⟩:=hP.Qz hps e
   exact(Z5.1 hcr).1):p:=h
theorem aoB(h:p:=by
 refine Sl ?_;go_wp2
 exact ZQ (OD results28 _ _ _ _ rfl rfl rfl y0 y1) rfl abQ):p:=h
theorem an9(h:p:=by
 refine LP h LW (a1 LW uI mO (λy hy=>?_)) I' C';rcases ZM.1 hy with rfl|hy
 . exact akl m _
 . exact hf.st y kR):p:=h
theorem apM(h:p:=by
 have hx:∀k,k<W1.heap.size->¬U2 m K k->W3.heap[k]?=W1.heap[k]?:=λk e1 e2=>(hb3.block k VH).trans (hst.Ut.block k e1 e2)
 exact hx):p:=h
theorem aom(h:p:=by
 by_cases e:j=i
 . subst e;rw[Vr aoM];simp
 . rw[ho _ _ _ _ VH,ho _ _ _ _ VH,ho _ _ _ _ VH,ho _ _ _ _ VH,h.c3 j hj]
   simp[e]):p:=h
theorem anp(h:p:=by
 obtain⟨jb,rfl,h4,h5⟩:=h.inn t u hu;by_cases e:jb=ib
 . subst e;exact⟨jb,rfl,by simpa using hp,h5⟩
 . exact⟨jb,rfl,apr,h5⟩):p:=h
theorem ao1(h:p:=by
 by_cases hv2:v.ownBlock=some k/\w.heap.size<=k
 . rw[hsz];exact(ho.lt k hv2.1).2
 . rw[ZX hv2]at e
   exact absurd (h.lt k e) hk):p:=h
theorem amS(h:p:=by
 rw[h]at hv;have e:=YV List.length hv;rw[Zh,VB,Zw]at e;have:=List.length_pos_iff.2 hne
 omega):p:=h
theorem al8(h:p:=by
 rw[hr2];unfold Nz;rw[hd,hf,ZX (λh=>hx h.2)];unfold LH;rw[hf,ZX VH];unfold Mc;rw[hf,ZX VH]
 exact(h8 VH).1):p:=h
theorem akv(h:p:=by
 rw[Ss]at hb;simp only at hb ⊢;by_cases he:e=0
 . rw[ZU he];exact LP hb.1 hb.2 apN I' C'
 . rw[ZX he]
   exact hb.1):p:=h
theorem afS(h:p:=by
 rw[OG _ _ Vy Vy Vz (.inr aaW),ZX ao7,ZX ao7,ZX Vz,ZX Vz,ZX Vz];rw[<- Y7 h]
 rfl):p:=h
theorem al3(h:p:=by
 obtain⟨cs,e,hz⟩:=h;refine⟨cs.setIfInBounds o v,?_,by simp[hz]⟩;simp only[World.setCell,Zz,ZU,e]
 rfl):p:=h
theorem anA(h:p:=by
 by_cases h0:k=w.heap.size
 . omega
 . by_cases h2:k=w.heap.size+1
   . omega
   . rw[ZX h0,ZX h2]at e
     exact absurd rfl e):p:=h
theorem ant(h:p:=by
 rw[SL];by_cases e:c0=c
 . rw[ZU e,hk];exact⟨_,rfl,rfl,rfl,rfl⟩
 . rw[ZX e]
   exact⟨k,hk,rfl,rfl,rfl⟩):p:=h
theorem anu(h:p:=by
 have:=(Z7.1 hv).1
 exact⟨(fo _ _ _ _ VH).trans (h.ca i v hv).1,(fo _ _ _ _ VH).trans (h.ca i v hv).2⟩):p:=h
theorem amy(h:p:=by
 rw[hi]at hs;simp at hs;have h:=N7 (P:=prog) (w:=w) underlying57 hi VH hp hq;simp only[binOp]
 simp[h]):p:=h
theorem anW(h:p:=by
 rw[hg]at T9;obtain⟨rfl,K',GO⟩:=T9;have hR:=HX.o.2.2.1;rw[hg,run_stop]at hR;subst hR
 exact⟨rfl,rfl,K',GO⟩):p:=h
theorem ao9(h:p:=by
 refine⟨x,?_,?_⟩
 . rw[he,h];cases b<;>rfl
 . intro y hy;rw[h]at hy;cases b
   . cases hy
   . injection hy):p:=h
theorem aor(h:p:=by
 refine Frs.same (m:=m) Ji iV bs fs h.homes h.LY (λp hp=>hch.block p.1 (h.lo p.1 ig).2.1 (λe=>hnd.1 ac0))):p:=h
theorem aoe(h:p:=by
 rw[QK (QK hb _ _) _ _,show N-g=N-(g+1)+1 from VH,<- dG g HG.o.2.2.2.2.2,Ej _ _ _ Vo]
 simp):p:=h
theorem anP(h:p:=by
 funext d;unfold Im.tot Im.UY;simp only[Y4];by_cases e:c=d
 . subst e;rw[hk];simp
 . simp[e]):p:=h
theorem alm(h:p:=by
 have hp2:tmps[p]?.getD undef=(VG z):=adi;have hk2:tmps[k]?.getD undef=v:=amu
 simp[results,h,hp2,hk2,go_sem,z0,z1]):p:=h
theorem agz(h:p:=by
 go_wp2_with fail;rw[<- hW1];clear hW1;refine hcall.mono ?_;rintro e w2 ⟨rfl,hc2⟩;clear hcall;go_wp2
 exact ahs):p:=h
theorem amg(h:p:=by
 obtain⟨cs,e,hz⟩:=h.blk;refine⟨cs[o]' VH,?_⟩;simp only[World.cell?,e]
 exact Xx VH):p:=h
theorem anb(h:p:=by
 rw[Na]at e;by_cases e2:s=VF x.1.sel
 . rw[ZU e2]at e;cases e
 . rw[ZX e2]at e
   exact e):p:=h
theorem aoS(h:p:=by
 have hx1:∀p,Reg l ps sel p↔p∈ps ib:=λp=>⟨λ⟨jb,e,h⟩=>apO,λh=>⟨ib,hl,h⟩⟩
 exact hx1):p:=h
theorem aoZ(h:p:=by
 split at h
 . split at h
   . injection h with h;subst h;exact key _ _ _ _ Vy
   . cases h
 . cases h):p:=h
theorem abK(h:p:=by
 exact((((((L_.setCell UM _).setCell UM _).setCell UM _).setCell UM _).setCell UM _).setCell UM _).drew):p:=h
theorem ak0(h:p:=by
 obtain⟨⟨d,k⟩,e1,e2⟩:=Yl.1 hx;subst e2
 exact fH hm (PI _ _ _ _ e1).1 hc):p:=h
theorem ae6(h:p:=by
 refine⟨?_,?_⟩
 . rw[HE.o.1,<- Gj];rfl
 . rw[<- HE.o.2]
   exact(HT.o.drewN _).drewN _):p:=h
theorem anr(h:p:=by
 have hx:Sg Dd w0 m0 K0 rb W3 m' K' fuel ((fb,mk)::bs) (f::fs):=by rw[hW1];exact h2.below zt7
 exact hx):p:=h
theorem ajQ(h:p:=by
 rcases hr with⟨hr|hr,hl⟩|hr
 . exact .inl (Ms r hr hl)
 . exact .inr hr
 . exact .inr hr):p:=h
theorem ahm(h:p:=by
 obtain⟨k,hk⟩:=YG.1 hc;rw[Zn]at hk
 exact h (a+k) c VH hk):p:=h
theorem aiW(h:p:=by
 simp only[Y2,YL]at h;obtain⟨rfl,rfl⟩:=h
 exact⟨.inl rfl,Vy⟩):p:=h
theorem aiz(h:p:=by
 rw[PY,ZP (by rw[MP];omega),MP]
 simp[P9]):p:=h
theorem agQ(h:p:=by
 simp[im0]at hk;simp[ajv]at hx;subst hk hx
 exact⟨rfl,rfl,rfl,none,0,rfl,λe=>sH⟩):p:=h
theorem ajt(h:p:=by
 rw[e',ha]at V_;injection V_ with V_;injection V_ with _ V_ _;revert V_
 decide):p:=h
theorem aa2(h:p:=by
 rw[V_]at this;injection this with this;injection this with _ this _;revert this
 decide):p:=h
theorem ag2(h:p:=by
 have h1:=HX.o.2.2.1;rw[HG.o,rF]at h1
 exact .inr ⟨m',v,h1.symm,rfl,HP.o⟩):p:=h
theorem aiR(h:p:=by
 go_wp2_with fail
 exact ZQ (RI results97 _ _ rfl y0 y1) rfl HP.o):p:=h
theorem ame(h:p:=by
 have hx1:∀p,¬Reg l ps sel p:=λp ⟨ib,e,_⟩=>by rw[hl]at e;cases e
 exact hx1):p:=h
theorem ahL(h:p:=by
 rw[HK.o]at hx;injection hx with hx;injection hx with _ hx;rw[<- hx,HA.o]
 omega):p:=h
theorem ahD(h:p:=by
 refine⟨_,by rw[HZ.o];rfl,λe=>?_,L_.alloc VH _⟩;rw[HZ.o]at e
 simp at e):p:=h
theorem agT(h:p:=by
 subst e;have:=HV.o.symm.trans hu;injection this with this;rw[<- this]
 simp[ht]):p:=h
theorem ajF(h:p:=by
 split at hy
 . injection hy with hy;subst hy;exact key _ _ _ _ Vy
 . cases hy):p:=h
theorem ag3(h:p:=by
 have hx:=MH (bl s) g1 g2 G8;rw[MY,Ue,ZU h]at hx
 exact hx):p:=h
theorem ajm(h:p:=by
 have hadd:(VJ g 0).add (i*6+c)=(VJ g (i*6+c)):=qP;rw[hadd]at this
 exact this):p:=h
theorem zi(h:p:=by
 unfold RP at h ⊢;simp only[World.setCell,Zz,ZU,h]
 rfl):p:=h
theorem adp(h:p:=by
 by_cases e:k=rb
 . rw[e];exact hr.Vb
 . exact(h.dead k hk).2.2.2.same ai6):p:=h
theorem ajz(h:p:=by
 subst e;rw[hx]at hy;injection hy with hy;subst hy
 exact .inr ⟨h2.symm,h3⟩):p:=h
theorem zx(h:p:=by
 rcases V' k hk with e|e
 . exact h.gl k e hg
 . have:=h.J7.lt hg
   omega):p:=h
theorem agP(h:p:=by
 intro d k hk;obtain⟨k0,h0,hn,_⟩:=get d k hk;rw[hn]
 exact h.names d k0 h0):p:=h
theorem ahX(h:p:=by
 subst e;have:=HV.o.symm.trans hu;injection this with this;rw[<- this]
 rfl):p:=h
theorem acZ(h:p:=by
 split at h
 . injection h with h;subst h;exact key _ _ _ _ Vy
 . cases h):p:=h
theorem aiB(h:p:=by
 subst e;rw[Si s j hlt]at hj;injection hj with hj;rw[<- hj]
 exact hsm):p:=h
theorem aiK(h:p:=by
 rw[h1]at hx;injection hx with hx
 injection hx with _ hx _;revert hx;decide):p:=h
theorem amq(h:p:=by
 rcases hst.foot z e with e|e
 . have:=hfw z e;omega
 . simp at e
   omega):p:=h
theorem am0(h:p:=by
 have hx:∀k,U2 m K k->k<w.heap.size:=λk e=>h.Qj.Ub.lt e
 exact hx):p:=h
theorem aa8(h:p:=by
 have hp2:tmps[p]?.getD undef=(VG z):=adi
 simp[results,h,hp2,go_sem,z0,z1]):p:=h
theorem qQ(h:p:=by
 clear h;go_enter func8,ntmps8;go_wp2
 all_goals (go_ret2;exact KP)):p:=h
theorem aem(h:p:=by
 rw[ZJ]at this
 exact(ZV _ _ _ Vy).trans this):p:=h
theorem ajg(h:p:=by
 have hx:¬(bl s)[j]?.getD 0=32:=by rw[hg];intro e;exact C' Sv
 exact hx):p:=h
theorem abq(h:p:=by
 refine HC.o.word HH.o.2 ?_
 simp[VA,vG,Kn.wrap64,IntWalk.i64_left]):p:=h
theorem ad3(h:p:=by
 have:=Rq _ q acX;rw[Zh,VB]at this
 omega):p:=h
theorem adr(h:p:=by
 have:=Rq _ p acX;rw[Zh,VB]at this
 omega):p:=h
theorem ahT(h:p:=by
 have hx:=HW.o;rw[E_,VB,XQ hl]at hx
 exact hx.symm):p:=h
theorem aii(h:p:=by
 have hx:=HW.o;rw[E_,VB,Xh hl]at hx
 exact hx.symm):p:=h
theorem ac5(h:p:=by
 have hadd:(VJ g 0).add j=(VJ g j):=qP;rw[hadd]at this
 exact this):p:=h
theorem ah2(h:p:=by
 rw[hW1,ZV _ _ _ Vy]
 exact(Z4 w _).1):p:=h
theorem qH(h:p:=by
 go_enter func7,ntmps7;go_wp2
 all_goals (go_ret2;exact KP)):p:=h
theorem JL(h:p:=by
 intro w hSw;(try dsimp only at hSw);go_simp<;>with_reducible rfl):p:=h
theorem ahW(h:p:=by
 clear hbad;go_wp2
 exact H3.o.ret HK.o 1 HE.o rfl rfl rfl rfl):p:=h
theorem ah5(h:p:=by
 refine .inr (.inr ?_);rw[e];intro e';injection e' with e'
 omega):p:=h
theorem ac2(h:p:=by
 rcases hgr.blk k e with e|e
 . exact .inl adf
 . exact .inr e):p:=h
theorem acw(h:p:=by
 injection h1 with h1;injection h1 with _ h1 _;revert h1
 decide):p:=h
theorem uX(h:p:=by
 simp only[World.setCell,Zz,ZU,h]
 rfl):p:=h
theorem gu(h:p:=by
 rw[ZJ,ZJ]at this
 exact this):p:=h
theorem ajw(h:p:=by
 injection h with h;subst h
 exact Jk Vz (.inr Vz)):p:=h
theorem iF(h:p:=by
 subst ej;intro h;injection h with h
 exact HE.o h.symm):p:=h
theorem eX(h:p:=by
 rw[HR.o,<- E0.o,<- E1.o]
 simp[B0.o,B1.o]):p:=h
theorem ag9(h:p:=by
 have hx1:wr.iterSeen w.heap.size=seen:=alW
 exact hx1):p:=h
theorem ajh(h:p:=by
 unfold Mc;rw[hf,ZX VH]
 exact(h8 VH).1):p:=h
theorem ag7(h:p:=by
 unfold Ph nx;rw[Fi.o.1,Fi.o.2.1]
 omega):p:=h
theorem ady(h:p:=by
 simp only[ZJ]at this
 exact this):p:=h
theorem adP(h:p:=by
 rw[xm.o W3 _ VM.o.2,HS.o]
 exact HL.o):p:=h
theorem acv(h:p:=by
 injection ha' with ha';rw[ha']
 exact hal):p:=h
structure Bx (q:Prop):Prop where
 o:q
theorem PG(k:q)(h:Bx q->p:=by
 intro zk;rintro e w1 ⟨rfl,X_⟩;have W_:Hid _:=W_.o.call X_;clear X_;revert w1 W_
 exact zk.o):p:=h ⟨k⟩
theorem zr1(k:q)(h:Bx q->p:=by
 intro zk;refine iZ ?_;refine Uh 4 ?_;refine Uh 5 ?_;refine Uh 6 ?_
 exact zk.o):p:=h ⟨k⟩
theorem zr2(k:q)(h:Bx q->p:=by
 intro zk;have hxs:(s.extract 1 s.size).size<=119:=Vo;have O2:0<s.size:=VH;have HP:Hid _:=hp;have Sy:Hid _:=hn;have B1:Hid _:=U_;have HM:Hid _:=hm;have Ml:Hid _:=hm4;have PB:Hid _:=hm2;have Q6:Hid _:=hm1;refine agW ?_;intro f_ Y' a_ PJ hmc;revert hxs O2 HP Sy B1 HM Ml PB Q6 f_ Y' a_ PJ hmc
 exact zk.o):p:=h ⟨k⟩
theorem zr3(k:q)(h:Bx q->p:=by
 intro zk;refine iZ ?_;refine Uh 4 ?_;refine Uh 5 ?_
 exact zk.o):p:=h ⟨k⟩
theorem zr4(k:q)(h:Bx q->p:=by
 intro zk;refine iZ ?_;refine Uh 4 ?_
 exact zk.o):p:=h ⟨k⟩
theorem pJ(k:q)(h:Bx q->p:=by
 intro zk;refine iZ ?_
 exact zk.o):p:=h ⟨k⟩
theorem Nr(k:q)(h:Bx q->p:=by
 intro zk;refine wpAnyH_done VE ?_ _;refine NoPanic.normal ?_
 exact zk.o):p:=h ⟨k⟩
theorem zr7(k:q)(h:Bx q->p:=by
 intro zk;refine agW ?_;intro f_ Y' a_ PJ hmc;obtain⟨TX,T6⟩:=f_;obtain⟨Tr,Tw⟩:=Y';obtain⟨Ts,TC⟩:=a_;revert PJ hmc TX T6 Tr Tw Ts TC
 exact zk.o):p:=h ⟨k⟩
theorem zr8(k:q)(h:Bx q->p:=by
 intro zk;have c1:=((h.alloc (.cells #[VI 0,VI 0,.string ⟨#[]⟩,.string ⟨#[]⟩,.string ⟨#[]⟩,.pointer none] 146)).alloc (.cells #[VI 0,VI 0,.string ⟨#[]⟩,.string ⟨#[]⟩,.string ⟨#[]⟩,.pointer none] 146)).c1;have W_:Hid _:=akn h;revert c1 W_
 exact zk.o):p:=h ⟨k⟩
theorem pO(k:q)(h:Bx q->p:=by
 intro zk;refine(OB s _ _ SE B1.o).mono ?_;rintro e W3 ⟨rfl,hW3⟩;have R_:W3.heap[w.heap.size]?=some (.cells #[.int .u8 0,VI 0,.string ⟨#[]⟩,.string ⟨#[]⟩,.string ⟨#[]⟩,VI 0] 188):=aps;have hb1:Below w.heap.size w W3:=apy;revert W3 hW3 R_ hb1
 exact zk.o):p:=h ⟨k⟩
theorem MC(k:q)(h:Bx q->p:=by
 intro zk;simp only[Act.put,WW,Xl,Xk,XE,WM,XY]
 exact zk.o):p:=h ⟨k⟩
theorem afr(k:q)(h:Bx q->p:=by
 intro zk;refine Uh 3 ?_;refine Uh 4 ?_;refine Uh 5 ?_;refine Uh 6 ?_;refine Uh 7 ?_;refine Uh 8 ?_
 exact zk.o):p:=h ⟨k⟩
theorem Lh(k:q)(h:Bx q->p:=by
 intro zk;refine(yP s _ SE).mono ?_;rintro e w1 ⟨rfl,hb1⟩;rw[HP.o];simp only[Tm,V7,XV,w0];obtain⟨y_,T',hblk,L_⟩:=iU hb1;clear hb1;revert w1 y_ T' hblk L_
 exact zk.o):p:=h ⟨k⟩
theorem DT(k:q)(h:Bx q->p:=by
 intro zk
 try refine UE ?_
 refine wpAnyH_done VE ?_ _
 exact zk.o):p:=h ⟨k⟩
theorem wY(k:q)(h:Bx q->p:=by
 intro zk;go_simp;refine Z_.go λhHeld=>?_;revert hHeld
 exact zk.o):p:=h ⟨k⟩
theorem Ep(k:q)(h:Bx q->p:=by
 intro zk;refine Uh 0 ?_;refine Uh 1 ?_
 exact zk.o):p:=h ⟨k⟩
theorem aW(k:q)(h:Bx q->p:=by
 intro zk;have Wd:=h.run.ct;simp only[XP,ZG,Vq]at Wd;have lw:=(h.lo rb Vy).2.1;have Q_:=B.sg.LY.1.raw;revert Wd lw Q_
 exact zk.o):p:=h ⟨k⟩
theorem aee(k:q)(h:Bx q->p:=by
 intro zk;refine(TI b s i _ hs hi' zq).mono ?_;rintro e w1 ⟨rfl,X_⟩;rw[Ng.o]at X_ ⊢;have J_:Hid (JV w (w1.alloc (.cells #[VI 21,VI 0,.string (VF nm),.string ⟨#[]⟩,.string ⟨#[]⟩,.pointer none] 146)) b s (i+nm.length) w.heap.size w1.heap.size (VI 21) (VI 0) (.string (VF nm)) (.string ⟨#[]⟩) (.string ⟨#[]⟩)):=lY L_ X_ _ _ _ _ _;have hz:=(RY w _ _ _ _ _).to X_ VH;revert w1 X_ J_ hz
 exact zk.o):p:=h ⟨k⟩
theorem agh(k:q)(h:Bx q->p:=by
 intro zk;refine Uh 5 ?_;refine Uh 6 ?_;refine Uh 7 ?_
 exact zk.o):p:=h ⟨k⟩
theorem Sl(k:q)(h:Bx q->p:=by
 intro zk;rintro e w' ⟨rfl,hw⟩;replace hw:=hw.symm;subst hw
 exact zk.o):p:=h ⟨k⟩
theorem abN(k:q)(h:Bx q->p:=by
 intro zk;rw[<- hW];refine hp.mono ?_;rintro e w1 ⟨rfl,P',S_⟩;have G_:=(HF.o.1.trans S_).new (.cells #[.bool false,VI bn] 79);have ho1:=Qk S_.rk S_.fr (.cells #[.bool false,VI bn] 79);have k_:(w1.alloc (.cells #[.bool false,VI bn] 79)).heap[w1.heap.size]?=some (.cells #[.bool false,VI bn] 79):=(Z4 w1 _).1;have hx1:=(S_.below aoy).off _ HF.o.2.1;revert w1 P' S_ G_ ho1 k_ hx1
 exact zk.o):p:=h ⟨k⟩
theorem aa7(k:q)(h:Bx q->p:=by
 intro zk;refine Uh 3 ?_;refine Uh 4 ?_
 exact zk.o):p:=h ⟨k⟩
theorem AU(k:q)(h:Bx q->p:=by
 intro zk;rw[<- hW2];refine hp2.mono ?_;rintro e w1 ⟨rfl,P',S_⟩;have Z6:=HA.o.trans S_;have hk2:=(S_.off _ HO.o).2.trans k_;have c0:=(Vp hk2).1;have c0:=(Vp hk2).2;rename_i N';revert w1 P' S_ Z6 hk2 N' c0
 exact zk.o):p:=h ⟨k⟩
theorem afJ(k:q)(h:Bx q->p:=by
 intro zk;refine wp_region_noPanic ?_;refine ZT (S:=(λw'=>w'.cell? (VJ F 1)=some (VI (h:Nat))/\w'.cell? (VJ Z 0)=some (VI (kk:Nat))/\w'.cell? (VJ Z 1)=some (VI xn)/\w'.cell? (VJ Z 2)=some (.string (VF xa))/\w'.cell? (VJ Z 3)=some (.string (VF xs))/\w'.cell? (VJ Z 4)=some (.string (VF xb))/\w'.cell? (VJ Z 5)=some (.pointer none)/\w'.cell? (VJ 0 (kk*5+1))=some (VI (l:Nat)))) VE UG (λhHeld=>?_);revert hHeld
 exact zk.o):p:=h ⟨k⟩
theorem Pg(k:q)(h:Bx q->p:=by
 intro zk;simp only[Exit.then,Exit.inBlock];refine HG.o _ _ _ _ _ rfl ?_
 exact zk.o):p:=h ⟨k⟩
theorem al6(k:q)(h:Bx q->p:=by
 intro zk;rw[Sy.o];simp only[Tm,XV];obtain⟨M_,P_,A_⟩:=Eh y_ hblk L_ hb1;obtain⟨u0,u1,u2,u3,u4,u5,uf⟩:=TL P_;revert M_ P_ A_ u0 u1 u2 u3 u4 u5 uf
 exact zk.o):p:=h ⟨k⟩
theorem Uy(k:q)(h:Bx q->p:=by
 intro zk;refine wp_region_noPanic ?_
 exact zk.o):p:=h ⟨k⟩
theorem aku(k:q)(h:Bx q->p:=by
 intro zk;refine Uh 7 ?_;refine Uh 8 ?_;refine Uh 9 ?_;refine Uh 10 ?_
 exact zk.o):p:=h ⟨k⟩
theorem wC(k:q)(h:Bx q->p:=by
 intro zk;have D_:((s[0].toNat:Int)==94)=false:=Vo;have D_:((s[0].toNat:Int)==45)=false:=Vo;have D_:((s[0].toNat:Int)==62)=false:=Vo;rename_i N' P4;revert N' P4 D_
 exact zk.o):p:=h ⟨k⟩
theorem alO(k:q)(h:Bx q->p:=by
 intro zk;rw[<- hW2];refine hp2.mono ?_;rintro e w1 ⟨rfl,P',S_⟩;have Z6:=HA.o.trans S_;have hk2:=(S_.off _ HO.o).2.trans k_;revert w1 P' S_ Z6 hk2
 exact zk.o):p:=h ⟨k⟩
theorem JM(k:q)(h:Bx q->p:=by
 intro zk;simp only[reduceIte,Nat.reduceEqDiff,or_self,YE,false_or,or_true,true_or]
 exact zk.o):p:=h ⟨k⟩
theorem vP(k:q)(h:Bx q->p:=by
 intro zk;refine(TI b s i _ hs hi' zq).mono ?_;rintro e w1 ⟨rfl,X_⟩;rw[Ng.o]at X_ ⊢;revert w1 X_
 exact zk.o):p:=h ⟨k⟩
theorem abT(k:q)(h:Bx q->p:=by
 intro zk;have D_:((s[0].toNat:Int)==94)=false:=Vo;have D_:((s[0].toNat:Int)==45)=false:=Vo;rename_i N';revert N' D_
 exact zk.o):p:=h ⟨k⟩
theorem aY(k:q)(h:Bx q->p:=by
 intro zk;have UV:=ST.rk.c4;have Eg:=ST.b;rw[Eg]at UV;have Tk:=ST.rk.Vb.lt;rw[Eg]at Tk;have PH:=(ST.Ut.block _ hw1 anG).trans wt.o;have hzl:=(Z5.1 PH).1;have a0:=(Vp PH).1;have a1:=(Vp PH).2;revert UV Eg Tk PH hzl a0 a1
 exact zk.o):p:=h ⟨k⟩
theorem adZ(k:q)(h:Bx q->p:=by
 intro zk;have I_:=HD.o.1.kin hst;have hB1:=HD.o.2.1.kin hst;have hb1:=hB1.2.trans HD.o.2.2;have c1:w1.cell? (VJ w.heap.size 1)=some (.string s):=by simp only[World.cell?,hb1];rfl
 have c1:w1.cell? (VJ w.heap.size 2)=some (.string t):=by simp only[World.cell?,hb1];rfl
 rename_i N';revert I_ hB1 hb1 N' c1
 exact zk.o):p:=h ⟨k⟩
theorem aoT(k:q)(h:Bx q->p:=by
 intro zk;have D_:((s[0].toNat:Int)==45)=false:=Vo;have D_:((s[0].toNat:Int)==62)=false:=Vo;refine aei ?_;intro _ D_;rename_i N' P4 Mj;revert N' P4 Mj D_
 exact zk.o):p:=h ⟨k⟩
theorem akY(k:q)(h:Bx q->p:=by
 intro zk;have N_:=(hcc.block z10 (Z5.1 N_).1 VH).trans N_;refine gI ?_;intro K_;revert N_ K_
 exact zk.o):p:=h ⟨k⟩
theorem ank(k:q)(h:Bx q->p:=by
 intro zk
 have HF:Hid (U5 z fb w W m K d.sv f d/\K.en=0):=⟨hF,hen⟩
 have n110:¬(k:Int)=110:=VH;have n110:¬(k:Int)=109:=VH;have n110:¬(k:Int)=97:=VH;have n110:¬(k:Int)=103:=VH;have n110:¬(k:Int)=112:=VH;have n110:¬(k:Int)=43:=VH;have n110:¬(k:Int)=45:=VH;have n110:¬(k:Int)=42:=VH;have n110:¬(k:Int)=60:=VH;have n110:¬(k:Int)=61:=VH;have n110:¬(k:Int)=111:=VH;have n110:¬(k:Int)=100:=VH;have n110:¬(k:Int)=62:=VH;have n110:¬(k:Int)=63:=VH;have n110:¬(k:Int)=115:=VH;have n110:¬(k:Int)=94:=VH;have Wc:¬k=110:=VH;have Wc:¬k=109:=VH;have Wc:¬k=97:=VH;have Wc:¬k=103:=VH;have Wc:¬k=112:=VH;have Wc:¬k=43:=VH;have Wc:¬k=45:=VH;have Wc:¬k=42:=VH;have Wc:¬k=60:=VH;have Wc:¬k=61:=VH;have Wc:¬k=111:=VH;have Wc:¬k=100:=VH;have Wc:¬k=62:=VH;have Wc:¬k=63:=VH;have Wc:¬k=115:=VH;have Wc:¬k=94:=VH;rename_i N' P4 Mj EV E9 iz lL nj kO zi9 ie lb gH j1 j0 oc il kB gM fk l5 fc jN gS ip kj fe jx j9 fW;revert HF N' P4 Mj EV E9 iz lL nj kO zi9 ie lb gH j1 j0 n110 oc il kB gM fk l5 fc jN gS ip kj fe jx j9 fW Wc
 exact zk.o):p:=h ⟨k⟩
theorem Jp(k:q)(h:Bx q->p:=by
 intro zk;have z0:=hz.c0;have z1:=hz.c1;have z2:=hz.c2;have z3:=hz.c3;have z4:=hz.c4;have z5:=hz.c5;have zf:=hz.f;revert z0 z1 z2 z3 z4 z5 zf
 exact zk.o):p:=h ⟨k⟩
theorem abM(k:q)(h:Bx q->p:=by
 intro zk;refine Uh 7 ?_;refine Uh 8 ?_
 exact zk.o):p:=h ⟨k⟩
theorem amd(k:q)(h:Bx q->p:=by
 intro zk;have b0:W5.cell? (VJ zb 0)=some (VI (kd:Nat)):=by rw[o_];simp only[World.cell?,hat];rfl
 have b1:W5.cell? (VJ zb 1)=some (VI x.1.n):=by simp only[World.cell?,hat];rfl
 have b2:W5.cell? (VJ zb 2)=some (.string (VF x.1.a)):=by simp only[World.cell?,hat];rfl
 have b3:W5.cell? (VJ zb 3)=some (.string (VF x.1.sel)):=by simp only[World.cell?,hat];rfl
 have b4:W5.cell? (VJ zb 4)=some (.string (VF x.1.b)):=by simp only[World.cell?,hat];rfl
 have b5:W5.cell? (VJ zb 5)=some (.pointer pl):=by simp only[World.cell?,hat];rfl
 have bd:W5.cell? (VJ rb (1+kd))=some (.func (.func (doF kd)) #[] #[]):=by rw[o_];exact B.sg.run.cd _ hkr.1 hkr.2
 have JP:=ak5 (B.sg.below (ZR _ _).drew.drew) h0 x pl HX.o.1.2.1.1 I' C' HX.o.2.2.2.2.1 kA.o;have hent:=akB kd (by rw[o_];exact hkr.1) (by rw[o_];exact hkr.2) #[VG rb,Uo x.1 pl] W5.drew.drew;rw[<- o_]at JP;revert b0 b1 b2 b3 b4 b5 bd JP hent
 exact zk.o):p:=h ⟨k⟩
theorem dU(k:q)(h:Bx q->p:=by
 intro zk;refine Ul 9 λY_ Z_=>?_;go_simp;have htk:=take_any T5;unfold Vl.val at htk;refine htk.mono ?_;clear htk;rintro e V4 ⟨rfl,Ps,hcc⟩;have S4:=(Z9 (a:=(VJ rb 24)) aoF).trans YY;revert Y_ Z_ V4 Ps hcc S4
 exact zk.o):p:=h ⟨k⟩
theorem ami(k:q)(h:Bx q->p:=by
 intro zk;have D_:((s[0].toNat:Int)==62)=false:=Vo;refine aei ?_;intro _ D_;have D_:((s[0].toNat:Int)==115)=false:=Vo;rename_i N' P4 Mj;revert N' P4 Mj D_
 exact zk.o):p:=h ⟨k⟩
theorem tV(k:q)(h:Bx q->p:=by
 intro zk;refine(TY b s (i+nm.length) 46 _ hs N3 JT.o J_.o.to.rd).mono ?_;rintro e w1 ⟨rfl,X_⟩;have J_:Hid _:=J_.o.call X_;revert w1 X_ J_
 exact zk.o):p:=h ⟨k⟩
theorem acY(k:q)(h:Bx q->p:=by
 intro zk;refine hk1.mono ?_;rintro e w1 ⟨rfl,K',hst⟩;have I_:=HD.o.1.kin hst;have hB1:=HD.o.2.1.kin hst;have hb1:=hB1.2.trans HD.o.2.2;revert w1 K' hst I_ hB1 hb1
 exact zk.o):p:=h ⟨k⟩
theorem GR(k:q)(h:Bx q->p:=by
 intro zk;refine(G7 (s.extract 1 s.size) 4 _ _ SE VH Ml.o).mono ?_
 exact zk.o):p:=h ⟨k⟩
theorem dL(k:q)(h:Bx q->p:=by
 intro zk;go_simp;have htk:=take_any SF;unfold Vl.val at htk;refine htk.mono ?_;clear htk;rintro e V3 ⟨rfl,T5,hcc⟩;have YY:=(Z9 (a:=(VJ rb 24)) ane).trans XS;revert V3 T5 hcc YY
 exact zk.o):p:=h ⟨k⟩
theorem apl(k:q)(h:Bx q->p:=by
 intro zk;refine(TU b s (i) 45 _ hs VH FM W_.o.to.rd).mono ?_
 exact zk.o):p:=h ⟨k⟩
theorem alI(k:q)(h:Bx q->p:=by
 intro zk
 have g1:w5.cell? (VJ w.heap.size 1)=some (.string o.s):=(by simp only[World.cell?,T7];rfl)
 have g4:w5.cell? (VJ w.heap.size 4)=some (VI o.n):=(by simp only[World.cell?,T7];rfl)
 have g6:w5.cell? (VJ w.heap.size 6)=some (.bool o.to.obj):=(by simp only[World.cell?,T7];rfl)
 have g7:w5.cell? (VJ w.heap.size 7)=some (VI o.to.n):=(by simp only[World.cell?,T7];rfl)
 revert g1 g4 g6 g7
 exact zk.o):p:=h ⟨k⟩
theorem afL(k:q)(h:Bx q->p:=by
 intro zk;have O2:0<s.size:=VH;have HP:Hid _:=hp;have Sy:Hid _:=hn;have B1:Hid _:=U_;revert O2 HP Sy B1
 exact zk.o):p:=h ⟨k⟩
theorem ED(k:q)(h:Bx q->p:=by
 intro zk;refine(G7 (s.extract 1 s.size) 2 _ _ SE VH PB.o).mono ?_
 exact zk.o):p:=h ⟨k⟩
theorem alA(k:q)(h:Bx q->p:=by
 intro zk;obtain⟨W,hW,hF,hO,hb⟩:=UW hk h (⟨61,n,sl,xa,xb⟩,xi);change W=w.alloc (.cells #[.int .u8 61,VI n,.string (VF sl),.string (VF xa),.string (VF xb),VI (xi:Nat)] 188) at hW;change Calls _ _ #[VG K.b,VG fb,.agg #[.int .u8 61,VI n,.string (VF sl),.string (VF xa),.string (VF xb),VI (xi:Nat)],VI D] _ _;have HH:Hid (RK w m K/\K.en=0):=adQ;revert W hF hO hb hW HH
 exact zk.o):p:=h ⟨k⟩
theorem akz(k:q)(h:Bx q->p:=by
 intro zk;refine(L6 s _ hs).mono ?_;rintro e w1 ⟨rfl,hb1⟩;rw[HC.o];have c0:=(hb1.cell (p:=(VJ b 0)) hbl).trans h0;have ca:=(hb1.cell (p:=(VJ a 3)) hal).trans ha;have hm1:=HM.o.same ala;have Pa:=P8 w1 mb l hm1 s;have Tl:=P8 w1 mb l hm1 t;rw[hl]at Pa;rw[ht]at Tl;simp only[V7,YX]at Pa Tl;revert w1 hb1 c0 ca hm1 Pa Tl
 exact zk.o):p:=h ⟨k⟩
theorem apJ(k:q)(h:Bx q->p:=by
 intro zk;refine(TU b s (i) 61 _ hs VH FM W_.o.to.rd).mono ?_
 exact zk.o):p:=h ⟨k⟩
theorem DV(k:q)(h:Bx q->p:=by
 intro zk;refine(G7 (s.extract 1 s.size) 1 _ _ SE VH Q6.o).mono ?_
 exact zk.o):p:=h ⟨k⟩
theorem aac(k:q)(h:Bx q->p:=by
 intro zk;go_simp;refine hcall.mono ?_;rintro e w2 ⟨rfl,K',hst⟩;have hcm:=HB.o.calm hst;have d2:=(Z9 (a:=(VJ w.heap.size 2)) hcm.2.1).trans x2;revert w2 K' hst hcm d2
 exact zk.o):p:=h ⟨k⟩
theorem ak7(k:q)(h:Bx q->p:=by
 intro zk;have J_:Hid (JV w (w1.alloc (.cells #[VI 20,VI 0,.string (VF nm),.string ⟨#[]⟩,.string ⟨#[]⟩,.pointer none] 146)) b s (i+nm.length) w.heap.size w1.heap.size (VI 20) (VI 0) (.string (VF nm)) (.string ⟨#[]⟩) (.string ⟨#[]⟩)):=lY L_ X_ _ _ _ _ _;have hz:=(RY w _ _ _ _ _).to X_ VH;revert J_ hz
 exact zk.o):p:=h ⟨k⟩
theorem akL(k:q)(h:Bx q->p:=by
 intro zk;have J_:Hid (JV w (w1.alloc (.cells #[VI 19,VI 0,.string (VF nm),.string ⟨#[]⟩,.string ⟨#[]⟩,.pointer none] 146)) b s (i+nm.length) w.heap.size w1.heap.size (VI 19) (VI 0) (.string (VF nm)) (.string ⟨#[]⟩) (.string ⟨#[]⟩)):=lY L_ X_ _ _ _ _ _;have hz:=(RY w _ _ _ _ _).to X_ VH;revert J_ hz
 exact zk.o):p:=h ⟨k⟩
theorem anE(k:q)(h:Bx q->p:=by
 intro zk;refine ZT (S:=(λw'=>w'.cell? (VJ w1.heap.size 0)=some (.bool v.obj)/\w'.cell? (VJ w1.heap.size 1)=some (VI v.n)/\w'.cell? (VJ w2.heap.size 0)=some (.bool v.obj)/\w'.cell? (VJ w2.heap.size 1)=some (VI v.n))) VE UG (λhHeld=>?_);refine Uh 0 ?_;refine Ur 2 ?_;refine Ul 1 λY_ Z_=>?_;go_simp;refine PA.mono ?_;rintro e w4 ⟨rfl,hb1⟩;have r0:=(hb1.cell (p:=(VJ w1.heap.size 0)) hvl).trans v0;have r0:=(hb1.cell (p:=(VJ w1.heap.size 1)) hvl).trans v1;have r0:=(hb1.cell (p:=(VJ w2.heap.size 0)) hwl).trans q0;have r0:=(hb1.cell (p:=(VJ w2.heap.size 1)) hwl).trans q1;have RT:=UQ (RT.o.below hb1);clear hb1;rename_i N' P4 Mj;revert hHeld Y_ Z_ w4 N' P4 Mj r0 RT
 exact zk.o):p:=h ⟨k⟩
theorem alq(k:q)(h:Bx q->p:=by
 intro zk;obtain⟨W,hW,hF,hO,hb⟩:=UW hk h (⟨63,n,sl,xa,xb⟩,xi);change W=w.alloc (.cells #[.int .u8 63,VI n,.string (VF sl),.string (VF xa),.string (VF xb),VI (xi:Nat)] 188) at hW;change Calls _ _ #[VG K.b,VG fb,.agg #[.int .u8 63,VI n,.string (VF sl),.string (VF xa),.string (VF xb),VI (xi:Nat)],VI D] _ _;revert W hF hO hb hW
 exact zk.o):p:=h ⟨k⟩
theorem alH(k:q)(h:Bx q->p:=by
 intro zk;have hz:w.heap.size+1<=w1.heap.size:=alU;refine ah3 ?_;intro hblk;obtain⟨r0,r1,r2,r3,r4,r5,rf⟩:=TL hblk;have hne:w.heap.size≠g:=aoh;have L_:=((ZR _ _).alloc UM _).trans (hb.mono Vy);revert hz hblk r0 r1 r2 r3 r4 r5 rf hne L_
 exact zk.o):p:=h ⟨k⟩
theorem akc(k:q)(h:Bx q->p:=by
 intro zk;rw[<- SW,<- u_];have hB4:Below V3.heap.size V3 V4:=ajT;have K_:V4.heap[z11]?=some (.cells #[.bool false,VI 0] 33):=amn;have S7:W1.heap.size<=z11:=amR;have hc4:=hc3.then aiT Js;have Ps:=T5.same ai9;have S4:=(hB4.cell (p:=(VJ rb 24)) l3).trans YY;have N_:=(hB4.block z10 (Z5.1 N_).1).trans N_;revert hB4 K_ S7 hc4 Ps S4 N_
 exact zk.o):p:=h ⟨k⟩
theorem aki(k:q)(h:Bx q->p:=by
 intro zk;rw[<- SW,<- t_];have hB4:Below V3.heap.size V3 V4:=ajT;have N_:V4.heap[z10]?=some (.cells #[.bool false,VI 0] 33):=al4;have Ta:W1.heap.size<=z10:=aok;have hc4:=hc3.then aiT Js;have Ps:=T5.same ai9;have S4:=(hB4.cell (p:=(VJ rb 24)) l3).trans YY;have K_:=(hB4.block z11 (Z5.1 K_).1).trans K_;revert hB4 N_ Ta hc4 Ps S4 K_
 exact zk.o):p:=h ⟨k⟩
theorem eF(k:q)(h:Bx q->p:=by
 intro zk;have hc3:=hc2.then ape Js;have T5:=SF.same amG;have YY:=(j_.cell (p:=(VJ rb 24)) l2).trans XS;have l3:=ZY l2 j_.size;revert hc3 T5 YY l3
 exact zk.o):p:=h ⟨k⟩
theorem alY(k:q)(h:Bx q->p:=by
 intro zk;obtain⟨W,hW,hF,hO,hb⟩:=UW hk h (⟨60,n,sl,xa,xb⟩,xi);change W=w.alloc (.cells #[.int .u8 60,VI n,.string (VF sl),.string (VF xa),.string (VF xb),VI (xi:Nat)] 188) at hW;change Calls _ _ #[VG K.b,VG fb,.agg #[.int .u8 60,VI n,.string (VF sl),.string (VF xa),.string (VF xb),VI (xi:Nat)]] _ _;have HH:Hid (RK w m K/\K.en=0):=adQ;have HF:Hid (U5 z fb w W m K d.sv {f with st:=⟨false,bn⟩::⟨false,an⟩::r} d/\Off W K fb d.sv w.heap.size/\W.heap[w.heap.size]?=some (.cells (U4 (⟨60,n,sl,xa,xb⟩,xi)) 188)):=SH;have hp:=Hr (f:=f) hF.rk hF.fr Ea;unfold Vl.val at hp;revert W hF hO hb hW HH HF hp
 exact zk.o):p:=h ⟨k⟩
theorem apX(k:q)(h:Bx q->p:=by
 intro zk;refine(TU b s (i) 94 _ hs VH FM W_.o.to.rd).mono ?_
 exact zk.o):p:=h ⟨k⟩
theorem ao0(k:q)(h:Bx q->p:=by
 intro zk;have af:∀o,((w4.setCell (VJ w3.heap.size 0) (.bool v.obj)).setCell (VJ w3.heap.size 1) (VI v.n)).frozen? (VJ (w.heap.size+1) o)=false:=λo=>UL.free ⟨_,_,PH⟩ o;have QR:((w4.setCell (VJ w3.heap.size 0) (.bool v.obj)).setCell (VJ w3.heap.size 1) (VI v.n)).heap[w3.heap.size]?=some (.cells #[.bool v.obj,VI v.n] 79):=agY;refine abt ?_;intro b0 b1 hvl;have HY:Hid (Vu w ((w4.setCell (VJ w3.heap.size 0) (.bool v.obj)).setCell (VJ w3.heap.size 1) (VI v.n)) m K m' K'/\K'.lab (w.heap.size+1)=.no):=aep;revert af QR b0 b1 hvl HY
 exact zk.o):p:=h ⟨k⟩
theorem aoO(k:q)(h:Bx q->p:=by
 intro zk;have af:∀o,((w4.setCell (VJ X2.heap.size 0) (.bool v.obj)).setCell (VJ X2.heap.size 1) (VI v.n)).frozen? (VJ (w.heap.size+1) o)=false:=λo=>UL.free ⟨_,_,PH⟩ o;have QR:((w4.setCell (VJ X2.heap.size 0) (.bool v.obj)).setCell (VJ X2.heap.size 1) (VI v.n)).heap[X2.heap.size]?=some (.cells #[.bool v.obj,VI v.n] 79):=agY;refine abt ?_;intro b0 b1 hvl;have HY:Hid (Vu w ((w4.setCell (VJ X2.heap.size 0) (.bool v.obj)).setCell (VJ X2.heap.size 1) (VI v.n)) m K m' K'/\K'.lab (w.heap.size+1)=.no):=aep;revert af QR b0 b1 hvl HY
 exact zk.o):p:=h ⟨k⟩
theorem amc(k:q)(h:Bx q->p:=by
 intro zk
 try refine UE ?_
 refine Ul 6 λY_ Z_=>?_;go_simp;refine(LR _ hBb).mono ?_;rintro e w2 ⟨rfl,K1,hst⟩;have h1:=(H1.o.below hBb).img hst
 have hfw:∀k,U2 m K k->k<w.heap.size:=λk e=>HH.o.Qj.Ub.lt e;have hbk:∀k,w.heap.size<=k->k<W1.heap.size->w2.heap[k]?=W1.heap[k]?:=λk e1 e2=>(hst.Ut.block k Vo (λe=>ag8)).trans (hBb.block k e2);have RC:=(Z9 (a:=(VJ w.heap.size 0)) fD).trans q0;have RR:=(Z9 (a:=(VJ w.heap.size 1)) fD).trans q1;have M8:w2.cell? (VJ rb 0)=some (VG K.b):=by {have:=h1.run.c0;rw[hst.b]at this;exact this}
 revert Y_ Z_ w2 K1 hst h1 hfw hbk RC RR M8
 exact zk.o):p:=h ⟨k⟩
theorem akI(k:q)(h:Bx q->p:=by
 intro zk;refine aei ?_;intro _ D_;rename_i N';revert N' D_
 exact zk.o):p:=h ⟨k⟩
theorem ni(k:q)(h:Bx q->p:=by
 intro zk;have hp2:=Hr (f:=f) G_.rk G_.fr VH;have HA:Hid _:=G_;have HO:Hid _:=ho1;have HX:Hid _:=hx1;unfold Vl.val at hp2;revert hp2 HA HO HX
 exact zk.o):p:=h ⟨k⟩
theorem Ip(k:q)(h:Bx q->p:=by
 intro zk;refine(G7 s 4 _ _ SE VH HM.o).mono ?_
 exact zk.o):p:=h ⟨k⟩
theorem al5(k:q)(h:Bx q->p:=by
 intro zk;have hz1:W1.heap.size<=z:=VH;have hc3:Vt w2 W3 (λk=>k=z):=aoP;have hz2:z<w2.heap.size:=by rw[hzz];exact(Z5.1 LO).1
 have Rp:¬U2 {m with looks:=m.looks+1} K1 z:=λe=>by
  exact amq
 have H3:Hid (Sg Dd w0 m0 K0 rb W3 {m with looks:=m.looks+1} K1 fuel bs fs):=by
  have hx:=h1.aside h0 hc3 (λk e=>aoC);exact hx
 have KS:Hid (∀k,k<W1.heap.size->¬U2 m K k->W3.heap[k]?=W1.heap[k]?):=by
  exact apT
 have M3:Hid (K1.b=K.b/\(∀c,c<m.kl.length->K1.cb c=K.cb c)/\∀k,K.k.Mk k->K1.k.Mk k/\K1.k.md k=K.k.md k):=ajS;revert hz1 hc3 hz2 Rp H3 KS M3
 exact zk.o):p:=h ⟨k⟩
theorem amK(k:q)(h:Bx q->p:=by
 intro zk;have u0:w2.cell? (VJ W1.heap.size 0)=some (.pointer none):=by simp only[World.cell?,LO];rfl
 have u1:w2.cell? (VJ W1.heap.size 1)=some (.pointer none):=by simp only[World.cell?,LO];rfl
 have uf:∀o,w2.frozen? (VJ W1.heap.size o)=false:=λo=>UL.free ⟨_,_,LO⟩ o;revert u0 u1 uf
 exact zk.o):p:=h ⟨k⟩
theorem apD(k:q)(h:Bx q->p:=by
 intro zk;refine(TU b s (i) 62 _ hs VH FM W_.o.to.rd).mono ?_
 exact zk.o):p:=h ⟨k⟩
theorem anN(k:q)(h:Bx q->p:=by
 intro zk;go_simp;refine(LR _ hBa).mono ?_;rintro e w2 ⟨rfl,K1,hst⟩;have h1:=(H1.o.below hBa).img hst
 have hfw:∀k,U2 m K k->k<w.heap.size:=λk e=>HH.o.Qj.Ub.lt e;have hbk:∀k,w.heap.size<=k->k<W1.heap.size->w2.heap[k]?=W1.heap[k]?:=λk e1 e2=>hst.Ut.block k e2 (λe=>ag8);have RC:=(Z9 (a:=(VJ w.heap.size 0)) fD).trans q0;have RR:=(Z9 (a:=(VJ w.heap.size 1)) fD).trans q1;have M8:w2.cell? (VJ rb 0)=some (VG K.b):=by {have:=h1.run.c0;rw[hst.b]at this;exact this}
 revert w2 K1 hst h1 hfw hbk RC RR M8
 exact zk.o):p:=h ⟨k⟩
theorem alf(k:q)(h:Bx q->p:=by
 intro zk;have c1:w1.cell? (VJ w.heap.size 1)=some (.string s):=by simp only[World.cell?,hb1];rfl
 revert c1
 exact zk.o):p:=h ⟨k⟩
theorem dh(k:q)(h:Bx q->p:=by
 intro zk;refine(PS b s (i+nm.length+1) _ hs VH J_.o.to.rd).mono ?_;rintro e w1 ⟨rfl,j,hj,X_,hjl⟩;rw[vQ.o]at hjl ⊢;revert w1 j hj X_ hjl
 exact zk.o):p:=h ⟨k⟩
theorem dX(k:q)(h:Bx q->p:=by
 intro zk;refine Uh 9 ?_;refine Uh 10 ?_
 exact zk.o):p:=h ⟨k⟩
theorem EF(k:q)(h:Bx q->p:=by
 intro zk;rw[<- hW];refine hp.mono ?_;rintro e w1 ⟨rfl,P',S_⟩;revert w1 P' S_
 exact zk.o):p:=h ⟨k⟩
theorem amA(k:q)(h:Bx q->p:=by
 intro zk;have hB1:Below w.heap.size w W1:=ani;have Rv:w.heap.size+2<=W1.heap.size:=acn
 have b0:W1.heap[w.heap.size]?=some (.cells #[.pointer (Vq (C_.map K.cb)),.string s] 59):=by
  exact ah2
 have b1:W1.heap[w.heap.size+1]?=some (.cells #[.bool to.obj,VI to.n] 33):=by
  exact apv
 have q0:W1.cell? (VJ w.heap.size 0)=some (.pointer (Vq (C_.map K.cb))):=by simp only[World.cell?,b0];rfl
 have q1:W1.cell? (VJ w.heap.size 1)=some (.string s):=by simp only[World.cell?,b0];rfl
 have h1:=h.below hB1;have M8:=h1.run.c0;have Pe:=(h.lo rb Vy).2.1;revert hB1 Rv b0 b1 q0 q1 h1 M8 Pe
 exact zk.o):p:=h ⟨k⟩
theorem afG(k:q)(h:Bx q->p:=by
 intro zk;go_simp;refine w_.mono ?_;rintro e w4 ⟨v,m',K',rfl,r_,PR,d_⟩;have p0:=(Z9 (a:=(VJ w.heap.size 0)) aho).trans q3;have p1:=(Z9 (a:=(VJ w.heap.size 1)) aho).trans Pd;revert w4 v m' K' r_ PR d_ p0 p1
 exact zk.o):p:=h ⟨k⟩
theorem amo(k:q)(h:Bx q->p:=by
 intro zk;have G0:X2.heap.size=wr.heap.size:=by rw[SU,UN,UN]
 have Ax:∀k,k≠K.b->X2.heap[k]?=wr.heap[k]?:=λk e=>amB;have W7:¬w.heap.size=K.b:=VH;have s0:=(Z9 (a:=(VJ w.heap.size 0)) (Ax _ W7)).trans t0;have s1:=(Z9 (a:=(VJ w.heap.size 1)) (Ax _ W7)).trans t1;have Bs:Vu wr X2.drew m K m K2:=anM;have M7:Vu wr (X2.alloc (.cells #[.bool false,VI 0] 79)).drew m K m K2:=aos;have LR:K2.fu=fu/\K2.en=0/\K2.b=K.b/\K2.lab=K.lab:=by rw[hK2];exact⟨rfl,rfl,rfl,rfl⟩
 revert G0 Ax W7 s0 s1 Bs M7 LR
 exact zk.o):p:=h ⟨k⟩
theorem aoW(k:q)(h:Bx q->p:=by
 intro zk;go_simp;refine htk.mono ?_;rintro e w3 ⟨rfl,hf3,hc3⟩;have d1:=(Z9 (a:=(VJ rb 24)) qZ).trans ct;have d2:=(Z9 (a:=(VJ rb 0)) qZ).trans c0;have d3:=(Z9 (a:=(VJ w.heap.size 1)) iw).trans x1;have d4:=(Z9 (a:=(VJ K.b 1)) (hc3.block _ hbl Z1)).trans c1;have d5:w3.cell? (VJ fb 3)=some (VI (i:Nat)):=by {have:=hf3.c3;rw[HO.o.2.2.2]at this;exact this};have d6:=(Z9 (a:=(VJ g (i*2+1))) (hc3.block _ lg W7)).trans o1
 revert w3 hf3 hc3 d1 d2 d3 d4 d5 d6
 exact zk.o):p:=h ⟨k⟩
theorem apS(k:q)(h:Bx q->p:=by
 intro zk;refine(TU b s (i) 63 _ hs VH FM W_.o.to.rd).mono ?_
 exact zk.o):p:=h ⟨k⟩
theorem anz(k:q)(h:Bx q->p:=by
 intro zk;have hz0:W0.heap.size=w.heap.size+1:=by rw[hW0];simp
 have Gd:=Qk Vc.rk Vc.fr (.cells (vcs (List.replicate N Vl.zero)).toArray 79);have S_:=Vc.new (.cells (vcs (List.replicate N Vl.zero)).toArray 79);have hb1:(W0.alloc (.cells (vcs (List.replicate N Vl.zero)).toArray 79)).heap[W0.heap.size]?=some (.cells (vcs (List.replicate N Vl.zero)).toArray 79):=(Z4 W0 _).1;have hb2:=(ZV W0 (.cells (vcs (List.replicate N Vl.zero)).toArray 79) _ Br.lt).trans hb0;revert hz0 Gd S_ hb1 hb2
 exact zk.o):p:=h ⟨k⟩
theorem aow(k:q)(h:Bx q->p:=by
 intro zk;have af:∀o,(w4.alloc (.cells #[.bool v.obj,VI v.n] 79)).frozen? (VJ (w.heap.size+1) o)=false:=λo=>UL.free ⟨_,_,PH⟩ o;have QR:(w4.alloc (.cells #[.bool v.obj,VI v.n] 79)).heap[w4.heap.size]?=some (.cells #[.bool v.obj,VI v.n] 79):=(Z4 w4 _).1;refine abt ?_;intro b0 b1 hvl;have HY:Hid (Vu w (w4.alloc (.cells #[.bool v.obj,VI v.n] 79)) m K m' K'/\K'.lab (w.heap.size+1)=.no):=aep;revert af QR b0 b1 hvl HY
 exact zk.o):p:=h ⟨k⟩
theorem ak6(k:q)(h:Bx q->p:=by
 intro zk;have Bb:=UQ X_.JZ;have sI:Hid (RP w1 w.heap.size _ _ _ _ _):=(RY w _ _ _ _ _).to X_ VH;have hz:=(RY w _ _ _ _ _).to X_ VH;have oq:=hz.lt;have z0:=hz.c0;have z0:=hz.c1;have z0:=hz.c2;have z0:=hz.c3;have z0:=hz.c4;have z0:=hz.c5;have zf:=hz.f;rename_i N' P4 Mj EV E9;revert Bb sI hz oq N' P4 Mj EV E9 z0 zf
 exact zk.o):p:=h ⟨k⟩
theorem akr(k:q)(h:Bx q->p:=by
 intro zk;refine Ur 2 ?_;refine Ul 3 λY_ Z_=>?_;go_simp;refine(Dz kk t l sd jp st xn _ _ _ _ hkk ht2 hlo hhi apz m9.o.drew).mono ?_;rintro e W3 ⟨rfl,hb⟩;rw[gT.o];have hb2:=RH hb;have Vv:=UQ (PT.o.below hb2);have hi1:=UQ (hi2.o.mono hb2);have JS:=UQ apt;revert Y_ Z_ W3 hb hb2 Vv hi1 JS
 exact zk.o):p:=h ⟨k⟩
theorem Gg(k:q)(h:Bx q->p:=by
 intro zk;have HH:=UQ h;have L_:=h.lt;have Ng:Hid _:=E_;have Ma:=RG TH;revert HH L_ Ng Ma
 exact zk.o):p:=h ⟨k⟩
theorem afA(k:q)(h:Bx q->p:=by
 intro zk;have hl2:=(S_.off _ HO.o).1.lt;have hpb:=((S_.off _ HX.o.1).2.trans HX.o.2).trans HF.o.2.2;have hpl:=(S_.off _ HX.o.1).1.lt;revert hl2 hpb hpl
 exact zk.o):p:=h ⟨k⟩
theorem apU(k:q)(h:Bx q->p:=by
 intro zk;refine ZT (S:=(λw'=>w'.cell? (VJ fb 0)=some (VG mk)/\w'.cell? (VJ fb 10)=some (VI (f.pc:Nat))/\w'.cell? (VJ mk 0)=some (.slice (K.k.md mk).p f.ws.length (K.k.md mk).cap))) VE UG (λhHeld=>?_);revert hHeld
 exact zk.o):p:=h ⟨k⟩
theorem aoG(k:q)(h:Bx q->p:=by
 intro zk
 try refine UE ?_
 have Rp:¬U2 m K W1.heap.size:=λe=>afu;have hz2:=(hst.Ut.block _ Vy Rp).trans (Z4 _ _).1;have u0:w2.cell? (VJ W1.heap.size 0)=some (.bool false):=by simp only[World.cell?,hz2];rfl
 have u1:w2.cell? (VJ W1.heap.size 1)=some (VI 0):=by simp only[World.cell?,hz2];rfl
 have uf:∀o,w2.frozen? (VJ W1.heap.size o)=false:=λo=>UL.free ⟨_,_,hz2⟩ o;have q1:¬W1.heap.size=w.heap.size:=VH;have q3:¬W1.heap.size=rb:=VH;revert Rp hz2 u0 u1 uf q1 q3
 exact zk.o):p:=h ⟨k⟩
theorem kS(k:q)(h:Bx q->p:=by
 intro zk;rw[<- hW];refine hp.mono ?_
 exact zk.o):p:=h ⟨k⟩
theorem am5(k:q)(h:Bx q->p:=by
 intro zk
 have yr:Off W K fb d.sv w.heap.size:=⟨ZY Br.lt (by rw[hW];simp),Br.nf,Br.ns,Br.nl⟩
 have HS:Hid _:=hS
 have HL:Hid (N<=f.st.length/\f.st.length<=900/\z<=w.heap.size):=⟨aoY,hs,h.zl⟩
 have HI:Hid _:=(⟨hk,hen,hD,hargs,U_,hal⟩:RK w m K/\K.en=0/\fs.length+1=D/\(∀v∈(f.st.take N).reverse,TF m v)/\selector sl=true/\N=U6 sl)
 have p6:Hid (∃k:Kl,m.kl[f.home]?=some k/\True):=⟨hk0,L7,trivial⟩
 revert yr HS HL HI p6
 exact zk.o):p:=h ⟨k⟩
theorem amV(k:q)(h:Bx q->p:=by
 intro zk
 try refine UE ?_
 have hc3:=hc2.then hcc Qi;have l3:=ZY l2 hcc.size;have N_:=(hcc.block z10 (Z5.1 N_).1 VH).trans N_;revert hc3 l3 N_
 exact zk.o):p:=h ⟨k⟩
theorem rZ(k:q)(h:Bx q->p:=by
 intro zk;refine(TU b s (i) 43 _ hs VH FM W_.o.to.rd).mono ?_
 exact zk.o):p:=h ⟨k⟩
theorem am1(k:q)(h:Bx q->p:=by
 intro zk
 try refine UE ?_
 refine Ul 4 λY_ Z_=>?_;go_simp;refine Ly.mono ?_;rintro e w3 ⟨rfl,hb3⟩
 have Od:∀k,k<X2.heap.size+1->w3.heap[k]?=(X2.alloc (.cells #[.bool false,VI 0] 79)).heap[k]?:=(λk hk=>hb3.block k (by show k<(X2.alloc _).heap.size;simp;omega))
 have q3:=(Z9 (a:=(VJ w.heap.size 0)) aiJ).trans s0;have Pd:=(Z9 (a:=(VJ w.heap.size 1)) aiJ).trans s1;have z_:=HX.o.2.1.trans (Vu.below HX.o.2.1.rk hb3);revert Y_ Z_ w3 hb3 Od q3 Pd z_
 exact zk.o):p:=h ⟨k⟩
theorem wM(k:q)(h:Bx q->p:=by
 intro zk;refine Wf.mono ?_;rintro e w1 ⟨rfl,P',S_⟩;have HC:Hid _:=HB.o.trans S_;revert w1 P' S_ HC
 exact zk.o):p:=h ⟨k⟩
theorem ams(k:q)(h:Bx q->p:=by
 intro zk;have qn:(w3.alloc (.cells #[.bool false,VI 0] 79)).cell? (VJ w.heap.size 1)=some (VI tn):=(Z9 (a:=(VJ w.heap.size 1)) abD).trans Pd;have hvb:(w3.alloc (.cells #[.bool false,VI 0] 79)).heap[w3.heap.size]?=some (.cells #[.bool false,VI 0] 79):=(Z4 w3 _).1;have Se:w3.heap.size<(w3.alloc (.cells #[.bool false,VI 0] 79)).heap.size:=Vy;have R7:=z_.rk.QF UM;have Pt:=z_.Ut.size;revert qn hvb Se R7 Pt
 exact zk.o):p:=h ⟨k⟩
theorem aiD(k:q)(h:Bx q->p:=by
 intro zk;have hT:=Qk Vc.rk Vc.fr (.cells #[.bool f.self.obj,VI f.self.n] 79);have hA1:=hA.below (UF wr (.cells #[.bool f.self.obj,VI f.self.n] 79));have IA:(wr.alloc (.cells #[.bool f.self.obj,VI f.self.n] 79)).heap[wr.heap.size]?=some (.cells #[.bool f.self.obj,VI f.self.n] 79):=(Z4 wr _).1;have hwT:w.heap.size+2<=wr.heap.size:=by have:=FSq.lt;omega
 have g2:=Vc.fr.f2;have g2:=Vc.fr.f3;rename_i N';revert hT hA1 IA hwT N' g2
 exact zk.o):p:=h ⟨k⟩
theorem amX(k:q)(h:Bx q->p:=by
 intro zk;refine ZT (S:=(λw'=>w'.cell? (VJ g 0)=some (.string y0)/\w'.cell? (VJ g 1)=some (.string y1))) VE UG (λhHeld=>?_);revert hHeld
 exact zk.o):p:=h ⟨k⟩
theorem ah6(k:q)(h:Bx q->p:=by
 intro zk;have f1:=hA1.fp.fr.f1;obtain⟨cg,Fm,hcv,hat⟩:=hA1.fp.rk.vc_;obtain⟨hk1,hk2,hk3⟩:=p6.o
 obtain⟨y,hy⟩:∃y,K.cl[f.home]?=some y:=⟨_,Z8 (by rw[hA1.fp.rk.rel.len];exact(Z7.1 hk2).1)⟩
 have d1:=hat.c1 f.home y hy;rw[(hA1.fp.rk.rel.rel f.home hk1 y hk2 hy).2.1,alv]at d1;have c0:=hA1.fp.rk.c0;rw[hcv]at c0;have Pu:(f.home:Int)<(K.cl.length:Int):=by have:=(Z7.1 hy).1;omega
 have hA2:=hA1.below (ZR _ X).drew;revert f1 cg Fm hcv hat hk1 hk2 hk3 y hy d1 c0 Pu hA2
 exact zk.o):p:=h ⟨k⟩
theorem qm(k:q)(h:Bx q->p:=by
 intro zk;refine(dS s _ hs).mono ?_
 exact zk.o):p:=h ⟨k⟩
theorem ahF(k:q)(h:Bx q->p:=by
 intro zk;have hz1:W1.heap.size<=z:=VH;have hb3:Below w2.heap.size w2 W3:=fQ
 have H3:Hid (Sg Dd w0 m0 K0 rb W3 {m with looks:=m.looks+1} K1 fuel bs fs):=by
  have hx:=h1.below hb3;exact hx
 have KS:Hid (∀k,k<W1.heap.size->¬U2 m K k->W3.heap[k]?=W1.heap[k]?):=by
  exact apM
 have M3:Hid (K1.b=K.b/\(∀c,c<m.kl.length->K1.cb c=K.cb c)/\∀k,K.k.Mk k->K1.k.Mk k/\K1.k.md k=K.k.md k):=ajS;revert hz1 hb3 H3 KS M3
 exact zk.o):p:=h ⟨k⟩
theorem Dw(k:q)(h:Bx q->p:=by
 intro zk;refine(TU b s (i) 42 _ hs VH FM W_.o.to.rd).mono ?_
 exact zk.o):p:=h ⟨k⟩
theorem aaP(k:q)(h:Bx q->p:=by
 intro zk;refine Ur 9 ?_;refine Ul 10 λY_ Z_=>?_;go_simp;revert Y_ Z_
 exact zk.o):p:=h ⟨k⟩
theorem ahh(k:q)(h:Bx q->p:=by
 intro zk;have hk4:∀k,k<W1.heap.size->w.heap.size<=k->w4.heap[k]?=W1.heap[k]?:=λk e1 e2=>r_.Ut.block k e1 (λe=>by have:=Wg.o k e;omega);have y0:=h_.run.c0;have y2:=(Z9 (a:=(VJ w.heap.size 2)) (hk4 _ l3 UM)).trans y2;have v14:=(Z9 (a:=(VJ w2.heap.size 1)) ail).trans v1;rw[r_.b]at y0;revert hk4 y0 y2 v14
 exact zk.o):p:=h ⟨k⟩
theorem ahg(k:q)(h:Bx q->p:=by
 intro zk;have hBa:Below W1.heap.size W1 W1.drew:=(ZR _ _).drew;have hBb:Below W1.heap.size W1 (W1.alloc (.cells #[.pointer none,.pointer none] 62)).drew:=((ZR _ _).alloc UM _).drew;revert hBa hBb
 exact zk.o):p:=h ⟨k⟩
theorem gY(k:q)(h:Bx q->p:=by
 intro zk;have hc2:=hc1.then amJ Js;have SF:=LL.same amM;have XS:=(hB2.cell (p:=(VJ rb 24)) l1).trans Lt;have l2:=ZY l1 hB2.size;revert hc2 SF XS l2
 exact zk.o):p:=h ⟨k⟩
theorem aiv(k:q)(h:Bx q->p:=by
 intro zk;have B:=h.box x pl hW1;have c0:=B.c0;have x2:=B.x2;have l1:=B.l1;have l1:=B.l3;have HB:Hid _:=B;have hmk:∀W,Below W1.heap.size W1 W->Calls prog 16 #[VG K.b,.string (VF x.a)] W λe w'=>e=.returned (.tuple #[(m.make (VF x.a)).1.val,VI (m.make (VF x.a)).2.1])/\∃K',Step W w' m K (m.make (VF x.a)).2.2 K':=λW hW=>um (B.sg.below hW).Qj.Ub (VF x.a);rename_i N';revert B c0 x2 N' l1 HB hmk
 exact zk.o):p:=h ⟨k⟩
theorem ana(k:q)(h:Bx q->p:=by
 intro zk;refine ZT (S:=(λw'=>w'.cell? (VJ g 0)=some (.string y0)/\w'.cell? (VJ g 1)=some (.string y1)/\w'.cell? (VJ g 2)=some (.string y2))) VE UG (λhHeld=>?_);revert hHeld
 exact zk.o):p:=h ⟨k⟩
theorem BH(k:q)(h:Bx q->p:=by
 intro zk
 obtain⟨x,hx⟩:∃x,ws[k]?=some x:=⟨_,Z8 hkn⟩
 revert x hx
 exact zk.o):p:=h ⟨k⟩
theorem abH(k:q)(h:Bx q->p:=by
 intro zk;go_simp;have htk:=take_any LL;unfold Vl.val at htk;refine htk.mono ?_;clear htk;rintro e V2 ⟨rfl,SF,hcc⟩;have XS:=(Z9 (a:=(VJ rb 24)) (hcc.block _ l1 HB.o.n1)).trans Lt;revert V2 SF hcc XS
 exact zk.o):p:=h ⟨k⟩
theorem ahV(k:q)(h:Bx q->p:=by
 intro zk;have p0:=(Z9 (a:=(VJ w.heap.size 0)) ajC).trans dx;have p1:=(Z9 (a:=(VJ w.heap.size 1)) ajC).trans qn;have Wo:=(r_.Ut.block w3.heap.size Se (λx=>x.1 R7)).trans hvb;have u0:=(Vp Wo).1;have u1:=(Vp Wo).2;have uf:∀o,w4.frozen? (VJ w3.heap.size o)=false:=λo=>UL.free ⟨_,_,Wo⟩ o;unfold Vl.val;revert p0 p1 Wo u0 u1 uf
 exact zk.o):p:=h ⟨k⟩
theorem LU(k:q)(h:Bx q->p:=by
 intro zk;obtain⟨z0,z1,z2,z3,z4,z5,zf⟩:=J_.o.hz.all;obtain⟨u0,u1,u2,u3,u4,u5,uf⟩:=J_.o.hu.all;revert z0 z1 z2 z3 z4 z5 zf u0 u1 u2 u3 u4 u5 uf
 exact zk.o):p:=h ⟨k⟩
theorem rD(k:q)(h:Bx q->p:=by
 intro zk;refine hcall.mono ?_;rintro e w2 ⟨rfl,hf2,hc2⟩;have XS:=(Z9 (a:=(VJ rb 24)) iY).trans ct;revert w2 hf2 hc2 XS
 exact zk.o):p:=h ⟨k⟩
theorem fC(k:q)(h:Bx q->p:=by
 intro zk;simp only[reduceIte,Nat.reduceEqDiff,or_self,YE,false_or];refine LP h LW (a1 LW uI zb7 (λv hv=>?_)) I' C';revert v hv
 exact zk.o):p:=h ⟨k⟩
theorem iM(k:q)(h:Bx q->p:=by
 intro zk;refine(L6 s _ hs).mono ?_;rintro e w1 ⟨rfl,hb1⟩;rw[HC.o];revert w1 hb1
 exact zk.o):p:=h ⟨k⟩
theorem uy(k:q)(h:Bx q->p:=by
 intro zk;have D_:((s[0].toNat:Int)==115)=false:=Vo;have D_:((s.size:Int)==3)=true:=Vo;rename_i N';revert N' D_
 exact zk.o):p:=h ⟨k⟩
theorem ajl(k:q)(h:Bx q->p:=by
 intro zk;rw[hW1];refine h2.aside h0 (S:=λk=>k=W1.heap.size) (((Vt.refl _ (λk=>k=W1.heap.size)).setCell _ _ (λ_=>rfl)).setCell _ _ (λ_=>rfl)) (λk e=>?_);rw[e];refine⟨by have:=HB.o.sg.Qj.Ut.size;omega,λe'=>?_,λe'=>by have:=(HB.o.sg.lo _ e').2.1;omega,λe'=>by have:=(HB.o.sg.dead _ e').2.1;omega⟩;revert k e e'
 exact zk.o):p:=h ⟨k⟩
theorem ai1(k:q)(h:Bx q->p:=by
 intro zk;have I_:=RT.o.1.ref hr;have hB1:=RT.o.2.1.ref hr;have hb1:=hB1.2.trans RT.o.2.2;have Tp:=I_.new (.cells #[.bool v.obj,VI v.n] 79);have L_:(w2.alloc (.cells #[.bool v.obj,VI v.n] 79)).heap[w2.heap.size]?=some (.cells #[.bool v.obj,VI v.n] 79):=(Z4 w2 _).1;have hb4:=(ZV w2 (.cells #[.bool v.obj,VI v.n] 79) _ hB1.1.lt).trans hb1;revert I_ hB1 hb1 Tp L_ hb4
 exact zk.o):p:=h ⟨k⟩
theorem fP(k:q)(h:Bx q->p:=by
 intro zk
 try refine UE ?_
 have hc3:=hc2.then hcc Qi;have l3:=ZY l2 hcc.size;revert hc3 l3
 exact zk.o):p:=h ⟨k⟩
theorem Ij(k:q)(h:Bx q->p:=by
 intro zk;obtain⟨k0,n0,t2,t2,t2,hv⟩:=ab7 o;have HV:Hid _:=hv;clear hv;rename_i N' P4;revert k0 n0 N' P4 t2 HV
 exact zk.o):p:=h ⟨k⟩
theorem aja(k:q)(h:Bx q->p:=by
 intro zk;have hz:=(Z4 w (.cells #[.bool false,VI 0] 33)).1;have z0:(w.alloc (.cells #[.bool false,VI 0] 33)).cell? (VJ w.heap.size 0)=some (.bool false):=by simp only[World.cell?,hz];rfl
 have z1:(w.alloc (.cells #[.bool false,VI 0] 33)).cell? (VJ w.heap.size 1)=some (VI 0):=by simp only[World.cell?,hz];rfl
 revert hz z0 z1
 exact zk.o):p:=h ⟨k⟩
theorem iC(k:q)(h:Bx q->p:=by
 intro zk;refine HR.o _ _ _ ?_;refine ZQ (Rt results76 _ _ _ _ _ rfl aox) rfl ?_
 exact zk.o):p:=h ⟨k⟩
theorem yS(k:q)(h:Bx q->p:=by
 intro zk;refine(TU b s (i) 60 _ hs VH FM W_.o.to.rd).mono ?_
 exact zk.o):p:=h ⟨k⟩
theorem NK(k:q)(h:Bx q->p:=by
 intro zk;have HH:Hid (RK w m K/\K.en=0):=adQ;revert HH
 exact zk.o):p:=h ⟨k⟩
theorem ah9(k:q)(h:Bx q->p:=by
 intro zk;rw[<- hW1];have hb3:Below w2.heap.size w2 W1:=fQ;have hz3:W1.heap[w2.heap.size]?=some (.cells #[.bool true,VI n] 33):=abf;have h_:=H2.o.1.below hb3;have hs2:=H2.o.2.size;have y2:=(hb3.cell (p:=(VJ w.heap.size 2)) ahZ).trans ((Z9 (a:=(VJ w.heap.size 2)) (H2.o.2.block _ l3 HB.o.n2)).trans x2);have y0:=h_.run.c0;revert hb3 hz3 h_ hs2 y2 y0
 exact zk.o):p:=h ⟨k⟩
theorem ahE(k:q)(h:Bx q->p:=by
 intro zk;obtain⟨W,hW,hF,hO,hb⟩:=UW hk h (⟨k,n,sl,xa,xb⟩,xi);change W=w.alloc (.cells #[.int .u8 (k:Nat),VI n,.string (VF sl),.string (VF xa),.string (VF xb),VI (xi:Nat)] 188) at hW;change Calls _ _ #[VG K.b,VG fb,.agg #[.int .u8 (k:Nat),VI n,.string (VF sl),.string (VF xa),.string (VF xb),VI (xi:Nat)]] _ _;revert W hF hO hb hW
 exact zk.o):p:=h ⟨k⟩
theorem ajG(k:q)(h:Bx q->p:=by
 intro zk;have y0:=(Z9 (a:=(VJ z 0)) (hb3 z M5 e1)).trans z0;have y1:=(Z9 (a:=(VJ z 1)) (hb3 z M5 e1)).trans z1;have x0:=(Z9 (a:=(VJ (w.heap.size+1) 0)) (hb3 _ MT e3)).trans t0;have x1:=(Z9 (a:=(VJ (w.heap.size+1) 1)) (hb3 _ MT e3)).trans t1;revert y0 y1 x0 x1
 exact zk.o):p:=h ⟨k⟩
theorem aiF(k:q)(h:Bx q->p:=by
 intro zk
 have HS:Hid (Ux w sb l ps/\TabAt w b n R/\Cls w m cb cm/\Sm bd w L pm Sd/\(∀s p,Reg l ps s p->(p,s)∈L)):=⟨hs,ht,hcl,hP,q_⟩
 have HN:Hid (¬Vm L pm b/\(∀c,c<m.kl.length->¬Vm L pm (cb c)/\cb c≠b)/\(∀k,Vm L pm k->k<w.heap.size)):=⟨Ww,DE,Rr⟩
 revert HS HN
 exact zk.o):p:=h ⟨k⟩
theorem acM(k:q)(h:Bx q->p:=by
 intro zk;rw[agK hd Vz Vz (Iu hd)];have e:=Ny hd;unfold Px;rw[ZX sV];unfold KZ;rw[GH Vz,ZX VH];unfold KJ;revert e
 exact zk.o):p:=h ⟨k⟩
theorem ahw(k:q)(h:Bx q->p:=by
 intro zk;obtain⟨W,hW,hF,hO,hb⟩:=UW hk h (⟨98,n,sl,xa,xb⟩,xi);change W=w.alloc (.cells #[.int .u8 98,VI n,.string (VF sl),.string (VF xa),.string (VF xb),VI (xi:Nat)] 188) at hW;change Calls _ _ #[VG K.b,VG fb,.agg #[.int .u8 98,VI n,.string (VF sl),.string (VF xa),.string (VF xb),VI (xi:Nat)]] _ _;revert W hF hO hb hW
 exact zk.o):p:=h ⟨k⟩
theorem La(k:q)(h:Bx q->p:=by
 intro zk
 try refine UE ?_
 refine Ur 11 ?_
 exact zk.o):p:=h ⟨k⟩
theorem aiq(k:q)(h:Bx q->p:=by
 intro zk;have w_:=iT w3 m K2 [] ⟨false,tn⟩ (m.of ⟨false,tn⟩) sel (.slice ap args.length cap) args ab z_.rk HX.o.2.2.2.2.1 iQ rfl gy RW.o Mx.o HI.o.2.2.1 HI.o.2.2.2.1 eU ahB aiN;rw[HX.o.2.2.2.2.2.1,HX.o.2.2.2.1]at w_;unfold Vl.val at w_;revert w_
 exact zk.o):p:=h ⟨k⟩
theorem ahp(k:q)(h:Bx q->p:=by
 intro zk;have w_:=iT w3 m K2 [] ⟨true,tn⟩ (m.of ⟨true,tn⟩) sel (.slice ap args.length cap) args ab z_.rk HX.o.2.2.2.2.1 iQ rfl gy RW.o Mx.o HI.o.2.2.1 HI.o.2.2.2.1 eU ahB aiN;rw[HX.o.2.2.2.2.2.1,HX.o.2.2.2.1]at w_;unfold Vl.val at w_;revert w_
 exact zk.o):p:=h ⟨k⟩
theorem aaQ(k:q)(h:Bx q->p:=by
 intro zk;rw[<- hV0,<- t_];have j_:Below V2.heap.size V2 V3:=ahU;have N_:V3.heap[z10]?=some (.cells #[.bool false,VI 0] 33):=apb;have Ta:W1.heap.size<=z10:=am3;revert j_ N_ Ta
 exact zk.o):p:=h ⟨k⟩
theorem adU(k:q)(h:Bx q->p:=by
 intro zk;rw[<- hV0,<- u_];have j_:Below V2.heap.size V2 V3:=ahU;have K_:V3.heap[z11]?=some (.cells #[.bool false,VI 0] 33):=anf;have S7:W1.heap.size<=z11:=aob;revert j_ K_ S7
 exact zk.o):p:=h ⟨k⟩
theorem aiO(k:q)(h:Bx q->p:=by
 intro zk
 have HX:Hid (Vu wr X2.drew m K m K2/\Vu wr (X2.alloc (.cells #[.bool false,VI 0] 79)).drew m K m K2/\X2.heap.size=wr.heap.size/\K2.fu=fu/\K2.en=0/\K2.b=K.b/\K2.lab=K.lab):=⟨Bs,M7,G0,LR⟩
 have gF:w.heap.size+1<X2.heap.size:=VH;have C7:¬X2.heap.size=w.heap.size:=VH;revert HX gF C7
 exact zk.o):p:=h ⟨k⟩
theorem aif(k:q)(h:Bx q->p:=by
 intro zk;refine ZT (S:=(λw'=>w'.cell? (VJ w.heap.size 0)=some ((VG (K.cb c)))/\w'.cell? (VJ w.heap.size 1)=some (.string s)/\w'.cell? (VJ K.b (6+i*4))=some (.pointer (Vq cr))/\w'.cell? (VJ K.b (6+i*4+1))=some (.string r.sel))) VE UG (λhHeld=>?_);revert hHeld
 exact zk.o):p:=h ⟨k⟩
theorem aic(k:q)(h:Bx q->p:=by
 intro zk;refine ZT (S:=(λw'=>w'.cell? (VJ rb 0)=some (VG K.b)/\w'.cell? (VJ w.heap.size 2)=some (.string (VF x.a))/\w'.cell? (VJ w.heap.size 3)=some (.string (VF x.sel))/\w'.cell? (VJ w.heap.size 4)=some (.string (VF x.b)))) VE UG (λhHeld=>?_);revert hHeld
 exact zk.o):p:=h ⟨k⟩
theorem aiP(k:q)(h:Bx q->p:=by
 intro zk;have hr0:=eT.o;rw[ZX (by rw[hno];simp)]at hr0;have hs1:=HH.o.2.rk.fuel fu;have hs2:Vu wr ((wr.setCell (VJ K.b 3) (VI (fu:Nat))).setCell (VJ K.b 4) (VI 0)) m K m {K with fu:=fu,en:=0}:=hs1.trans (hs1.rk.end_ 0);have c3:=HH.o.2.rk.c3;have c4:=HH.o.2.rk.c4;have kf:=λo=>HH.o.2.rk.Vb.free o;revert hr0 hs1 hs2 c3 c4 kf
 exact zk.o):p:=h ⟨k⟩
theorem qW(k:q)(h:Bx q->p:=by
 intro zk;refine(Tt s [110,101,119,58] false _ VH Vy G1.o).mono ?_
 exact zk.o):p:=h ⟨k⟩
theorem ahY(k:q)(h:Bx q->p:=by
 intro zk;have G_:=(HF.o.1.trans S_).new (.cells #[.bool v.obj,VI v.n] 79);have ho1:=Qk S_.rk S_.fr (.cells #[.bool v.obj,VI v.n] 79);have k_:(w1.alloc (.cells #[.bool v.obj,VI v.n] 79)).heap[w1.heap.size]?=some (.cells #[.bool v.obj,VI v.n] 79):=(Z4 w1 _).1;revert G_ ho1 k_
 exact zk.o):p:=h ⟨k⟩
theorem ajV(k:q)(h:Bx q->p:=by
 intro zk
 try refine UE ?_
 refine Ul 6 λY_ Z_=>?_;go_simp;refine(hmk _ hBb).mono ?_;rintro e w2 ⟨rfl,K',hst⟩;have h2:=(HB.o.sg.below hBb).img hst;have y0:=h2.run.c0;rw[hst.b]at y0;have y2:=(Z9 (a:=(VJ w.heap.size 2)) (hst.Ut.block _ Vo aiQ)).trans ((hBb.cell (p:=(VJ w.heap.size 2)) l1).trans x2);revert Y_ Z_ w2 K' hst h2 y0 y2
 exact zk.o):p:=h ⟨k⟩
theorem zN(k:q)(h:Bx q->p:=by
 intro zk;have A3:∀o,Y.frozen? (VJ (w.heap.size+1) o)=false:=λo=>an5;revert A3
 exact zk.o):p:=h ⟨k⟩
theorem ahn(k:q)(h:Bx q->p:=by
 intro zk;refine(KX y0 _ _ SE B0.o).mono ?_
 exact zk.o):p:=h ⟨k⟩
theorem qG(k:q)(h:Bx q->p:=by
 intro zk;have hp:=Hr (f:=f) hF.rk hF.fr Ea;unfold Vl.val at hp;revert hp
 exact zk.o):p:=h ⟨k⟩
theorem aiG(k:q)(h:Bx q->p:=by
 intro zk;rintro e W3 ⟨rfl,hb3⟩;have c3:=(hb3.cell (p:=(VJ q 0)) (ZE W2 (VJ q 0) c0)).trans c0;have cf3:∀o,W3.frozen? (VJ q o)=false:=λo=>(Zr (a:=(VJ q o)) (hb3.block q (ZE W2 (VJ q 0) c0))).trans (cf o);revert W3 hb3 c3 cf3
 exact zk.o):p:=h ⟨k⟩
theorem ajK(k:q)(h:Bx q->p:=by
 intro zk;have G_:=(HF.o.1.trans S_).new (.cells #[.bool bo,VI bn] 79);have ho1:=Qk S_.rk S_.fr (.cells #[.bool bo,VI bn] 79);have k_:(w1.alloc (.cells #[.bool bo,VI bn] 79)).heap[w1.heap.size]?=some (.cells #[.bool bo,VI bn] 79):=(Z4 w1 _).1;revert G_ ho1 k_
 exact zk.o):p:=h ⟨k⟩
theorem tX(k:q)(h:Bx q->p:=by
 intro zk;refine(Tt s [98,101,58] false _ VH Vy G2.o).mono ?_
 exact zk.o):p:=h ⟨k⟩
theorem yK(k:q)(h:Bx q->p:=by
 intro zk
 have Wg:Hid (∀k,U2 m K k->k<w.heap.size):=by
  exact am0
 revert Wg
 exact zk.o):p:=h ⟨k⟩
theorem ajk(k:q)(h:Bx q->p:=by
 intro zk;refine ZT (S:=(λw'=>w'.cell? (VJ K.b 0)=some (.slice (some (VJ cg 0)) K.cl.length Fm)/\w'.cell? (VJ cg (f.home*4+1))=some (VI (Qh hk1.above))/\w'.cell? (VJ fb 1)=some (VI (f.home:Nat)))) VE UG (λhHeld=>?_);revert hHeld
 exact zk.o):p:=h ⟨k⟩
theorem yM(k:q)(h:Bx q->p:=by
 intro zk;refine ZQ (results_none rfl _ _ _) rfl ?_
 exact zk.o):p:=h ⟨k⟩
theorem ahJ(k:q)(h:Bx q->p:=by
 intro zk;have hpb:=((S_.off _ HX.o.1).2.trans HX.o.2).trans HF.o.2.2;have pk:w1.cell? (VJ w.heap.size 0)=some (.int .u8 (k:Nat)):=by simp only[World.cell?,hpb];rfl
 have HQ:Hid _:=Z6;have k4:=Z6.rk.c4;have kf:=λo=>Z6.rk.Vb.free o;have hbl:=Z6.rk.Vb.lt;have HE:=UQ (Z6.rk.end_ 3);revert hpb pk HQ k4 kf hbl HE
 exact zk.o):p:=h ⟨k⟩
theorem acg(k:q)(h:Bx q->p:=by
 intro zk;have f1:=Vv.o.f1;have z0:=Vv.o.z0;have z1:=Vv.o.z1;have z2:=Vv.o.z2;have z3:=Vv.o.z3;have z4:=Vv.o.z4;have z5:=Vv.o.z5;have e1:=JS.o.c1;revert f1 z0 z1 z2 z3 z4 z5 e1
 exact zk.o):p:=h ⟨k⟩
theorem ahR(k:q)(h:Bx q->p:=by
 intro zk;have v0:=(Vp hb4).1;have v1:=(Vp hb4).2;have q0:=(Vp L_).1;have q1:=(Vp L_).2;have hvl:=(Z5.1 hb4).1;have hwl:=(Z5.1 L_).1;have PA:=NG v X.drew;unfold Vl.val at PA;have RT:=UQ (Tp.1.below (ZR _ _).drew);revert v0 v1 q0 q1 hvl hwl PA RT
 exact zk.o):p:=h ⟨k⟩
theorem agS(k:q)(h:Bx q->p:=by
 intro zk;have v1:W1.cell? (VJ w2.heap.size 1)=some (VI n):=by simp only[World.cell?,hz3];rfl
 have Ss:=acP h_.Qj.Ub.drew n (VF x.a);rw[HD.o]at Ss;have l3:w.heap.size<W1.heap.size:=by have:=hb3.size;omega
 have A6:=(Z5.1 hz3).1;revert v1 Ss l3 A6
 exact zk.o):p:=h ⟨k⟩
theorem acE(k:q)(h:Bx q->p:=by
 intro zk;refine(TU b s (i+nm.length) 46 _ hs VH JT.o J_.o.to.rd).mono ?_;rintro e w1 ⟨rfl,X_⟩;have J_:Hid _:=J_.o.call X_;revert w1 X_ J_
 exact zk.o):p:=h ⟨k⟩
theorem qC(k:q)(h:Bx q->p:=by
 intro zk;have IH:Hid ((s.extract i (i+1)).size<=140737488355328):=aeK hs _ _;revert IH
 exact zk.o):p:=h ⟨k⟩
theorem aeP(k:q)(h:Bx q->p:=by
 intro zk;refine HR.o _ _ _ ?_;refine ZQ (Rt results109 _ _ _ _ _ rfl aod) rfl ?_
 exact zk.o):p:=h ⟨k⟩
theorem qL(k:q)(h:Bx q->p:=by
 intro zk;have hlt:=(Z7.1 hx).1;have hw:EG f.ws f.pc=x.1:=ql;revert hlt hw
 exact zk.o):p:=h ⟨k⟩
theorem ajf(k:q)(h:Bx q->p:=by
 intro zk;have Jn:=S_.off _ HG.o.2.1;have hop:=S_.off _ HG.o.2.2.2.1;have hb:=Jn.2.trans HG.o.2.2.1
 obtain⟨u,hu⟩:∃u,(List.replicate (g+1) Vl.zero++(f.st.take (N-(g+1))).reverse)[g]?=some u:=⟨_,Z8 Vo⟩
 have DH:=PV _ _ _ hu;revert Jn hop hb u hu DH
 exact zk.o):p:=h ⟨k⟩
theorem aju(k:q)(h:Bx q->p:=by
 intro zk;refine ZT (S:=(λw'=>w'.cell? (VJ w.heap.size 0)=some (.pointer (Vq (C_.map K.cb)))/\w'.cell? (VJ w.heap.size 1)=some (.string s)/\w'.cell? (VJ rb 0)=some (VG K.b))) VE UG (λhHeld=>?_);revert hHeld
 exact zk.o):p:=h ⟨k⟩
theorem aij(k:q)(h:Bx q->p:=by
 intro zk;have gO:=Ke.form;obtain⟨wx,wj,LE,LA,DB,Hc⟩:=gO;have w_:=adD I_.r o.to X_ o.s SE (args:=o.args) (ap:=wx) (cap:=wj) (ab:=LE) agX ahd N6.o.all SE o.n;rw[<- LA,HR.o,I_.sZ]at w_;unfold Vl.val at w_;clear LA DB Hc;revert wx wj LE w_
 exact zk.o):p:=h ⟨k⟩
theorem ajq(k:q)(h:Bx q->p:=by
 intro zk
 have Mx:Hid (∀v∈args,TF m v):=λu hu=>⟨HI.o.2.1 u hu,λe=>by
  obtain⟨k,hk⟩:=Yd hu;have:=HG.o k u (Z7.1 hk).1 hk;rw[e]at this
  simpa using this⟩
 revert Mx
 exact zk.o):p:=h ⟨k⟩
theorem ahx(k:q)(h:Bx q->p:=by
 intro zk;refine ZT (S:=(λw'=>w'.cell? (VJ rb 0)=some (VG K.b)/\w'.cell? (VJ w.heap.size 2)=some (.string (VF x.a))/\w'.cell? (VJ w.heap.size 3)=some (.string (VF x.sel)))) VE UG (λhHeld=>?_);revert hHeld
 exact zk.o):p:=h ⟨k⟩
theorem agR(k:q)(h:Bx q->p:=by
 intro zk;have Sk:=HZ.o.1.kept HZ.o.2.1 AI.o HZ.o.2.2.1 S2;have a0:=(Vp Sk).1;have a1:=(Vp Sk).2;have af:∀o,w0.frozen? (VJ w.heap.size o)=false:=λo=>UL.free ⟨_,_,Sk⟩ o;have al:=(Z5.1 Sk).1;revert Sk a0 a1 af al
 exact zk.o):p:=h ⟨k⟩
theorem ain(k:q)(h:Bx q->p:=by
 intro zk;go_simp;refine Lf.mono ?_;rintro e w3 ⟨rfl,hb3⟩;have q3:=(Z9 (a:=(VJ w.heap.size 0)) ais).trans s0;have Pd:=(Z9 (a:=(VJ w.heap.size 1)) ais).trans s1;have z_:=HX.o.1.trans (Vu.below HX.o.1.rk hb3);revert w3 hb3 q3 Pd z_
 exact zk.o):p:=h ⟨k⟩
theorem aio(k:q)(h:Bx q->p:=by
 intro zk;refine ZT (S:=(λw'=>w'.cell? (VJ rb 0)=some (VG K.b)/\w'.cell? (VJ w.heap.size 2)=some (.string (VF x.a))/\w'.cell? (VJ w.heap.size 4)=some (.string (VF x.b)))) VE UG (λhHeld=>?_);revert hHeld
 exact zk.o):p:=h ⟨k⟩
theorem iO(k:q)(h:Bx q->p:=by
 intro zk;refine Uh 11 ?_;refine Uh 12 ?_;refine Uh 13 ?_;refine Uh 14 ?_
 exact zk.o):p:=h ⟨k⟩
theorem ajM(k:q)(h:Bx q->p:=by
 intro zk;obtain⟨d0,yq,yh,yc,d1,wD,wA⟩:=hget j y hy;rw[<- HI.o.2.2 mg _ r9]at d0 d1
 have HY:Hid (k.ms[j]?=some y/\acT w Q y (.string y.sel) (.slice yq y.ws.length yc)):=⟨hy,rfl,yq,yh,yc,rfl,wD,wA⟩
 have htk:k.ms.take (j+1)=k.ms.take j++[y]:=by rw[Yc,hy];rfl
 revert d0 yq yh yc d1 wD wA HY htk
 exact zk.o):p:=h ⟨k⟩
theorem uZ(k:q)(h:Bx q->p:=by
 intro zk;refine Uh 11 ?_;refine Ur 12 ?_
 exact zk.o):p:=h ⟨k⟩
theorem aaX(k:q)(h:Bx q->p:=by
 intro zk;have D_:((s[0].toNat:Int)==115)=false:=Vo;have D_:((s.size:Int)==3)=false:=Vo;rename_i N';revert N' D_
 exact zk.o):p:=h ⟨k⟩
theorem ahC(k:q)(h:Bx q->p:=by
 intro zk;have hne:∀k,Vm L T_ k->k≠w.heap.size:=λk hk e=>by have:=nh.o k (Qt k hk);omega
 have HL:=UQ akj
 have HS:Hid (wr.iterSeen w.heap.size=seen):=by
  exact ag9
 have m_:=hpl.same (λk hk=>i2 k (hne k hk));have Wz:=hch.then i4 aK;revert hne HL HS m_ Wz
 exact zk.o):p:=h ⟨k⟩
theorem ahi(k:q)(h:Bx q->p:=by
 intro zk;have Li:(d:Int)<32:=VH;have hok:=En HH.o.ok K.fu C_ to sel args fs HI.o.2.1 HI.o.2.2.1 HI.o.2.2.2.1 (λ_=>HI.o.2.2.2.2.1) HI.o.2.2.2.2.2 HI.o.1 (by rw[Wg.o];exact hd);rw[hsend]at hok;revert Li hok
 exact zk.o):p:=h ⟨k⟩
theorem adw(k:q)(h:Bx q->p:=by
 intro zk;refine(Qd b s i 97 122 6 isSmall a _ hs hi VH HH.o rfl HS.o).mono ?_;rintro e w1 ⟨rfl,X_⟩;have HT:Hid _:=X_;revert w1 X_ HT
 exact zk.o):p:=h ⟨k⟩
theorem aiV(k:q)(h:Bx q->p:=by
 intro zk;refine ZT (S:=(λw'=>w'.cell? (VJ K.b 1)=some (.slice (some (VJ g 0)) m.obs.length cap)/\w'.cell? (VJ g (i*2+1))=some (.slice (some (VJ (K.ob i) 0)) n n))) VE UG (λhHeld=>?_);revert hHeld
 exact zk.o):p:=h ⟨k⟩
theorem adV(k:q)(h:Bx q->p:=by
 intro zk;have Pu:(c:Int)<(K.cl.length:Int):=VH;have x6:(i:Int)<(k.ms.length:Int):=VH;have Vn:(k.ms.length:Int)<=1600000000:=VH;revert Pu x6 Vn
 exact zk.o):p:=h ⟨k⟩
theorem agZ(k:q)(h:Bx q->p:=by
 intro zk;have Wo:=(r_.Ut.block X2.heap.size Se (λx=>x.1 R7)).trans hvb;have u0:=(Vp Wo).1;have u1:=(Vp Wo).2;have uf:∀o,w4.frozen? (VJ X2.heap.size o)=false:=λo=>UL.free ⟨_,_,Wo⟩ o;unfold Vl.val;revert Wo u0 u1 uf
 exact zk.o):p:=h ⟨k⟩
theorem ahA(k:q)(h:Bx q->p:=by
 intro zk;refine ZT (S:=(λw'=>w'.cell? (VJ rb 0)=some (VG K.b)/\w'.cell? (VJ w.heap.size 2)=some (.string (VF x.a))/\w'.cell? (VJ w2.heap.size 1)=some (VI n))) VE UG (λhHeld=>?_);revert hHeld
 exact zk.o):p:=h ⟨k⟩
theorem ai4(k:q)(h:Bx q->p:=by
 intro zk;refine hcall.mono ?_;rintro e w2 ⟨rfl,hf2,hc2⟩;have h_:=HB.o.sg.top (f':={f with st:=r}) h0 hc2 hf2 rfl rfl
 have H2:Hid (Sg Dd w0 m0 K0 rb w2 m K fuel ((fb,mk)::bs) ({f with st:=r}::fs)/\Vt W1 w2 (λk=>k=fb)):=⟨h_,hc2⟩
 revert w2 hf2 hc2 h_ H2
 exact zk.o):p:=h ⟨k⟩
theorem aa9(k:q)(h:Bx q->p:=by
 intro zk;have c0:=hwr.c0 k x hx;have c1:=hwr.c1 k x hx;have c2:=hwr.c2 k x hx;have c3:=hwr.c3 k x hx;have c4:=hwr.c4 k x hx;have c5:=hwr.c5 k x hx;revert c0 c1 c2 c3 c4 c5
 exact zk.o):p:=h ⟨k⟩
theorem zG(k:q)(h:Bx q->p:=by
 intro zk;have hp:=Hr (f:=f) hF.rk hF.fr VH;unfold Vl.val at hp;revert hp
 exact zk.o):p:=h ⟨k⟩
theorem ag1(k:q)(h:Bx q->p:=by
 intro zk;refine ZT (S:=(λw'=>w'.cell? (VJ rb 24)=some (VG fb)/\w'.cell? (VJ w2.heap.size 0)=some (.bool v.obj)/\w'.cell? (VJ w2.heap.size 1)=some (VI v.n))) VE UG (λhHeld=>?_);revert hHeld
 exact zk.o):p:=h ⟨k⟩
theorem Jz(k:q)(h:Bx q->p:=by
 intro zk;have R6:(i:Int)<(m.obs.length:Int):=VH;revert R6
 exact zk.o):p:=h ⟨k⟩
theorem aib(k:q)(h:Bx q->p:=by
 intro zk;have c0:=h 0 _ rfl;have c0:=h 1 _ rfl;have c0:=h 2 _ rfl;have c0:=h 3 _ rfl;have c0:=h 4 _ rfl;have c0:=h 5 _ rfl;have c0:=h 6 _ rfl;have c0:=h 7 _ rfl;have c0:=h 8 _ rfl;have c0:=h 9 _ rfl;rename_i N' P4 Mj EV E9 iz lL nj kO;revert N' P4 Mj EV E9 iz lL nj kO c0
 exact zk.o):p:=h ⟨k⟩
theorem ac7(k:q)(h:Bx q->p:=by
 intro zk;refine(Qd b s i 97 122 6 isSmall lt _ hs VH VH W_.o.to.rd rfl NL.o).mono ?_
 exact zk.o):p:=h ⟨k⟩
theorem BD(k:q)(h:Bx q->p:=by
 intro zk
 try refine UE ?_
 refine Ur 12 ?_
 exact zk.o):p:=h ⟨k⟩
theorem acW(k:q)(h:Bx q->p:=by
 intro zk
 try refine UE ?_
 refine Uh 10 ?_;refine Uh 11 ?_;refine Uh 12 ?_;refine Ur 13 ?_
 exact zk.o):p:=h ⟨k⟩
theorem ajI(k:q)(h:Bx q->p:=by
 intro zk;have z0:=W_.o.hz.c0;have z0:=W_.o.hz.c1;have z0:=W_.o.hz.c2;have z0:=W_.o.hz.c3;have z0:=W_.o.hz.c4;have z0:=W_.o.hz.c5;have zf:=W_.o.hz.f;have d0:=W_.o.to.rd.c0;have d1:=W_.o.to.rd.c1;rename_i N' P4 Mj EV E9;revert N' P4 Mj EV E9 z0 zf d0 d1
 exact zk.o):p:=h ⟨k⟩
theorem IV(k:q)(h:Bx q->p:=by
 intro zk;obtain⟨z0,z1,z2,z3,z4,z5,zf⟩:=J_.hz.all;obtain⟨u0,u1,u2,u3,u4,u5,uf⟩:=J_.hu.all;revert z0 z1 z2 z3 z4 z5 zf u0 u1 u2 u3 u4 u5 uf
 exact zk.o):p:=h ⟨k⟩
theorem ajE(k:q)(h:Bx q->p:=by
 intro zk;have hmc:UL w m:=wK;have m0:w.cell? (VJ m 0)=some (.slice p ws.length cap):=by simp only[World.cell?,hm];rfl
 have m1:w.cell? (VJ m 1)=some (VI h):=by simp only[World.cell?,hm];rfl
 have mf:=λo=>hmc.free o;revert hmc m0 m1 mf
 exact zk.o):p:=h ⟨k⟩
theorem FT(k:q)(h:Bx q->p:=by
 intro zk;go_simp;refine w_.mono ?_
 exact zk.o):p:=h ⟨k⟩
theorem aiS(k:q)(h:Bx q->p:=by
 intro zk;have SM:Hid _:=hB1
 have Ca:Hid (W1.heap[w.heap.size]?=some (.cells #[.pointer (Vq (C_.map K.cb)),.string s] 59)/\W1.heap[w.heap.size+1]?=some (.cells #[.bool to.obj,VI to.n] 33)):=⟨b0,b1⟩
 revert SM Ca
 exact zk.o):p:=h ⟨k⟩
theorem ahb(k:q)(h:Bx q->p:=by
 intro zk;go_simp;refine(hmk _ hBa).mono ?_;rintro e w2 ⟨rfl,K',hst⟩;have h2:=(HB.o.sg.below hBa).img hst;have y0:=h2.run.c0;rw[hst.b]at y0;have y2:=(Z9 (a:=(VJ w.heap.size 2)) (hst.Ut.block _ l1 aiQ)).trans x2;revert w2 K' hst h2 y0 y2
 exact zk.o):p:=h ⟨k⟩
theorem CG(k:q)(h:Bx q->p:=by
 intro zk;refine Uh 16 ?_;refine Ur 17 ?_
 exact zk.o):p:=h ⟨k⟩
theorem aaO(k:q)(h:Bx q->p:=by
 intro zk
 go_ret
 refine⟨_,rfl,?_,((ZR _ _).alloc UM _).alloc Vy _⟩;rw[HG.o]
 exact zk.o):p:=h ⟨k⟩
theorem uU(k:q)(h:Bx q->p:=by
 intro zk;rw[OG _ _ Vy Vy Vz an0,ZU Vy]
 exact zk.o):p:=h ⟨k⟩
theorem LM(k:q)(h:Bx q->p:=by
 intro zk;unfold Kn.NM.val;simp only
 exact zk.o):p:=h ⟨k⟩
theorem ahO(k:q)(h:Bx q->p:=by
 intro zk
 have L0:Hid (Ux W0 sb l ps/\Sm bd W0 L pm Sd/\Vt w W0 (λ_=>False)/\TabAt W0 b n R):=⟨hs0,pA,US,HS.o.2.1.same (US.block b hbl EZ)⟩
 have Sb:=ZY hbl US.size;revert L0 Sb
 exact zk.o):p:=h ⟨k⟩
theorem ahN(k:q)(h:Bx q->p:=by
 intro zk
 have hne:¬sel.toList=[]:=λe=>by
  have:=IJ he;rw[e]at this;simp at this
 have UB:sel.toList.isEmpty=false:=by
  cases hx:sel.toList with
  | nil=>exact absurd hx hne
  | cons a l=>rfl
 revert hne UB
 exact zk.o):p:=h ⟨k⟩
theorem aip(k:q)(h:Bx q->p:=by
 intro zk;unfold Uo TQ;have hBa:Below W1.heap.size W1 W1.drew:=(ZR _ _).drew;have hBb:Below W1.heap.size W1 (W1.alloc (.cells #[.bool false,VI 0] 33)).drew:=((ZR _ _).alloc UM _).drew;revert hBa hBb
 exact zk.o):p:=h ⟨k⟩
theorem aiw(k:q)(h:Bx q->p:=by
 intro zk;have DS:U2 m K g:=.inr (.inr (.inr (.inr (.inl (.inl (by rw[hov];rfl))))));have B4:U2 m K (K.ob i):=.inr (.inr (.inr (.inr (.inl (.inr ⟨i,(Z7.1 ho).1,rfl⟩)))));revert DS B4
 exact zk.o):p:=h ⟨k⟩
theorem ajs(k:q)(h:Bx q->p:=by
 intro zk;have hcall:=jW m cb cm c0 r (W.alloc (.cells #[.pointer r.fr,.string r.sel,.pointer r.hm,.pointer r.mt] 64)) hm (hw.same (λc hc=>ZV W _ _ (hw.Vb hc).lt)) hr hc0;revert hcall
 exact zk.o):p:=h ⟨k⟩
theorem Py(k:q)(h:Bx q->p:=by
 intro zk;refine JE 3 λG HR HG=>?_;revert G HR HG
 exact zk.o):p:=h ⟨k⟩
theorem ajH(k:q)(h:Bx q->p:=by
 intro zk;have SZ:=Wt.trans r_;have S0:=(r_.lab _ Se).trans R7;have ST:Vu wr ((w4.setCell (VJ w3.heap.size 0) (.bool v.obj)).setCell (VJ w3.heap.size 1) (VI v.n)) m K m' K':=SZ.told Pt S0 _ _;revert SZ S0 ST
 exact zk.o):p:=h ⟨k⟩
theorem jq(k:q)(h:Bx q->p:=by
 intro zk;have d3:=(Z9 (a:=(VJ w.heap.size 3)) hcm.2.1).trans x3;revert d3
 exact zk.o):p:=h ⟨k⟩
theorem ji(k:q)(h:Bx q->p:=by
 intro zk;have d4:=(Z9 (a:=(VJ w.heap.size 4)) hcm.2.1).trans x4;revert d4
 exact zk.o):p:=h ⟨k⟩
theorem ah8(k:q)(h:Bx q->p:=by
 intro zk;have SZ:=z_.trans r_;have S0:=(r_.lab _ Se).trans R7;have ST:Vu wr ((w4.setCell (VJ X2.heap.size 0) (.bool v.obj)).setCell (VJ X2.heap.size 1) (VI v.n)) m K m' K':=SZ.told Pt S0 _ _;revert SZ S0 ST
 exact zk.o):p:=h ⟨k⟩
theorem ahc(k:q)(h:Bx q->p:=by
 intro zk;have Ss:e.born=en.born:=akT
 have tQ:e=en:=by
  have h1:=find_born e es.toList Ww.2 he;have h2:=find_born en es.toList Ww.2 UB;rw[Ss]at h1;exact Y7 (h1.symm.trans h2)
 revert Ss tQ
 exact zk.o):p:=h ⟨k⟩
theorem aen(k:q)(h:Bx q->p:=by
 intro zk;go_simp;refine p_.mono ?_;rintro e w3 ⟨rfl,hf3,hc3⟩;have YY:=(Z9 (a:=(VJ rb 24)) qZ).trans ct;revert w3 hf3 hc3 YY
 exact zk.o):p:=h ⟨k⟩
theorem aoE(k:q)(h:Bx q->p:=by
 intro zk;refine ZT (S:=(λw'=>w'.cell? (VJ K.b 0)=some (.slice (some (VJ g 0)) K.cl.length Zs)/\w'.cell? (VJ g (c*4+2))=some (VI (ow:Nat)))) VE UG (λhHeld=>?_);revert hHeld
 exact zk.o):p:=h ⟨k⟩
theorem ai5(k:q)(h:Bx q->p:=by
 intro zk;obtain⟨es,ck,hmb,_⟩:=id hlm;obtain⟨Z1,W7⟩:=h.dO hmb hcs Ch;have hc1:=Vt.QY hg1;have Sp:=h.Ut hc1 (λe=>W7 e.symm) (λj hj e=>Z1 (by rw[<- e];exact hj)) (λj hj h1 e=>UA ((h.mt j hj).LV.Vb h1) hlm e);rename_i N';revert es ck hmb N' Z1 W7 hc1 Sp
 exact zk.o):p:=h ⟨k⟩
theorem yJ(k:q)(h:Bx q->p:=by
 intro zk;rw[<- hW];refine hc.mono ?_;rintro e w' hw;have HX:=UQ aoR;revert e w' hw HX
 exact zk.o):p:=h ⟨k⟩
theorem aiy(k:q)(h:Bx q->p:=by
 intro zk;refine Ze (i:=15) (oi:=_) (v:=_) rfl VE VE VE Nh Gu Ox ?_
 exact zk.o):p:=h ⟨k⟩
theorem ajd(k:q)(h:Bx q->p:=by
 intro zk
 try refine UE ?_
 have hvb:=(Od X2.heap.size VH).trans (Z4 X2 _).1;have Se:=(Z5.1 hvb).1;have R7:K2.lab X2.heap.size=.no:=amY;have Pt:wr.heap.size<=X2.heap.size:=aof;revert hvb Se R7 Pt
 exact zk.o):p:=h ⟨k⟩
theorem tC(k:q)(h:Bx q->p:=by
 intro zk;refine Uh 5 ?_;refine Ur 6 ?_
 exact zk.o):p:=h ⟨k⟩
theorem CV(k:q)(h:Bx q->p:=by
 intro zk;go_simp;refine p_.mono ?_
 exact zk.o):p:=h ⟨k⟩
theorem ajr(k:q)(h:Bx q->p:=by
 intro zk;change Calls _ _ #[VG K.b,VG fb,.agg #[.int .u8 (k:Nat),VI n,.string (VF sl),.string (VF xa),.string (VF xb),VI (xi:Nat)],VI D] _ _
 exact zk.o):p:=h ⟨k⟩
theorem ajU(k:q)(h:Bx q->p:=by
 intro zk
 have hft:∀k,U2 m1 K k->k<w.heap.size:=λk e=>h.lt (by
  unfold U2 at e ⊢;rw[hm1.1,hm1.2]at e
  exact e)
 have hgl:∀k,Gl k->k<w.heap.size:=λk hk=>h.J7.lt hk;revert hft hgl
 exact zk.o):p:=h ⟨k⟩
theorem ahz(k:q)(h:Bx q->p:=by
 intro zk;rw[<- hW3]
 have h3:Sg NoD w0 m0 K0 rb W3 m K fu ((fb,mk)::bs) ({f with pc:=f.pc+1}::fs):=by
  exact apH
 have So:w3.heap.size=W3.heap.size:=by rw[hW3];simp[World.setCell]
 revert h3 So
 exact zk.o):p:=h ⟨k⟩
theorem jw(k:q)(h:Bx q->p:=by
 intro zk;refine(aaE (s.extract 5 s.size) _ Vo).mono ?_
 exact zk.o):p:=h ⟨k⟩
theorem Ju(k:q)(h:Bx q->p:=by
 intro zk;have B:=h.box x pl hW1;have ct:=B.ct;revert B ct
 exact zk.o):p:=h ⟨k⟩
theorem ahH(k:q)(h:Bx q->p:=by
 intro zk;rintro e w3 ⟨rfl,hb3⟩;have H3:=UQ (H3.o.below hb3);have z0:=H3.o.z0;have z1:=H3.o.z1;have f1:∀o,w3.frozen? (VJ (w.heap.size+1) o)=false:=λo=>UL.free ⟨_,_,H3.o.b1⟩ o;have v0:=H3.o.v0;have v1:=H3.o.v1;revert w3 hb3 H3 z0 z1 f1 v0 v1
 exact zk.o):p:=h ⟨k⟩
theorem FC(k:q)(h:Bx q->p:=by
 intro zk;refine Ur 4 ?_;refine Ul 5 λY_ Z_=>?_;revert Y_ Z_
 exact zk.o):p:=h ⟨k⟩
theorem ab2(k:q)(h:Bx q->p:=by
 intro zk;unfold KJ;rw[ZX sV];unfold Nz;rw[ZX aph];unfold LH
 exact zk.o):p:=h ⟨k⟩
theorem ajA(k:q)(h:Bx q->p:=by
 intro zk;have lk:(Instr.lookup 56 (.map (some sb)) (.string sel) false).run prog W0.drew=.ok (.map none) W0.drew:=akt
 have rz:Hid (∀p,¬Reg l ps sel p):=by
  exact ame
 revert lk rz
 exact zk.o):p:=h ⟨k⟩
theorem ag0(k:q)(h:Bx q->p:=by
 intro zk;refine ZT (S:=(λw'=>w'.cell? (VJ fb 6)=some (VI (f.pc:Nat))/\w'.cell? (VJ fb 0)=some (.slice d.wp f.ws.length d.wc))) VE UG (λhHeld=>?_);revert hHeld
 exact zk.o):p:=h ⟨k⟩
theorem ahj(k:q)(h:Bx q->p:=by
 intro zk;refine ZT (S:=(λw'=>w'.cell? (VJ w.heap.size 0)=some ((VG (K.cb c)))/\w'.cell? (VJ w.heap.size 1)=some (.string s))) VE UG (λhHeld=>?_);revert hHeld
 exact zk.o):p:=h ⟨k⟩
theorem agO(k:q)(h:Bx q->p:=by
 intro zk;rw[<- hV2,<- t_];have hB2:Below V1.heap.size V1 V2:=air;have N_:V2.heap[z10]?=some (.cells #[.bool false,VI 0] 33):=amD;have Ta:W1.heap.size<=z10:=by rw[t_];exact hc1.size
 revert hB2 N_ Ta
 exact zk.o):p:=h ⟨k⟩
theorem aiZ(k:q)(h:Bx q->p:=by
 intro zk;rw[<- hV2,<- u_];have hB2:Below V1.heap.size V1 V2:=air;have K_:V2.heap[z11]?=some (.cells #[.bool false,VI 0] 33):=amE;have S7:W1.heap.size<=z11:=by rw[u_];exact hc1.size
 revert hB2 K_ S7
 exact zk.o):p:=h ⟨k⟩
theorem acS(k:q)(h:Bx q->p:=by
 intro zk;have c1:w1.cell? (VJ w.heap.size 3)=some (.string u):=by simp only[World.cell?,hb1];rfl
 revert c1
 exact zk.o):p:=h ⟨k⟩
theorem Ot(k:q)(h:Bx q->p:=by
 intro zk;refine JE 2 λG HR HG=>?_;revert G HR HG
 exact zk.o):p:=h ⟨k⟩
theorem ahP(k:q)(h:Bx q->p:=by
 intro zk;refine ZT (S:=(λw'=>w'.cell? (VJ b 5)=some (.map (some sb))/\w'.cell? (VJ (w.heap.size+1) 0)=some (.string sel))) VE UG (λhHeld=>?_);revert hHeld
 exact zk.o):p:=h ⟨k⟩
theorem yH(k:q)(h:Bx q->p:=by
 intro zk
 go_ret
 refine⟨Ce ?_,rfl⟩
 exact zk.o):p:=h ⟨k⟩
theorem aix(k:q)(h:Bx q->p:=by
 intro zk;obtain⟨c,hc⟩:=Yd hx;have hl:=(Z7.1 hc).1;rw[h.len]at hl
 obtain⟨k,hk⟩:∃k,m.kl[c]?=some k:=⟨_,Z8 hl⟩
 revert c hc hl k hk
 exact zk.o):p:=h ⟨k⟩
theorem ajo(k:q)(h:Bx q->p:=by
 intro zk;have hg:=hat.lt eP;have c0:=hr.head;have c3:=hat.c3 c y hy;rw[hmv]at c3;have f3:w.frozen? (VJ g (c*4+3))=false:=hr.own.frozenAt _;have hlt:=hr.lt;have hcl:(c:Int)<(cl.length:Int):=eP;have HM:Hid _:=R2;revert hg c0 c3 f3 hlt hcl HM
 exact zk.o):p:=h ⟨k⟩
theorem ahl(k:q)(h:Bx q->p:=by
 intro zk;have hx2:=hx1.told (z:=w.heap.size+1) IB jg (.bool false) (VI 0);have hx3:=hx2.trans (Vu.below hx2.rk (UF _ (.cells #[.bool false,VI (an:Nat)] 79)));revert hx2 hx3
 exact zk.o):p:=h ⟨k⟩
theorem ahv(k:q)(h:Bx q->p:=by
 intro zk;have MD:=UQ ((Vt.refl W0 _).drew.trans hb2);have htab:=p8.o w2 T_ hp2 (λp h=>hf1 p ((ii.o p).1 h)) (λp h=>hf2 p (λh'=>h ((ii.o p).2 h'))) MD.o;revert MD htab
 exact zk.o):p:=h ⟨k⟩
theorem ahS(k:q)(h:Bx q->p:=by
 intro zk;refine ZT (S:=(λw'=>w'.cell? (VJ b 5)=some (.map (some sb))/\w'.cell? (VJ w.heap.size 0)=some (.string sel))) VE UG (λhHeld=>?_);revert hHeld
 exact zk.o):p:=h ⟨k⟩
theorem ai3(k:q)(h:Bx q->p:=by
 intro zk;refine ZT (S:=(λw'=>w'.cell? (VJ rb 0)=some (VG K.b)/\w'.cell? (VJ w.heap.size 2)=some (.string (VF x.a)))) VE UG (λhHeld=>?_);revert hHeld
 exact zk.o):p:=h ⟨k⟩
theorem adh(k:q)(h:Bx q->p:=by
 intro zk;have c1:w1.cell? (VJ w.heap.size 4)=some (VI n):=by simp only[World.cell?,hb1];rfl
 revert c1
 exact zk.o):p:=h ⟨k⟩
theorem aiH(k:q)(h:Bx q->p:=by
 intro zk;have hk:k % 4=0\/k % 4=1\/k % 4=2\/k % 4=3:=VH;show (#[Value.pointer none,.string ⟨#[]⟩,.pointer none,.pointer none][k % 4]!).oneCell'=true;revert hk
 exact zk.o):p:=h ⟨k⟩
theorem abx(k:q)(h:Bx q->p:=by
 intro zk;have D_:((s[0].toNat:Int)==63)=false:=Vo;have D_:((s[0].toNat:Int)==97)=true:=Vo;rename_i N';revert N' D_
 exact zk.o):p:=h ⟨k⟩
theorem FK(k:q)(h:Bx q->p:=by
 intro zk;simp only[World.cell?,this]
 exact zk.o):p:=h ⟨k⟩
theorem ael(k:q)(h:Bx q->p:=by
 intro zk;have hp2:=Hr (f:=f) G_.rk G_.fr VH;have HA:Hid _:=G_;have HO:Hid _:=ho1;unfold Vl.val at hp2;revert hp2 HA HO
 exact zk.o):p:=h ⟨k⟩
theorem adO(k:q)(h:Bx q->p:=by
 intro zk;have D_:((s[0].toNat:Int)==94)=false:=Vo;have D_:((s[0].toNat:Int)==45)=true:=Vo;rename_i N';revert N' D_
 exact zk.o):p:=h ⟨k⟩
theorem Iq(k:q)(h:Bx q->p:=by
 intro zk;simp only[World.cell?,hb]
 exact zk.o):p:=h ⟨k⟩
theorem aaZ(k:q)(h:Bx q->p:=by
 intro zk;refine ZQ (Lc rfl _ _ _ rfl rfl z0 z1) rfl ?_
 exact zk.o):p:=h ⟨k⟩
theorem ajB(k:q)(h:Bx q->p:=by
 intro zk;refine ZT (S:=(λw'=>w'.cell? (VJ rb 24)=some (VG fb)/\w'.cell? (VJ w.heap.size 1)=some (VI (i:Nat)))) VE UG (λhHeld=>?_);revert hHeld
 exact zk.o):p:=h ⟨k⟩
theorem ahI(k:q)(h:Bx q->p:=by
 intro zk;refine ZT (S:=(λw'=>w'.cell? (VJ rb 24)=some (VG fb)/\w'.cell? (VJ w.heap.size 1)=some (VI (n:Nat)))) VE UG (λhHeld=>?_);revert hHeld
 exact zk.o):p:=h ⟨k⟩
theorem ah1(k:q)(h:Bx q->p:=by
 intro zk;have g1:∀n,((bl s).drop i)[n]?=(bl s)[i+n]?:=λn=>Zn;have g2:∀n,((bl s).drop i).drop n=(bl s).drop (i+n):=λn=>VQ;revert g1 g2
 exact zk.o):p:=h ⟨k⟩
theorem anF(k:q)(h:Bx q->p:=by
 intro zk;refine Ur 7 ?_;refine Ul 8 λY_ Z_=>?_;revert Y_ Z_
 exact zk.o):p:=h ⟨k⟩
theorem aaV(k:q)(h:Bx q->p:=by
 intro zk;have hnd:=h.nd;simp only[Zc,YS,ZM,not_or]at hnd;revert hnd
 exact zk.o):p:=h ⟨k⟩
theorem ajR(k:q)(h:Bx q->p:=by
 intro zk;have k_:(w1.alloc (.cells #[.bool v.obj,VI v.n] 33)).heap[w1.heap.size]?=some (.cells #[.bool v.obj,VI v.n] 33):=(Z4 w1 _).1;revert k_
 exact zk.o):p:=h ⟨k⟩
theorem aeO(k:q)(h:Bx q->p:=by
 intro zk;have Kf:y0.size<=120:=amC;have E0:Hid _:=e0;have Kf:y1.size<=120:=an3;have E1:Hid _:=e1;rename_i N';revert N' E0 Kf E1
 exact zk.o):p:=h ⟨k⟩
theorem aiX(k:q)(h:Bx q->p:=by
 intro zk;have ho:∀(W:World) (v:Value) (o p:Nat),o≠p->(W.setCell (VJ b p) v).cell? (VJ b o)=W.cell? (VJ b o):=λW v o p hne=>VD abA;revert ho
 exact zk.o):p:=h ⟨k⟩
theorem aji(k:q)(h:Bx q->p:=by
 intro zk;obtain⟨p,cap,hv,hf⟩:=h.obs.form;have c1:=h.hd.c1;rw[hv]at c1;have hn:=h.ok.objs;have hcall:=yB hn c1 o;rw[show (decide (0<=o)&&decide (o<(m.obs.length:Int)))=m.there o from rfl]at hcall;revert p cap hv hf c1 hn hcall
 exact zk.o):p:=h ⟨k⟩
theorem ao6(k:q)(h:Bx q->p:=by
 intro zk
 try refine UE ?_
 refine Ul 9 λY_ Z_=>?_;revert Y_ Z_
 exact zk.o):p:=h ⟨k⟩
theorem aiU(k:q)(h:Bx q->p:=by
 intro zk;have y3:=(Z9 (a:=(VJ w.heap.size 3)) hxb).trans y3;have y3:=(Z9 (a:=(VJ w.heap.size 5)) hxb).trans y5;rename_i N';revert N' y3
 exact zk.o):p:=h ⟨k⟩
theorem ajc(k:q)(h:Bx q->p:=by
 intro zk;have lk:=h.drew.look cn;have RB:=h.drew.look to;have c0:=h.hd.c0
 have HS:Hid (Step w w.drew m K m K):=by
  have hx1:Step w w.drew m K m K:=Step.below h uq;exact hx1
 revert lk RB c0 HS
 exact zk.o):p:=h ⟨k⟩
theorem aht(k:q)(h:Bx q->p:=by
 intro zk
 have h1:=h.rel.same (w':=W') (by rw[hsz];exact hC.size) (Q':=K'.Q) (λk e=>by
  have:=key _ _ e Vy Vy Vy
  exact⟨this.2,this.1⟩)
 revert h1
 exact zk.o):p:=h ⟨k⟩
theorem abh(k:q)(h:Bx q->p:=by
 intro zk;have Wf:=PK Vi.rk Vi.fr Ei ⟨false,0⟩;have HB:Hid _:=Vi;unfold Vl.val at Wf;revert Wf HB
 exact zk.o):p:=h ⟨k⟩
theorem agV(k:q)(h:Bx q->p:=by
 intro zk;have UB:=(mem_left hen).1
 obtain⟨q,hq,Fy⟩:∃q∈ps,en.key=TM q:=by
  exact apw
 obtain⟨s,UX⟩:=hL q hq;obtain⟨i1,i2,i3,i4⟩:=Gw (o':=.mapIter (some ib) clock (seen.push en.born) clock) hw1 hit;revert UB q hq Fy s UX i1 i2 i3 i4
 exact zk.o):p:=h ⟨k⟩
theorem ajb(k:q)(h:Bx q->p:=by
 intro zk;rw[h,Zp,h1];show Result.ok _ (w.alloc (.cells (madeCells #[.bool false,VI 0] (n*2)) _))=_
 exact zk.o):p:=h ⟨k⟩
theorem aef(k:q)(h:Bx q->p:=by
 intro zk;obtain⟨hn0,Te⟩:=ZZ.send NP;obtain⟨d_,hna⟩:=N2.send NP;simp only at hn0 Te d_ hna;revert hn0 Te d_ hna
 exact zk.o):p:=h ⟨k⟩
theorem abX(k:q)(h:Bx q->p:=by
 intro zk;obtain⟨hn0,Te⟩:=ZZ.send JQ;obtain⟨d_,hna⟩:=N2.send JQ;simp only at hn0 Te d_ hna;revert hn0 Te d_ hna
 exact zk.o):p:=h ⟨k⟩
theorem abz(k:q)(h:Bx q->p:=by
 intro zk;obtain⟨ib,e1,e2,_⟩:=hs0.inn t _ e;injection e1 with e1;injection e1 with e1;subst e1;rename_i N';revert e2 N'
 exact zk.o):p:=h ⟨k⟩
theorem ac8(k:q)(h:Bx q->p:=by
 intro zk
 try refine UE ?_
 have hc2:=hc1.then hcc Qi;have l2:=ZY l1 hcc.size;revert hc2 l2
 exact zk.o):p:=h ⟨k⟩
theorem aiY(k:q)(h:Bx q->p:=by
 intro zk;have hc1:=hc0.then aci Js;have LL:=vE.same (hB1.block fb vE.Vb.lt);have Lt:=(hB1.cell (p:=(VJ rb 24)) l0).trans ye;have l1:=ZY l0 hB1.size;revert hc1 LL Lt l1
 exact zk.o):p:=h ⟨k⟩
theorem ag4(k:q)(h:Bx q->p:=by
 intro zk;refine(TY b s (i+a.length) 47 _ hs hlt hG.o HT.o.rd).mono ?_;rintro e w2 ⟨rfl,X_⟩;have OS:Hid _:=HT.o.trans X_;clear X_;revert w2 OS
 exact zk.o):p:=h ⟨k⟩
theorem Um(k:q)(h:Bx q->p:=by
 intro zk
 try refine UE ?_
 refine Nr ?_
 exact zk.o):p:=h ⟨k⟩
theorem Fe(k:q)(h:Bx q->p:=by
 intro zk;refine Ul 10 λY_ Z_=>?_;refine wY ?_;intro hHeld;clear Z_ Y_;revert hHeld
 exact zk.o):p:=h ⟨k⟩
theorem ahG(k:q)(h:Bx q->p:=by
 intro zk;refine La ?_;refine Ze (i:=12) (oi:=_) (v:=_) rfl VE VE VE Nh Gu Ox ?_;refine MC ?_;refine Ze (i:=13) (oi:=_) (v:=_) rfl VE VE VE Nh Gu Ox ?_;refine MC ?_;refine Ze (i:=14) (oi:=_) (v:=_) rfl VE VE VE Nh Gu Ox ?_;refine MC ?_;refine aiy ?_;refine MC ?_;refine aiI ?_;intro hHeld;revert hHeld
 exact zk.o):p:=h ⟨k⟩
theorem yF(k:q)(h:Bx q->p:=by
 intro zk;refine Ul 11 λY_ Z_=>?_;refine wY ?_;intro hHeld;clear Z_ Y_;revert hHeld
 exact zk.o):p:=h ⟨k⟩
theorem Bf(k:q)(h:Bx q->p:=by
 intro zk;refine Ul 6 λY_ Z_=>?_;refine wY ?_;intro hHeld;clear Z_ Y_
 try refine UE ?_
 revert hHeld
 exact zk.o):p:=h ⟨k⟩
theorem jr(k:q)(h:Bx q->p:=by
 intro zk;refine Ju ?_;intro B ct;have l1:=B.l1;refine aW ?_;intro Wd lw Q_;have h_:=Q_.s16;rw[hst]at Q_ h_;simp only[ZI]at h_;have hcall:=dB Q_;clear Q_;revert B ct l1 Wd lw h_ hcall
 exact zk.o):p:=h ⟨k⟩
theorem abk(k:q)(h:Bx q->p:=by
 intro zk;refine ao6 ?_;intro Y_ Z_;refine wY ?_;intro hHeld;clear Z_ Y_;revert hHeld
 exact zk.o):p:=h ⟨k⟩
theorem BJ(k:q)(h:Bx q->p:=by
 intro zk;refine Ul 8 λY_ Z_=>?_;refine wY ?_;intro hHeld;clear Z_ Y_;revert hHeld
 exact zk.o):p:=h ⟨k⟩
theorem aha(k:q)(h:Bx q->p:=by
 intro zk;refine aiI ?_;intro hHeld;revert hHeld
 exact zk.o):p:=h ⟨k⟩
theorem jf(k:q)(h:Bx q->p:=by
 intro zk;refine Ul 12 λY_ Z_=>?_;refine wY ?_;intro hHeld;clear Z_ Y_
 try refine UE ?_
 revert hHeld
 exact zk.o):p:=h ⟨k⟩
theorem ado(k:q)(h:Bx q->p:=by
 intro zk;refine pJ ?_;refine FC ?_;intro Y_ Z_;refine wY ?_;intro hHeld;clear Z_ Y_
 try refine UE ?_
 revert hHeld
 exact zk.o):p:=h ⟨k⟩
theorem aoc(k:q)(h:Bx q->p:=by
 intro zk;refine wY ?_;intro hHeld;revert hHeld
 exact zk.o):p:=h ⟨k⟩
theorem rW(k:q)(h:Bx q->p:=by
 intro zk;have B:=h.box x pl hW1;refine aW ?_;intro Wd lw Q_;rw[hst]at Q_;revert B Wd lw Q_
 exact zk.o):p:=h ⟨k⟩
theorem zC(k:q)(h:Bx q->p:=by
 intro zk;refine zr1 ?_;refine abM ?_
 exact zk.o):p:=h ⟨k⟩
theorem yI(k:q)(h:Bx q->p:=by
 intro zk;have L_:=h.lt;have hzb:w.heap.size≠b:=VH;refine zr8 ?_;intro c1 W_;have P1:=UQ g_;revert L_ hzb c1 W_ P1
 exact zk.o):p:=h ⟨k⟩
theorem KG(k:q)(h:Bx q->p:=by
 intro zk;refine zr1 ?_;refine aku ?_
 exact zk.o):p:=h ⟨k⟩
theorem Og(k:q)(h:Bx q->p:=by
 intro zk;refine apl ?_;refine PG ?_;intro w1 W_;revert w1 W_
 exact zk.o):p:=h ⟨k⟩
theorem zV(k:q)(h:Bx q->p:=by
 intro zk
 try refine UE ?_
 have hc4:=hc3.then hcc Qi;refine akY ?_;intro N_ K_;revert hc4 N_ K_
 exact zk.o):p:=h ⟨k⟩
theorem agW(k:q)(h:Bx q->p:=by
 intro zk;have hmb:=Oi (bl s) 4 VH;have f_:=Oi (bl (s.extract 1 s.size)) 4 VH;have Y':=Oi (bl (s.extract 1 s.size)) 2 VH;have a_:=Oi (bl (s.extract 1 s.size)) 1 VH;rw[hm]at hmb;rw[hm4]at f_;rw[hm2]at Y';rw[hm1]at a_;obtain⟨PJ,hmc⟩:=hmb;revert f_ Y' a_ PJ hmc
 exact zk.o):p:=h ⟨k⟩
theorem iZ(k:q)(h:Bx q->p:=by
 intro zk;refine Uh 0 ?_;refine Uh 1 ?_;refine Uh 2 ?_;refine Uh 3 ?_
 exact zk.o):p:=h ⟨k⟩
theorem L8(k:q)(h:Bx q->p:=by
 intro zk;refine apJ ?_;refine PG ?_;intro w1 W_;revert w1 W_
 exact zk.o):p:=h ⟨k⟩
theorem CP(k:q)(h:Bx q->p:=by
 intro zk;refine qm ?_;rintro e w1 ⟨⟨x,rfl,hxy⟩,hb1⟩;refine al6 ?_;intro M_ P_ A_ u0 u1 u2 u3 u4 u5 uf;revert w1 hb1 x hxy M_ P_ A_ u0 u1 u2 u3 u4 u5 uf
 exact zk.o):p:=h ⟨k⟩
theorem DR(k:q)(h:Bx q->p:=by
 intro zk;refine qm ?_;rintro e w2 ⟨⟨x,rfl,hxy⟩,hb1⟩;refine al6 ?_;intro M_ P_ A_ u0 u1 u2 u3 u4 u5 uf;revert w2 hb1 x hxy M_ P_ A_ u0 u1 u2 u3 u4 u5 uf
 exact zk.o):p:=h ⟨k⟩
theorem gI(k:q)(h:Bx q->p:=by
 intro zk;have K_:=(hcc.block z11 (Z5.1 K_).1 VH).trans K_;revert K_
 exact zk.o):p:=h ⟨k⟩
theorem ah3(k:q)(h:Bx q->p:=by
 intro zk;have hblk:w1.heap[w.heap.size]?=some (.cells #[.int .u8 0,VI 0,.string ⟨#[]⟩,.string ⟨#[]⟩,.string ⟨#[]⟩,VI 0] 188):=(hb.block _ Vy).trans (Z4 w _).1;revert hblk
 exact zk.o):p:=h ⟨k⟩
theorem Lj(k:q)(h:Bx q->p:=by
 intro zk;refine apX ?_;refine PG ?_;intro w1 W_;revert w1 W_
 exact zk.o):p:=h ⟨k⟩
theorem IC(k:q)(h:Bx q->p:=by
 intro zk;refine zr4 ?_;refine Ur 5 ?_
 exact zk.o):p:=h ⟨k⟩
theorem abg(k:q)(h:Bx q->p:=by
 intro zk;refine wC ?_;intro _ _ D_;refine akI ?_;intro _ D_;have D_:((s[0].toNat:Int)==115)=true:=Vo;rename_i N' P4 Mj EV E9;revert N' P4 Mj EV E9 D_
 exact zk.o):p:=h ⟨k⟩
theorem Jq(k:q)(h:Bx q->p:=by
 intro zk;refine apD ?_;refine PG ?_;intro w1 W_;revert w1 W_
 exact zk.o):p:=h ⟨k⟩
theorem ajJ(k:q)(h:Bx q->p:=by
 intro zk;refine ZT (S:=(λ_=>True)) VE UG (λhHeld=>?_);refine Ep ?_;refine aa7 ?_;refine Ur 7 ?_;refine Zv (rs:=[2,8]) VE Vy ?_;revert hHeld
 exact zk.o):p:=h ⟨k⟩
theorem abt(k:q)(h:Bx q->p:=by
 intro zk;have b0:=(Vp QR).1;have b1:=(Vp QR).2;have hvl:=(Z5.1 QR).1;revert b0 b1 hvl
 exact zk.o):p:=h ⟨k⟩
theorem aei(k:q)(h:Bx q->p:=by
 intro zk;have D_:((s[0].toNat:Int)==63)=false:=Vo;have D_:((s[0].toNat:Int)==97)=false:=Vo;rename_i N';revert N' D_
 exact zk.o):p:=h ⟨k⟩
theorem CB(k:q)(h:Bx q->p:=by
 intro zk;refine hsl.mono ?_;refine Sl ?_
 exact zk.o):p:=h ⟨k⟩
theorem Il(k:q)(h:Bx q->p:=by
 intro zk;refine zr1 ?_;refine anF ?_;intro Y_ Z_;revert Y_ Z_
 exact zk.o):p:=h ⟨k⟩
theorem Hq(k:q)(h:Bx q->p:=by
 intro zk;refine apS ?_;refine PG ?_;intro w1 W_;revert w1 W_
 exact zk.o):p:=h ⟨k⟩
theorem ajL(k:q)(h:Bx q->p:=by
 intro zk
 try refine UE ?_
 have LO:=(hst.Ut.block _ Vy jl).trans (Z4 _ _).1;refine amK ?_;intro u0 u1 uf;have Z1:¬W1.heap.size=w.heap.size:=VH;have Te:¬W1.heap.size=rb:=VH;revert LO u0 u1 uf Z1 Te
 exact zk.o):p:=h ⟨k⟩
theorem ai8(k:q)(h:Bx q->p:=by
 intro zk;refine Uy ?_;refine aoE ?_;intro hHeld;refine Ep ?_;refine afr ?_;refine dX ?_;refine Uh 12 ?_;refine Ur 13 ?_;refine Ul 2 λY_ Z_=>?_;go_simp;refine hsa.mono ?_;revert hHeld Y_ Z_
 exact zk.o):p:=h ⟨k⟩
theorem aje(k:q)(h:Bx q->p:=by
 intro zk;have B:=h.box x pl hW1;refine aW ?_;intro Wd lw Q_;have h_:=Q_.s16;rw[hst]at Q_ h_;simp only[ZI]at h_;have hcall:=take_any Q_;unfold Vl.val at hcall;have x2:=B.x2;have l3:=B.l3;have HB:Hid _:=B;revert B Wd lw Q_ h_ hcall x2 l3 HB
 exact zk.o):p:=h ⟨k⟩
theorem zA(k:q)(h:Bx q->p:=by
 intro zk;refine hcall.mono ?_;refine Sl ?_
 exact zk.o):p:=h ⟨k⟩
theorem ahu(k:q)(h:Bx q->p:=by
 intro zk
 try refine UE ?_
 refine Ur 14 ?_;refine Uh 15 ?_;refine CG ?_;refine Ul 18 λY_ Z_=>?_;go_simp;refine(OB y1 _ _ SE B1.o).mono ?_;revert Y_ Z_
 exact zk.o):p:=h ⟨k⟩
theorem ajj(k:q)(h:Bx q->p:=by
 intro zk;refine ahg ?_;intro hBa hBb;have HH:Hid _:=h;have H1:Hid _:=h1
 have Nd:Hid (UH w av args ab/\(args≠[]->ab<w.heap.size/\ab≠rb/\¬U2 m K ab)):=⟨W8,hab⟩
 revert hBa hBb HH H1 Nd
 exact zk.o):p:=h ⟨k⟩
theorem ahK(k:q)(h:Bx q->p:=by
 intro zk;refine afA ?_;intro hl2 hpb hpl;have pk:w1.cell? (VJ w.heap.size 0)=some (.int .u8 60):=by simp only[World.cell?,hpb];rfl
 have Vi:=Z6.new (.cells #[.bool false,VI an] 79);revert hl2 hpb hpl pk Vi
 exact zk.o):p:=h ⟨k⟩
theorem alV(k:q)(h:Bx q->p:=by
 intro zk;refine aoc ?_;intro hHeld;revert hHeld
 exact zk.o):p:=h ⟨k⟩
theorem fA(k:q)(h:Bx q->p:=by
 intro zk;refine Uy ?_;refine amX ?_;intro hHeld;refine zC ?_;refine aaP ?_;intro Y_ Z_;refine ahn ?_;revert hHeld Y_ Z_
 exact zk.o):p:=h ⟨k⟩
theorem aeJ(k:q)(h:Bx q->p:=by
 intro zk;refine Uy ?_;refine ana ?_;intro hHeld;refine KG ?_;refine uZ ?_;refine Ul 13 λY_ Z_=>?_;go_simp;refine ahn ?_;revert hHeld Y_ Z_
 exact zk.o):p:=h ⟨k⟩
theorem FU(k:q)(h:Bx q->p:=by
 intro zk;refine zC ?_;refine Ur 9 ?_
 exact zk.o):p:=h ⟨k⟩
theorem fF(k:q)(h:Bx q->p:=by
 intro zk;refine rW ?_;intro B Wd lw Q_;have hcall:=bP Q_ ho;clear Q_;have HB:Hid _:=B;revert B Wd lw hcall HB
 exact zk.o):p:=h ⟨k⟩
theorem ahQ(k:q)(h:Bx q->p:=by
 intro zk
 try refine UE ?_
 refine abM ?_;refine Ur 9 ?_;refine Fe ?_;intro hHeld
 try refine UE ?_
 refine yF ?_;intro hHeld;refine BD ?_;refine Nr ?_;rename_i N';revert N' hHeld
 exact zk.o):p:=h ⟨k⟩
theorem adG(k:q)(h:Bx q->p:=by
 intro zk;refine Uy ?_;refine apU ?_;intro hHeld;refine KG ?_;refine uZ ?_;refine Nr ?_;revert hHeld
 exact zk.o):p:=h ⟨k⟩
theorem abG(k:q)(h:Bx q->p:=by
 intro zk;have hlt:=(Z5.1 N_).1;refine yF ?_;intro hHeld
 try refine UE ?_
 revert hlt hHeld
 exact zk.o):p:=h ⟨k⟩
theorem abr(k:q)(h:Bx q->p:=by
 intro zk;have hlt:=(Z5.1 K_).1;refine Fe ?_;intro hHeld
 try refine UE ?_
 revert hlt hHeld
 exact zk.o):p:=h ⟨k⟩
theorem aiI(k:q)(h:Bx q->p:=by
 intro zk;refine Ur 16 ?_;refine Ul 17 λY_ Z_=>?_;refine wY ?_;intro hHeld;clear Z_ Y_
 try refine UE ?_
 refine Ur 18 ?_;refine Nr ?_;revert hHeld
 exact zk.o):p:=h ⟨k⟩
theorem ah4(k:q)(h:Bx q->p:=by
 intro zk
 try refine UE ?_
 refine BJ ?_;intro hHeld;refine abk ?_;intro hHeld;refine Um ?_;have ST:=(z_.trans r_).trans (Vu.below r_.rk aeh);rename_i N';revert N' hHeld ST
 exact zk.o):p:=h ⟨k⟩
theorem tZ(k:q)(h:Bx q->p:=by
 intro zk;refine abk ?_;intro hHeld;refine Um ?_;revert hHeld
 exact zk.o):p:=h ⟨k⟩
theorem an2(k:q)(h:Bx q->p:=by
 intro zk;refine alV ?_;intro hHeld;revert hHeld
 exact zk.o):p:=h ⟨k⟩
theorem Vg(k:q)(h:Bx q->p:=by
 intro zk;refine an2 ?_;intro hHeld;revert hHeld
 exact zk.o):p:=h ⟨k⟩
end Go
namespace Kn
open Go
abbrev bl (s:ByteArray):List UInt8:=s.data.toList
theorem VB (s:ByteArray):(bl s).length=s.size:=rfl
theorem Si (s:ByteArray)(k:Nat)(h:k<s.size):(bl s)[k]?=some s[k]:=by
 rw[Z8 (by rw[VB];exact h)];rfl
def isSmall (c:UInt8):Bool:=decide (97<=c.toNat)&&decide (c.toNat<=122)
def Rf (c:UInt8):Bool:=decide (65<=c.toNat)&&decide (c.toNat<=90)
def U8 (c:UInt8):Bool:=decide (48<=c.toNat)&&decide (c.toNat<=57)
def className (l:List UInt8):Bool:=decide (1<=l.length)&&decide (l.length<=6)&&Rf (l[0]?.getD 0)&&(l.drop 1).all isSmall
def selector (l:List UInt8):Bool:=
 decide (3<=l.length)&&decide (l.length<=8)&&decide (l[l.length-2]?.getD 0=47)&&decide (48<=(l[l.length-1]?.getD 0).toNat)&&decide ((l[l.length-1]?.getD 0).toNat<=51)&&(l.take (l.length-2)).all isSmall
def U6 (l:List UInt8):Nat:=(l[l.length-1]?.getD 0).toNat-48
def numOf (l:List UInt8):Nat:=l.foldl (λn d=>10*n+(d.toNat-48)) 0
def number (l:List UInt8)(most:Nat):Option Nat:=if 1<=l.length&&decide (l.length<=most)&&l.all U8 then some (numOf l) else none
theorem tH (l:List UInt8)(p:UInt8->Bool)(a:Nat):(l.drop a).all p=true↔∀j c,a<=j->l[j]?=some c->p c=true:=by
 rw[Y9];constructor
 . intro h j c ha hj;refine h c (ZK (i:=j-a) ?_);rw[Zn,show a+(j-a)=j from VH];exact hj
 . intro h c hc;exact ahm
theorem Ib (l:List UInt8)(p:UInt8->Bool)(n:Nat):(l.take n).all p=true↔∀j c,j<n->l[j]?=some c->p c=true:=by
 rw[Y9];constructor
 . intro h j c ha hj;refine h c (ZK (i:=j) ?_);rw[Zl ha];exact hj
 . intro h c hc;obtain⟨k,hk⟩:=YG.1 hc;by_cases hkn:k<n
   . rw[Zl hkn]at hk;exact h k c hkn hk
   . rw[Yj VH]at hk;cases hk
theorem OU (s:ByteArray)(a b:Nat):(s.extract a b).data.toList=(s.data.toList.take b).drop a:=by
 rw[ByteArray.data_extract,Array.toList_extract,List.extract_eq_take_drop,WH]
theorem fK (s:ByteArray)(b:Nat):(s.extract 0 b).data.toList=(bl s).take b:=by rw[OU];rfl
theorem Qw (s:ByteArray)(k:Nat)(h:k<s.size):(bl s)[k]?.getD 0=s[k]:=by rw[Si s k h];rfl
def Vk (l:List UInt8)(most:Nat):Int:=match number l most with|some n=>(n:Int)|none=>-1
theorem Sj {c:UInt8}:U8 c=true↔48<=c.toNat/\c.toNat<=57:=by simp[U8]
theorem xw (l:List UInt8)(c:UInt8):numOf (l++[c])=10*numOf l+(c.toNat-48):=by simp[numOf,Wy]
theorem take_snoc (s:ByteArray)(k:Nat)(h:k<s.size):(bl s).take (k+1)=(bl s).take k++[s[k]]:=by
 rw[List.take_succ_eq_append_getElem (by rw[VB];exact h)];rfl
theorem Dk (s:ByteArray)(k:Nat)(h:k<s.size):numOf ((bl s).take (k+1))=10*numOf ((bl s).take k)+(s[k].toNat-48):=by
 rw[take_snoc s k h,xw]
theorem IK:∀(l:List UInt8) (a k:Nat),a<10 ^ k->l.all U8=true->l.foldl (λn d=>10*n+(d.toNat-48)) a<10 ^ (k+l.length)
 | [],a,k,h,_=>Nv
 | c::r,a,k,h,hd=>by
  simp only[List.all_cons,ZB]at hd;have h1:=Sj.1 hd.1;have:=IK r (10*a+(c.toNat-48)) (k+1) (by rw[Nat.pow_succ];omega) hd.2;simp only[WT,ZI];rw[show k+(r.length+1)=k+1+r.length from VH];exact this
theorem IY (l:List UInt8)(k:Nat)(h:l.length<=k)(hd:l.all U8=true):numOf l<10 ^ k:=by
 have:=IK l 0 0 Vy hd;rw[YU]at this;exact ZY this (Yb VH h)
theorem Oj (l:List UInt8)(m:Nat)(h:¬(1<=l.length/\l.length<=m/\l.all U8=true)):number l m=none:=by
 unfold number;rw[ZX];intro hh;simp only[ZB,Zq]at hh;exact h ⟨hh.1.1,hh.1.2,hh.2⟩
theorem Fa (l:List UInt8)(m:Nat)(h1:1<=l.length)(h2:l.length<=m)(h3:l.all U8=true):number l m=some (numOf l):=by
 unfold number;rw[ZU];simp only[ZB,Zq];exact⟨⟨h1,h2⟩,h3⟩
theorem jo (l:List UInt8)(m:Nat)(h:¬(1<=l.length/\l.length<=m)):Vk l m=-1:=by
 unfold Vk;rw[Oj l m (λhh=>h ⟨hh.1,hh.2.1⟩)]
theorem uV (l:List UInt8)(m k:Nat)(c:UInt8)(hc:l[k]?=some c)(hd:U8 c=false):Vk l m=-1:=by
 unfold Vk;rw[Oj l m];intro hh;have:=Y9.1 hh.2.2 c (ZK hc);rw[hd]at this;cases this
theorem bC (s:ByteArray)(m:Nat)(h1:1<=s.size)(h2:s.size<=m)(h3:∀j c,j<s.size->(bl s)[j]?=some c->U8 c=true):Vk (bl s) m=(numOf ((bl s).take s.size):Nat):=by
 have e:(bl s).take s.size=bl s:=XU G8;have:=(Ib _ _ _).2 h3;rw[e]at this;unfold Vk;rw[Fa _ m (by rw[VB];exact h1) (by rw[VB];exact h2) this,e]
abbrev VF (l:List UInt8):ByteArray:=⟨l.toArray⟩
theorem NV (l:List UInt8):bl (VF l)=l:=rfl
theorem abl (s:ByteArray):VF (bl s)=s:=rfl
theorem adB {a b:ByteArray}(h:bl a=bl b):a=b:=by rw[<- abl a,<- abl b,h]
theorem N9 (s:ByteArray)(a:Nat):s.extract a s.size=VF ((bl s).drop a):=by
 apply adB;rw[NV];show (s.extract a s.size).data.toList=_;rw[OU];congr 1;exact Yv
theorem Gj (s:ByteArray)(a b:Nat):s.extract a b=VF (((bl s).take b).drop a):=by
 apply adB;rw[NV];exact OU s a b
structure W where
 k:Nat
 n:Int
 sel:List UInt8
 a:List UInt8
 b:List UInt8
def w0:W:=⟨0,0,[],[],[]⟩
def Tm (x:W)(at_:Int):Value:=.agg #[.int .u8 x.k,VI x.n,.string (VF x.sel),.string (VF x.a),.string (VF x.b),VI at_]
def Va (l:List UInt8):Option W:=
 if l=[115,101,108,102] then some ⟨109,0,[],[],[]⟩
 else if l=[112,111,112] then some ⟨111,0,[],[],[]⟩
 else if l=[100,117,112] then some ⟨100,0,[],[],[]⟩
 else if l=[114,101,116] then some ⟨114,0,[],[],[]⟩
 else if l=[43] then some ⟨43,0,[],[],[]⟩
 else if l=[45] then some ⟨45,0,[],[],[]⟩
 else if l=[42] then some ⟨42,0,[],[],[]⟩
 else if l=[60] then some ⟨60,0,[],[],[]⟩
 else if l=[61] then some ⟨61,0,[],[],[]⟩
 else none
def Vw:List UInt8->List (List UInt8)
 | []=>[[]]
 | c::r=>if c=46 then []::Vw r else match Vw r with|[]=>[[c]]|p::q=>(c::p)::q
theorem PZ:∀(p:List UInt8),(∀c∈p,c≠46)->Vw p=[p]
 | [],_=>rfl
 | c::r,h=>by
  have h1:=PZ r (λx hx=>h x (by simp[hx]));have h2:¬c=46:=h c Vy;rw[Vw,ZX h2,h1]
theorem QU:∀(p r:List UInt8),(∀c∈p,c≠46)->Vw (p++46::r)=p::Vw r
 | [],r,_=>by rw[Yg,Vw,ZU rfl]
 | c::p,r,h=>by
  have h1:=QU p r (λx hx=>h x (by simp[hx]));have h2:¬c=46:=h c Vy;rw[YR,Vw,ZX h2,h1]
theorem aI (l:List UInt8)(a:Nat)(h:∀j c,a<=j->l[j]?=some c->c≠46):Vw (l.drop a)=[(l.take l.length).drop a]:=by
 rw[Yv];refine PZ _ λc hc=>?_;exact ahm
theorem ac6 (l:List UInt8)(a k:Nat)(I0:a<=k)(hk:l[k]?=some 46)(h:∀j c,a<=j->j<k->l[j]?=some c->c≠46):Vw (l.drop a)=(l.take k).drop a::Vw (l.drop (k+1)):=by
 obtain⟨hlt,hg⟩:=Z7.1 hk
 have e:l.drop a=(l.take k).drop a++46::l.drop (k+1):=by
  have e1:l=l.take k++46::l.drop (k+1):=by
   have:=Yw k l;rw[Yx hlt,hg]at this;exact this.symm
  have e2:(l.take k).length=k:=aed;have e2:(l.take k++46::l.drop (k+1)).drop a=(l.take k).drop a++46::l.drop (k+1):=Yp VH;rw[<- e2,<- e1]
 rw[e];refine QU _ _ λc hc=>?_;obtain⟨i,hi⟩:=YG.1 hc;rw[Zn]at hi;by_cases hik:a+i<k
 . rw[Zl hik]at hi;exact h (a+i) c VH hik hi
 . rw[Yj VH]at hi;cases hi
theorem Rq:∀(l p:List UInt8),p∈Vw l->p.length<=l.length
 | [],p,h=>by simp[Vw]at h;simp[h]
 | c::r,p,h=>by
  rw[Vw]at h;split at h
  . rcases ZM.1 h with rfl|h
    . simp
    . have:=Rq r p h;simp;omega
  . cases hr:Vw r with
    | nil=>rw[hr]at h;simp at h;subst h;simp
    | cons q t=>
     rw[hr]at h;rcases ZM.1 h with rfl|h
     . have:=Rq r q (by rw[hr];simp);simp;omega
     . have:=Rq r p (by rw[hr];simp[h]);simp;omega
theorem MZ (l:List UInt8):Vw l≠[]:=by
 cases l with
 | nil=>simp[Vw]
 | cons c r=>
  rw[Vw];split
  . simp
  . split<;>simp
def PX (l:List UInt8)(a k:Nat)(ys:List ByteArray):Prop:=
 ys.length<=k/\((k<=l.length/\a<=k/\Vw l=ys.map bl++Vw (l.drop a)/\∀j c,a<=j->j<k->l[j]?=some c->c≠46)\/(k=l.length+1/\Vw l=ys.map bl))
theorem Aj (l:List UInt8):PX l 0 0 []:=⟨ZN _,.inl ⟨Yy _,ZN _,Vy,λj c _ h=>VH⟩⟩
theorem vK {s:ByteArray}{a k:Nat}{ys:List ByteArray}(h:PX (bl s) a k ys)(hk:k<s.size)(hc:s[k]≠46):PX (bl s) a (k+1) ys:=by
 obtain⟨hl,h|h⟩:=h
 . obtain⟨h1,h1,h1,h4⟩:=h;refine⟨VH,.inl ⟨G8,VH,h1,λj c hj hjk hg=>?_⟩⟩;by_cases e:j=k
   . subst e;rw[Si s j hk]at hg;injection hg with hg;rw[<- hg];exact hc
   . exact h4 j c hj VH hg
 . have:=h.1;rw[VB]at this;omega
theorem uO {s:ByteArray}{a k:Nat}{ys:List ByteArray}(h:PX (bl s) a k ys)(hk:k<s.size)(hc:s[k]=46):PX (bl s) (k+1) (k+1) (ys++[s.extract a k]):=by
 obtain⟨hl,h|h⟩:=h
 . obtain⟨h1,h1,h3,h4⟩:=h;refine⟨Vo,.inl ⟨G8,ZN _,?_,λj c hj hjk=>VH⟩⟩;rw[h3,ac6 (bl s) a k h1 (by rw[Si s k hk,hc]) h4];simp[OU]
 . have:=h.1;rw[VB]at this;omega
theorem wP {s:ByteArray}{a:Nat}{ys:List ByteArray}(h:PX (bl s) a s.size ys):PX (bl s) (s.size+1) (s.size+1) (ys++[s.extract a s.size]):=by
 obtain⟨hl,h|h⟩:=h
 . obtain⟨h1,h1,h1,h4⟩:=h;refine⟨Vo,.inr ⟨by rw[VB],?_⟩⟩;rw[h1,aI (bl s) a (λj c hj hg=>h4 j c hj (by have:=(Z7.1 hg).1;rw[VB]at this;exact this) hg)];simp[OU,VB]
 . have:=h.1;rw[VB]at this;omega
theorem kY {s:ByteArray}{a k:Nat}{ys:List ByteArray}(h:PX (bl s) a k ys)(hk:k<=s.size):a<=k:=by
 obtain⟨hl,h|h⟩:=h
 . exact h.2.1
 . have:=h.1;rw[VB]at this;omega
theorem wo {s:ByteArray}{a k:Nat}{ys:List ByteArray}(h:PX (bl s) a k ys)(hk:¬k<=s.size):Vw (bl s)=ys.map bl:=by
 obtain⟨hl,h|h⟩:=h
 . have:=h.1;rw[VB]at this;omega
 . exact h.2
def first (l:List UInt8):Nat:=(l[0]?.getD 0).toNat
def LZ (l:List UInt8):Option W:=if l.length=3/\l.take 2=[61,115]/\U8 (l[2]?.getD 0)=true then some ⟨112,((l[2]?.getD 0).toNat-48:Nat),[],[],[]⟩ else none
def Mc (l:List UInt8):Option W:=if first l=115/\0<=Vk (l.drop 1) 1 then some ⟨103,Vk (l.drop 1) 1,[],[],[]⟩ else LZ l
def LH (l:List UInt8):Option W:=if first l=97/\0<=Vk (l.drop 1) 1/\Vk (l.drop 1) 1<3 then some ⟨97,Vk (l.drop 1) 1,[],[],[]⟩ else Mc l
def Nz (l:List UInt8):Option W:=if (first l=62\/first l=63)/\0<=Vk (l.drop 1) 2 then some ⟨first l,Vk (l.drop 1) 2,[],[],[]⟩ else LH l
def KJ (l:List UInt8):Option W:=if first l=45/\0<=Vk (l.drop 1) 4 then some ⟨110,- Vk (l.drop 1) 4,[],[],[]⟩ else Nz l
def KZ (l:List UInt8):Option W:=if 0<=Vk l 4 then some ⟨110,Vk l 4,[],[],[]⟩ else KJ l
def Px (l:List UInt8):Option W:=if first l=94/\selector (l.drop 1)=true then some ⟨94,(U6 (l.drop 1):Nat),l.drop 1,[],[]⟩ else KZ l
def SY (l:List UInt8):Option W:=if selector l=true then some ⟨115,(U6 l:Nat),l,[],[]⟩ else Px l
theorem Oi (l:List UInt8)(m:Nat)(hm:m<=4):-1<=Vk l m/\Vk l m<10000:=by
 unfold Vk number;split
 . rename_i n hn;split at hn
   . rename_i hc;simp only[ZB,Zq]at hc;have:=IY l 4 VH hc.2;injection hn with hn;omega
   . cases hn
 . omega
theorem JC (s:ByteArray)(h:selector (bl s)=true):3<=s.size/\s.size<=8/\48<=((bl s)[s.size-1]?.getD 0).toNat:=by
 unfold selector at h;rw[VB]at h;simp only[ZB,Zq]at h;exact⟨h.1.1.1.1.1,h.1.1.1.1.2,h.1.1.2⟩
def Ue (l:List UInt8):List (List UInt8)->Option W
 | [p,q]=>
  if List.isPrefixOf [100,114,111,112,58] l=true then (if (className p&&selector q)=true then some ⟨120,0,q,p,[]⟩ else none)
  else if List.isPrefixOf [109,111,118,101,58] l=true then (if (className p&&className q)=true then some ⟨118,0,[],p,q⟩ else none)
  else none
 | [p,q,r]=>
  if List.isPrefixOf [99,111,112,121,58] l=true then (if (className p&&selector q&&className r)=true then some ⟨99,0,q,p,r⟩ else none)
  else none
 | _=>none
def Vs (l:List UInt8):Option W:=
 if List.isPrefixOf [110,101,119,58] l=true then (if className (l.drop 4)=true then some ⟨119,0,[],l.drop 4,[]⟩ else none)
 else if List.isPrefixOf [98,101,58] l=true then (if className (l.drop 3)=true then some ⟨98,0,[],l.drop 3,[]⟩ else none)
 else if l.length<5 then none
 else Ue l (Vw (l.drop 5))
def rd (l:List UInt8):Option W:=
 match Va l with
 | some x=>some x
 | none=>match Vs l with
  | some x=>some x
  | none=>SY l
def tok (l:List UInt8)(i:Nat):List UInt8:=(l.drop i).takeWhile (λc=>c != 32)
def Uw:Nat->List UInt8->Nat->List (W×Nat)->List (W×Nat)×Int
 | 0,_,_,acc=>(acc,-1)
 | f+1,l,i,acc=>
  if l.length<=i then (acc,-1)
  else if l[i]?.getD 0=32 then Uw f l (i+1) acc
  else match rd (tok l i) with
   | none=>([],(i:Int))
   | some x=>if acc.length=40 then ([],(i:Int)) else Uw f l (i+(tok l i).length) (acc++[(x,i)])
def Vh (l:List UInt8):List (W×Nat)×Int:=Uw (l.length+1) l 0 []
theorem Ec (l:List UInt8)(i:Nat)(hi:i<l.length)(h:¬l[i]?.getD 0=32):1<=(tok l i).length:=by
 unfold tok;rw[Yx hi,List.takeWhile_cons_of_pos]
 . simp
 . have e:l[i]?.getD 0=l[i]:=by rw[Z8 hi];rfl
   rw[e]at h;simpa using h
theorem Qx:∀(f g:Nat) (l:List UInt8) (i:Nat) (acc:List (W×Nat)),l.length-i<f->l.length-i<g->Uw f l i acc=Uw g l i acc
 | 0,_,_,_,_,h,_=>VH
 | _+1,0,_,_,_,_,h=>VH
 | f+1,g+1,l,i,acc,hf,hg=>by
  rw[Uw,Uw];by_cases hi:l.length<=i
  . rw[ZU hi,ZU hi]
  . rw[ZX hi,ZX hi];by_cases hb:l[i]?.getD 0=32
    . rw[ZU hb,ZU hb];exact Qx f g l (i+1) acc VH VH
    . rw[ZX hb,ZX hb];have hp:=Ec l i VH hb
      cases rd (tok l i) with
      | none=>rfl
      | some x=>
       show (if acc.length=40 then _ else _)=(if acc.length=40 then _ else _)
       by_cases Uq:acc.length=40
       . rw[ZU Uq,ZU Uq]
       . rw[ZX Uq,ZX Uq];exact Qx f g l _ _ VH VH
def Ro (l:List UInt8)(i:Nat)(acc:List (W×Nat)):Prop:=Vh l=Uw (l.length+1) l i acc/\acc.length<=i/\acc.length<=40
theorem Jr (l:List UInt8):Ro l 0 []:=⟨rfl,Vy,Vy⟩
theorem Jy {l:List UInt8}{i:Nat}{acc:List (W×Nat)}(h:Ro l i acc)(hi:i<l.length)(hb:l[i]?.getD 0=32):Ro l (i+1) acc:=by
 refine⟨?_,by have:=h.2.1;omega,h.2.2⟩;rw[h.1,Uw,ZX VH,ZU hb];exact Qx _ _ _ _ _ VH VH
theorem KO {l:List UInt8}{i:Nat}{acc:List (W×Nat)}(h:Ro l i acc)(hi:i<l.length)(hb:¬l[i]?.getD 0=32)(hr:rd (tok l i)=none):Vh l=([],(i:Int)):=by
 rw[h.1,Uw,ZX VH,ZX hb,hr]
theorem IG {l:List UInt8}{i:Nat}{acc:List (W×Nat)}(h:Ro l i acc)(hi:i<l.length)(hb:¬l[i]?.getD 0=32)(Uq:acc.length=40):Vh l=([],(i:Int)):=by
 rw[h.1,Uw,ZX VH,ZX hb]
 cases rd (tok l i) with
 | none=>rfl
 | some x=>show (if acc.length=40 then _ else _)=_;rw[ZU Uq]
theorem H8 {l:List UInt8}{i:Nat}{acc:List (W×Nat)}(h:Ro l i acc)(hi:i<l.length)(hb:¬l[i]?.getD 0=32){x:W}(hr:rd (tok l i)=some x)(Uq:¬acc.length=40):
 Ro l (i+(tok l i).length) (acc++[(x,i)]):=by
 have hp:=Ec l i hi hb;refine⟨?_,by have:=h.2.1;simp;omega,by have:=h.2.2;simp;omega⟩;rw[h.1,Uw,ZX VH,ZX hb,hr];show (if acc.length=40 then _ else _)=_;rw[ZX Uq];exact Qx _ _ _ _ _ VH VH
theorem KW {l:List UInt8}{i:Nat}{acc:List (W×Nat)}(h:Ro l i acc)(hi:¬i<l.length):Vh l=(acc,-1):=by
 rw[h.1,Uw,ZU VH]
theorem akG (l:List UInt8)(i k:Nat)(hik:i<=k)(hk:k<=l.length)(hin:∀j,i<=j->j<k->¬l[j]?.getD 0=32)(hend:k=l.length\/l[k]?.getD 0=32):tok l i=(l.take k).drop i/\i+(tok l i).length=k:=by
 have e:l.drop i=(l.take k).drop i++l.drop k:=by
  have e1:=(Yw k l).symm;have e2:(l.take k).length=k:=aed;have e2:(l.take k++l.drop k).drop i=(l.take k).drop i++l.drop k:=Yp VH;rw[<- e2,<- e1]
 have hlen:((l.take k).drop i).length=k-i:=by rw[Zh,Za];omega
 have h1:tok l i=(l.take k).drop i:=by
  unfold tok;rw[e]
  have hall:∀c∈(l.take k).drop i,(c != 32)=true:=by
   intro c hc;obtain⟨j,hj⟩:=YG.1 hc;rw[Zn]at hj
   have hjk:i+j<k:=by
    by_cases h:i+j<k
    . exact h
    . rw[Yj VH]at hj;cases hj
   rw[Zl hjk]at hj;have:=hin (i+j) VH hjk;rw[hj]at this;simpa using this
  rw[XO hall];rcases hend with h|h
  . rw[h,List.drop_length];simp
  . by_cases hk':k<l.length
    . rw[Yx hk',XD]
      . simp
      . have e1:l[k]?.getD 0=l[k]:=by rw[Z8 hk'];rfl
        rw[e1]at h;simp[h]
    . have:l.drop k=[]:=Zk VH;rw[this];simp
 exact⟨h1,by rw[h1,hlen];omega⟩
def QN (p:W×Nat):List Value:=[.int .u8 p.1.k,VI p.1.n,.string (VF p.1.sel),.string (VF p.1.a),.string (VF p.1.b),VI (p.2:Nat)]
def PU (l:List (W×Nat)):List Value:=l.flatMap QN
theorem xu (l:List (W×Nat))(p:W×Nat):PU (l++[p])=PU l++QN p:=by simp[PU]
def kinds:List Nat:=[110,109,97,103,119,112,111,63,114,43,45,42,60,61,100,115,94,98,62,120,118,99]
def U9 (k:Nat)(n:Int):Int×Int:=
 if k=110\/k=109\/k=97\/k=103\/k=119 then (0,1)
 else if k=112\/k=111\/k=63\/k=114 then (1,0)
 else if k=43\/k=45\/k=42\/k=60\/k=61 then (2,1)
 else if k=100 then (1,2)
 else if k=115 then (n+1,1)
 else if k=94 then (n,1)
 else if k=98 then (1,1)
 else (0,0)
def TS (k:Nat)(n:Int)(i:Nat):List Int:=
 if k=114 then [] else if k=62 then [n] else if k=63 then [(i:Int)+1,n] else [(i:Int)+1]
def EG (ws:List (W×Nat))(i:Nat):W:=(ws[i]?.getD (w0,0)).1
def tk (ws:List (W×Nat))(i:Nat):Nat:=(U9 (EG ws i).k (EG ws i).n).1.toNat
def ly (ws:List (W×Nat))(i:Nat):Nat:=(U9 (EG ws i).k (EG ws i).n).2.toNat
def tg (ws:List (W×Nat))(i:Nat):List Nat:=(TS (EG ws i).k (EG ws i).n i).map Int.toNat
def Ph (ws:List (W×Nat))(i h:Nat):Prop:=tk ws i<=h/\h-tk ws i+ly ws i<=16
def nx (ws:List (W×Nat))(i h:Nat):Nat:=h-tk ws i+ly ws i
def lX (ws:List (W×Nat)):Nat->Nat->Nat->Prop
 | 0,i,h=>i=0/\h=0
 | k+1,i,h=>lX ws k i h\/∃j g,j<ws.length/\lX ws k j g/\Ph ws j g/\i∈tg ws j/\h=nx ws j g
def Reach (ws:List (W×Nat))(i h:Nat):Prop:=∃k,lX ws k i h
theorem KY (ws:List (W×Nat)):Reach ws 0 0:=⟨0,rfl,rfl⟩
theorem I5 {ws:List (W×Nat)}{j g i:Nat}(hj:j<ws.length)(h:Reach ws j g)(ho:Ph ws j g)(hi:i∈tg ws j):Reach ws i (nx ws j g):=by
 obtain⟨k,hk⟩:=h;exact⟨k+1,.inr ⟨j,g,hj,hk,ho,hi,rfl⟩⟩
theorem zQ {ws:List (W×Nat)}(S:Nat->Nat->Prop)(h0:S 0 0)(hs:∀j g i,j<ws.length->S j g->Ph ws j g->i∈tg ws j->S i (nx ws j g)){i h:Nat}(hr:Reach ws i h):S i h:=by
 obtain⟨k,hk⟩:=hr
 induction k generalizing i h with
 | zero=>obtain⟨rfl,rfl⟩:=hk;exact h0
 | succ k ih=>
  rcases hk with hk|⟨j,g,hj,hk,ho,hi,rfl⟩
  . exact ih hk
  . exact hs j g i hj (ih hk) ho hi
theorem Nq {ws:List (W×Nat)}{i h:Nat}(hr:Reach ws i h):h<=16:=
 zQ (λ_ h=>h<=16) VH (λj g i _ _ ho _=>ho.2) hr
def Wrong (ws:List (W×Nat))(i:Nat):Prop:=(∃h,Reach ws i h/\¬Ph ws i h)\/(∃h1 h2,h1<h2/\Reach ws i h1/\Reach ws i h2)
def Kt (P:Nat->Prop)(n:Nat)(r:Int):Prop:=(r=-1/\∀i,i<n->¬P i)\/∃i,i<n/\r=(i:Int)/\P i/\∀j,j<i->¬P j
theorem rP {P:Nat->Prop}{n:Nat}{r r':Int}(h:Kt P n r)(h':Kt P n r'):r=r':=by
 rcases h with⟨rfl,h⟩|⟨i,hi,rfl,hp,hn⟩
 . rcases h' with⟨rfl,h'⟩|⟨i',hi',rfl,hp',hn'⟩
   . rfl
   . exact absurd hp' (h i' hi')
 . rcases h' with⟨rfl,h'⟩|⟨i',hi',rfl,hp',hn'⟩
   . exact absurd hp (h' i hi)
   . have:i=i':=by
      rcases Xg i i' with h|h|h
      . exact absurd hp (hn' i h)
      . exact h
      . exact absurd hp' (hn i' h)
     rw[this]
def Marked (ws:List (W×Nat))(M:Nat->Nat->Bool)(Bd:Nat->Bool):Prop:=
 M 0 0=true/\(∀i h,M i h=true->Reach ws i h)/\∀i,Bd i=true->∃h,Reach ws i h/\¬Ph ws i h
def Gone (ws:List (W×Nat))(M:Nat->Nat->Bool)(Bd:Nat->Bool)(i h:Nat):Prop:=
 M i h=true->(Ph ws i h->∀t∈tg ws i,M t (nx ws i h)=true)/\(¬Ph ws i h->Bd i=true)
theorem OV {ws:List (W×Nat)}{M:Nat->Nat->Bool}{Bd:Nat->Bool}(hm:Marked ws M Bd)(hg:∀i h,i<ws.length->h<=16->Gone ws M Bd i h){i h:Nat}:Reach ws i h↔M i h=true:=by
 constructor
 . intro hr
   have:h<=16/\M i h=true:=by
    refine zQ (λi h=>h<=16/\M i h=true) ⟨VH,hm.1⟩ (λj g i hj hS ho hi=>⟨ho.2,?_⟩) hr;exact(hg j g hj hS.1 hS.2).1 ho i hi
   exact this.2
 . exact hm.2.1 i h
theorem mG {ws:List (W×Nat)}{M:Nat->Nat->Bool}{Bd:Nat->Bool}(hm:Marked ws M Bd)(hg:∀i h,i<ws.length->h<=16->Gone ws M Bd i h){i:Nat}(hi:i<ws.length):(∃h,Reach ws i h/\¬Ph ws i h)↔Bd i=true:=by
 constructor
 . rintro⟨h,hr,ho⟩;exact(hg i h hi (Nq hr) ((OV hm hg).1 hr)).2 ho
 . exact hm.2.2 i
def pairs (n:Nat):List (Nat×Nat):=(List.range (n+1)).flatMap λi=>(List.range 17).map λh=>(i,h)
theorem bW {n i h:Nat}(hi:i<=n)(hh:h<=16):(i,h)∈pairs n:=by
 unfold pairs;rw[List.mem_flatMap];exact⟨i,YD.2 VH,Zy.2 ⟨h,YD.2 VH,rfl⟩⟩
def Gv (n:Nat)(M:Nat->Nat->Bool):Nat:=(pairs n).countP λp=>!M p.1 p.2
theorem Gh {α:Type}(p q:α->Bool):∀(l:List α),(∀x∈l,q x=true->p x=true)->(∃x∈l,p x=true/\q x=false)->l.countP q<l.countP p
 | [],_,h=>by obtain⟨x,hx,_⟩:=h;cases hx
 | a::r,h,h'=>by
  have hle:=List.countP_mono_left (λx hx=>h x (Zo a hx));obtain⟨x,hx,hp,hq⟩:=h';rcases ZM.1 hx with rfl|hx
  . rw[Xo (by simp[hq]),X6 hp];omega
  . have ih:=Gh p q r (λx hx=>h x (Zo a hx)) ⟨x,hx,hp,hq⟩;by_cases J2:q a=true
    . rw[X6 J2,X6 (h a Vy J2)];omega
    . rw[Xo J2];by_cases vB:p a=true
      . rw[X6 vB];omega
      . rw[Xo vB];exact ih
def mark (M:Nat->Nat->Bool)(a b:Nat):Nat->Nat->Bool:=λi h=>(decide (i=a)&&decide (h=b))||M i h
theorem J3 (M:Nat->Nat->Bool)(a b:Nat):mark M a b a b=true:=by simp[mark]
theorem Ie {M:Nat->Nat->Bool}{i h:Nat}(a b:Nat)(hm:M i h=true):mark M a b i h=true:=by simp[mark,hm]
theorem Iw {M:Nat->Nat->Bool}{a b i h:Nat}:mark M a b i h=true↔(i=a/\h=b)\/M i h=true:=by simp[mark]
theorem Bl {n:Nat}{M:Nat->Nat->Bool}{a b:Nat}(ha:a<=n)(hb:b<=16)(hm:M a b=false):Gv n (mark M a b)<Gv n M:=by
 refine Gh _ _ _ (λx _ hx=>?_) ⟨(a,b),bW ha hb,by simp[hm],by simp[J3]⟩;by_cases h:M x.1 x.2=true
 . rw[Ie a b h]at hx;cases hx
 . simpa using h
def TJ (ws:List (W×Nat))(args i:Nat):Prop:=((EG ws i).k=97/\(args:Int)<=(EG ws i).n)\/(((EG ws i).k=62\/(EG ws i).k=63)/\(ws.length:Int)<(EG ws i).n)
def TG (ws:List (W×Nat))(slots i:Nat):Prop:=((EG ws i).k=103\/(EG ws i).k=112)/\(slots:Int)<=(EG ws i).n
def SC (ws:List (W×Nat))(args slots i:Nat):Prop:=TJ ws args i\/TG ws slots i
def MN (ws:List (W×Nat))(args slots:Nat)(e i:Int):Prop:=
 (∃j,j<ws.length/\i=(j:Int)/\SC ws args slots j/\(∀k,k<j->¬SC ws args slots k)/\(TJ ws args j->e=1)/\(¬TJ ws args j->e=7))\/
 ((∀j,j<ws.length->¬SC ws args slots j)/\e=6/\Kt (Wrong ws) ws.length i)
theorem oU {ws:List (W×Nat)}{args slots:Nat}{e i e' i':Int}(h:MN ws args slots e i)(h':MN ws args slots e' i'):e=e'/\i=i':=by
 rcases h with⟨j,hj,rfl,hb,hn,h1,h7⟩|⟨hn,rfl,hf⟩
 . rcases h' with⟨j',hj',rfl,hb',hn',h1',cU⟩|⟨hn',rfl,hf'⟩
   . have:j=j':=by
      rcases Xg j j' with h|h|h
      . exact absurd hb (hn' j h)
      . exact h
      . exact absurd hb' (hn j' h)
     subst this;refine⟨?_,rfl⟩;by_cases ha:TJ ws args j
     . rw[h1 ha,h1' ha]
     . rw[h7 ha,cU ha]
   . exact absurd hb (hn' j hj)
 . rcases h' with⟨j',hj',rfl,hb',hn',h1',cU⟩|⟨hn',rfl,hf'⟩
   . exact absurd hb' (hn j' hj')
   . exact⟨rfl,rP hf hf'⟩
structure Pv (x:W):Prop where
 kind:x.k∈kinds
 lo:-10000<x.n
 hi:x.n<10000
 send:x.k=115\/x.k=94->0<=x.n/\x.n<=3
 goto:x.k=62\/x.k=63->0<=x.n
theorem Kw {l:List UInt8}(h:selector l=true):U6 l<=3:=by
 unfold selector at h;simp only[ZB,Zq]at h;unfold U6;omega
theorem o9 {l:List UInt8}{x:W}(h:Va l=some x):Pv x:=by
 unfold Va at h
 repeat (first
  | (split at h
     . injection h with h;subst h
       exact⟨Vz,Vz,Vz,Vy,Vy⟩)
  | cases h)
theorem lQ {l:List UInt8}{x:W}(h:Vs l=some x):Pv x:=by
 have key:∀(k:Nat) (s a b:List UInt8),k=119\/k=98\/k=120\/k=118\/k=99->Pv ⟨k,0,s,a,b⟩:=by
  intro k s a b hk;rcases hk with rfl|rfl|rfl|rfl|rfl<;>exact⟨by simp[kinds],Vy,Vy,Vy,Vy⟩
 unfold Vs at h;split at h
 . exact acZ
 . split at h
   . exact acZ
   . split at h
     . cases h
     . unfold Ue at h;split at h
       . split at h
         . exact acZ
         . exact aoZ
       . exact aoZ
       . cases h
theorem aaq {l:List UInt8}{x:W}(h:SY l=some x):Pv x:=by
 have b4:=Oi l 4 VH;have c4:=Oi (l.drop 1) 4 VH;have c4:=Oi (l.drop 1) 2 VH;have c4:=Oi (l.drop 1) 1 VH;unfold SY at h;split at h
 . rename_i hs;have:=Kw hs;injection h with h;subst h;exact⟨by simp[kinds],Vo,Vo,λ_=>Vo,λe=>sH⟩
 . unfold Px at h;split at h
   . rename_i hs;have:=Kw hs.2;injection h with h;subst h;exact⟨by simp[kinds],Ei,Ei,λ_=>Ei,λe=>sH⟩
   . unfold KZ at h;split at h
     . injection h with h;subst h;exact zt0
     . unfold KJ at h;split at h
       . injection h with h;subst h;exact zt0
       . unfold Nz at h;split at h
         . rename_i hs;injection h with h;subst h;exact⟨by rcases hs.1 with e|e<;>simp[e,kinds],Ei,Ei,λe=>by simp only at e;omega,λ_=>hs.2⟩
         . unfold LH at h;split at h
           . injection h with h;subst h;exact zt0
           . unfold Mc at h;split at h
             . injection h with h;subst h;exact zt0
             . unfold LZ at h;split at h
               . rename_i hs;have hd:=Sj.1 hs.2.2;injection h with h;subst h;exact zt0
               . cases h
theorem gQ {l:List UInt8}{x:W}(h:rd l=some x):Pv x:=by
 unfold rd at h;split at h
 . rename_i y hy;injection h with h;subst h;exact o9 hy
 . split at h
   . rename_i y hy;injection h with h;subst h;exact lQ hy
   . exact aaq h
theorem QZ (P:W->Prop)(hP:∀l x,rd l=some x->P x):∀(f:Nat) (l:List UInt8) (i:Nat) (acc:List (W×Nat)),(∀y∈acc,P y.1)->acc.length<=40->(∀y∈(Uw f l i acc).1,P y.1)/\(Uw f l i acc).1.length<=40
 | 0,_,_,_,h,h'=>⟨h,h'⟩
 | f+1,l,i,acc,h,h'=>by
  rw[Uw];split
  . exact⟨h,h'⟩
  . split
    . exact QZ P hP f l (i+1) acc h h'
    . split
      . exact⟨λy hy=>(by cases hy),Vy⟩
      . rename_i x hx;split
        . exact⟨λy hy=>(by cases hy),Vy⟩
        . rename_i Uq;refine QZ P hP f l _ _ (λy hy=>?_) Vo;rcases YT.1 hy with hy|hy
          . exact h y hy
          . simp at hy;subst hy;exact hP _ _ hx
theorem Jb (l:List UInt8)(i:Nat)(x:W×Nat)(h:(Vh l).1[i]?=some x):Pv x.1:=
 (QZ Pv (λl x=>gQ) _ l 0 [] (λy hy=>by cases hy) Vy).1 x (ZK h)
theorem Ic (l:List UInt8):(Vh l).1.length<=40:=
 (QZ (λ_=>True) (λ_ _ _=>trivial) _ l 0 [] (λy hy=>by cases hy) Vy).2
theorem NZ:∀(f:Nat) (l:List UInt8) (i:Nat) (acc:List (W×Nat)),(Uw f l i acc).2=-1\/∃j,j<l.length/\(Uw f l i acc).2=(j:Int)
 | 0,l,i,acc=>.inl rfl
 | f+1,l,i,acc=>by
  rw[Uw];by_cases hi:l.length<=i
  . rw[ZU hi];exact .inl rfl
  . rw[ZX hi];by_cases hb:l[i]?.getD 0=32
    . rw[ZU hb];exact NZ f l (i+1) acc
    . rw[ZX hb]
      cases rd (tok l i) with
      | none=>exact .inr ⟨i,VH,rfl⟩
      | some x=>
       simp only;by_cases Uq:acc.length=40
       . rw[ZU Uq];exact .inr ⟨i,VH,rfl⟩
       . rw[ZX Uq];exact NZ f l _ _
theorem zK (l:List UInt8):(Vh l).2=-1\/∃j,j<l.length/\(Vh l).2=(j:Int):=NZ _ l 0 []
theorem sG {ws:List (W×Nat)}{args slots:Nat}{e i:Int}(h:MN ws args slots e i):i=-1\/∃j,j<ws.length/\i=(j:Int):=by
 rcases h with⟨j,hj,rfl,_⟩|⟨_,_,hf⟩
 . exact .inr ⟨j,hj,rfl⟩
 . rcases hf with⟨rfl,_⟩|⟨j,hj,rfl,_⟩
   . exact .inl rfl
   . exact .inr ⟨j,hj,rfl⟩
def Ti (sel src:List UInt8)(n:Nat)(e a:Int):Prop:=
 (selector sel=false/\e=1/\a=0)\/
 (selector sel=true/\120<src.length/\e=5/\a=0)\/
 (selector sel=true/\src.length<=120/\(Vh src).2≠-1/\e=5/\a=(Vh src).2)\/
 (selector sel=true/\src.length<=120/\(Vh src).2=-1/\∃e' i,MN (Vh src).1 (U6 sel) n e' i/\
  ((∃j x,i=((j:Nat):Int)/\(Vh src).1[j]?=some x/\e=e'/\a=((x.2:Nat):Int))\/(i=-1/\e=0/\a=0)))
theorem wQ {sel src:List UInt8}{n:Nat}{e a e' a':Int}(h:Ti sel src n e a)(h':Ti sel src n e' a'):e=e'/\a=a':=by
 rcases h with⟨hs,rfl,rfl⟩|⟨hs,hl,rfl,rfl⟩|⟨hs,hl,hw,rfl,rfl⟩|⟨hs,hl,hw,e1,i1,hf1,hr1⟩ <;>
 rcases h' with⟨hs',rfl,rfl⟩|⟨hs',hl',rfl,rfl⟩|⟨hs',hl',hw',rfl,rfl⟩|⟨hs',hl',hw',e1,i1,hf2,hr2⟩ <;>
 first
 | exact KP
 | (exfalso;rw[hs]at hs';exact absurd hs' Vz)
 | (exfalso;omega)
 | exact absurd hw' hw
 | exact absurd hw hw'
 | skip
 obtain⟨he,hi⟩:=oU hf1 hf2;subst he hi;rcases hr1 with⟨j,x,rfl,hx,rfl,rfl⟩|⟨rfl,rfl,rfl⟩<;>rcases hr2 with⟨j',x',hj,hx',rfl,rfl⟩|⟨hj,rfl,rfl⟩
 . have:j=j':=by omega
   subst this;rw[hx]at hx';injection hx' with hx';subst hx';exact KP
 . omega
 . omega
 . exact KP
def Vj (p:UInt8->Bool)(m:Nat)(r:List UInt8):List UInt8:=(r.take m).takeWhile p
def Gx (c:UInt8):Bool:=decide (48<=c.toNat)&&decide (c.toNat<=50)
def OC (c:UInt8):Bool:=decide (48<=c.toNat)&&decide (c.toNat<=51)
def Ve (r:List UInt8):List UInt8:=if Vj Rf 1 r=[] then [] else Vj Rf 1 r++Vj isSmall 5 (r.drop 1)
def TW (r:List UInt8):List UInt8:=
 if Vj isSmall 6 r=[] then []
 else if r[(Vj isSmall 6 r).length]?=some 47 then
  (if Vj OC 1 (r.drop ((Vj isSmall 6 r).length+1))=[] then [] else Vj isSmall 6 r++47::Vj OC 1 (r.drop ((Vj isSmall 6 r).length+1)))
 else []
def TA (k:Nat)(p:UInt8->Bool)(m:Nat)(ahead:Nat)(r:List UInt8):Option (W×Nat):=if Vj p m r=[] then none else some (⟨k,(numOf (Vj p m r):Nat),[],[],[]⟩,ahead+(Vj p m r).length)
def QT (k:Nat)(ahead:Nat)(r:List UInt8):Option (W×Nat):=if TW r=[] then none else some (⟨k,(U6 (TW r):Nat),TW r,[],[]⟩,ahead+(TW r).length)
def QG (l:List UInt8):Nat:=
 if l=[110,101,119] then 119 else if l=[98,101] then 98 else if l=[100,114,111,112] then 120 else if l=[109,111,118,101] then 118 else if l=[99,111,112,121] then 99 else 0
def PD (l:List UInt8):Nat:=match Va l with|some x=>x.k|none=>0
def TP (k:Nat)(ahead:Nat)(r:List UInt8):Option (W×Nat):=
 if Ve r=[] then none
 else if k=119\/k=98 then some (⟨k,0,[],Ve r,[]⟩,ahead+(Ve r).length)
 else if k=120\/k=99 then
  (if r[(Ve r).length]? = some 46 then
   (if TW (r.drop ((Ve r).length + 1)) = [] then none
    else if k=120 then some (⟨k,0,TW (r.drop ((Ve r).length+1)),Ve r,[]⟩,ahead+(Ve r).length+1+(TW (r.drop ((Ve r).length+1))).length)
    else if r[(Ve r).length+1+(TW (r.drop ((Ve r).length+1))).length]?=some 46 then
     (if Ve (r.drop ((Ve r).length + 1 + (TW (r.drop ((Ve r).length + 1))).length + 1)) = [] then none
      else some (⟨k,0,TW (r.drop ((Ve r).length+1)),Ve r,Ve (r.drop ((Ve r).length+1+(TW (r.drop ((Ve r).length+1))).length+1))⟩,
       ahead+(Ve r).length+1+(TW (r.drop ((Ve r).length+1))).length+1+(Ve (r.drop ((Ve r).length+1+(TW (r.drop ((Ve r).length+1))).length+1))).length))
    else none)
   else none)
 else if k=118 then
  (if r[(Ve r).length]? = some 46 then
   (if Ve (r.drop ((Ve r).length + 1)) = [] then none
    else some (⟨k,0,[],Ve r,Ve (r.drop ((Ve r).length+1))⟩,ahead+(Ve r).length+1+(Ve (r.drop ((Ve r).length+1))).length))
   else none)
 else none
def kw (r:List UInt8):Option (W×Nat):=
 if first r=45 then (if r.length=1\/r[1]?=some 32 then some (⟨45,0,[],[],[]⟩,1) else (TA 110 U8 4 1 (r.drop 1)).map λq=>(⟨110,-q.1.n,[],[],[]⟩,q.2))
 else if first r=61 then (if r[1]?=some 115 then TA 112 U8 1 2 (r.drop 2) else some (⟨61,0,[],[],[]⟩,1))
 else if first r=94 then QT 94 1 (r.drop 1)
 else if first r=62 then TA 62 U8 2 1 (r.drop 1)
 else if first r=63 then TA 63 U8 2 1 (r.drop 1)
 else if first r=43\/first r=42\/first r=60 then some (⟨first r,0,[],[],[]⟩,1)
 else if Vj isSmall 6 r=[] then TA 110 U8 4 0 r
 else if r[(Vj isSmall 6 r).length]?=some 58 then TP (QG (Vj isSmall 6 r)) ((Vj isSmall 6 r).length+1) (r.drop ((Vj isSmall 6 r).length+1))
 else if r[(Vj isSmall 6 r).length]?=some 47 then QT 115 0 r
 else if Vj isSmall 6 r=[97] then TA 97 Gx 1 1 (r.drop 1)
 else if Vj isSmall 6 r=[115] then TA 103 U8 1 1 (r.drop 1)
 else if PD (Vj isSmall 6 r)=0 then none else some (⟨PD (Vj isSmall 6 r),0,[],[],[]⟩,(Vj isSmall 6 r).length)
def Jo (r:List UInt8):Option W:=match kw r with|some (x,n)=>if n=r.length\/r[n]?=some 32 then some x else none|none=>none
theorem QE (p:UInt8->Bool)(m:Nat)(r:List UInt8):∃t,r=Vj p m r++t:=by
 obtain⟨t,ht⟩:=(List.takeWhile_prefix p (l:=r.take m)).trans (List.take_prefix m r);exact⟨t,ht.symm⟩
theorem QC (p:UInt8->Bool)(m:Nat)(r:List UInt8):∀c∈Vj p m r,p c=true:=λc hc=>by
 exact Y9.1 List.all_takeWhile c hc
theorem Q5 (p:UInt8->Bool)(m:Nat)(r:List UInt8):(Vj p m r).length<=m:=by
 unfold Vj;have h1:=(List.takeWhile_prefix p (l:=r.take m)).length_le;rw[Za]at h1;omega
theorem Ql (p:UInt8->Bool)(m:Nat)(l t:List UInt8)(hl:∀c∈l,p c=true)(hm:l.length<=m)(ht:l.length=m\/∀c,t[0]?=some c->p c=false):Vj p m (l++t)=l:=by
 unfold Vj;rw[List.take_append];rw[XU hm];rw[XO hl];rcases ht with h|h
 . rw[h,Y0];simp
 . cases t with
   | nil=>simp
   | cons c t=>
    cases hk:m-l.length with
    | zero=>simp
    | succ k=>rw[List.take_succ_cons,XD (by rw[h c rfl];simp)];simp
def Qm (d:List UInt8)(m:Nat):Prop:=1<=d.length/\d.length<=m/\∀c∈d,U8 c=true
def Form (t:List UInt8)(x:W):Prop:=
 Va t=some x\/
 (∃nm,className nm=true/\t=110::101::119::58::nm/\x=⟨119,0,[],nm,[]⟩)\/
 (∃nm,className nm=true/\t=98::101::58::nm/\x=⟨98,0,[],nm,[]⟩)\/
 (∃nm sl,className nm=true/\selector sl=true/\t=100::114::111::112::58::(nm++46::sl)/\x=⟨120,0,sl,nm,[]⟩)\/
 (∃nm nn,className nm=true/\className nn=true/\t=109::111::118::101::58::(nm++46::nn)/\x=⟨118,0,[],nm,nn⟩)\/
 (∃nm sl nn,className nm=true/\selector sl=true/\className nn=true/\t=99::111::112::121::58::(nm++46::(sl++46::nn))/\x=⟨99,0,sl,nm,nn⟩)\/
 (selector t=true/\x=⟨115,(U6 t:Nat),t,[],[]⟩)\/
 (∃sl,selector sl=true/\t=94::sl/\x=⟨94,(U6 sl:Nat),sl,[],[]⟩)\/
 (Qm t 4/\x=⟨110,(numOf t:Nat),[],[],[]⟩)\/
 (∃d,Qm d 4/\t=45::d/\x=⟨110,-((numOf d:Nat):Int),[],[],[]⟩)\/
 (∃d,Qm d 2/\t=62::d/\x=⟨62,(numOf d:Nat),[],[],[]⟩)\/
 (∃d,Qm d 2/\t=63::d/\x=⟨63,(numOf d:Nat),[],[],[]⟩)\/
 (∃d,Qm d 1/\numOf d<3/\t=97::d/\x=⟨97,(numOf d:Nat),[],[],[]⟩)\/
 (∃d,Qm d 1/\t=115::d/\x=⟨103,(numOf d:Nat),[],[],[]⟩)\/
 (∃d,Qm d 1/\t=61::115::d/\x=⟨112,(numOf d:Nat),[],[],[]⟩)
theorem Ny {d:List UInt8}{m:Nat}(h:Qm d m):Vk d m=(numOf d:Nat):=by
 unfold Vk;rw[Fa d m h.1 h.2.1 (Y9.2 h.2.2)]
theorem Ns {d:List UInt8}{m:Nat}(h:0<=Vk d m):Qm d m/\Vk d m=(numOf d:Nat):=by
 have hd:Qm d m:=by
  by_cases hc:1<=d.length/\d.length<=m/\d.all U8=true
  . exact⟨hc.1,hc.2.1,Y9.1 hc.2.2⟩
  . unfold Vk at h;rw[Oj d m hc]at h;simp at h
 exact⟨hd,Ny hd⟩
theorem adI {d:List UInt8}{m:Nat}(h:¬Qm d m):Vk d m=-1:=by
 unfold Vk;rw[Oj d m (λhc=>h ⟨hc.1,hc.2.1,Y9.1 hc.2.2⟩)]
theorem EW {l:List UInt8}(h:className l=true):1<=l.length/\l.length<=6/\Rf (l[0]?.getD 0)=true/\∀c∈l.drop 1,isSmall c=true:=by
 unfold className at h;simp only[ZB,Zq]at h;exact⟨h.1.1.1,h.1.1.2,h.1.2,Y9.1 h.2⟩
theorem OX {l:List UInt8}(h:className l=true):∃c r,l=c::r/\Rf c=true/\r.length<=5/\∀x∈r,isSmall x=true:=by
 obtain⟨h1,h2,h3,h4⟩:=EW h
 match l,h1 with
 | c::r,_=>exact⟨c,r,rfl,by simpa using h3,by simp at h2;omega,by simpa using h4⟩
theorem yC {c:UInt8}{r:List UInt8}(hc:Rf c=true)(hl:r.length<=5)(hr:∀x∈r,isSmall x=true):className (c::r)=true:=by
 unfold className;simp only[ZB,Zq,X8,X5];exact⟨⟨⟨Vy,Vo⟩,akT⟩,Y9.2 hr⟩
theorem Tf {l:List UInt8}(h:selector l=true):∃a d,l=a++[47,d]/\1<=a.length/\a.length<=6/\(∀x∈a,isSmall x=true)/\OC d=true:=by
 unfold selector at h;simp only[ZB,Zq]at h;obtain⟨⟨⟨⟨⟨h3,h8⟩,h47⟩,hd1⟩,hd2⟩,hall⟩:=h;have e:l=l.take (l.length-2)++l.drop (l.length-2):=(Yw _ _).symm;have hlen:(l.drop (l.length-2)).length=2:=by rw[Zh];omega
 match hdr:l.drop (l.length-2),hlen with
 | [y,z],_=>
  have e1:l[l.length-2]?=some y:=by
   have:(l.drop (l.length-2))[0]?=some y:=by rw[hdr];rfl
   rw[Zn,Yt]at this;exact this
  have e2:l[l.length-1]?=some z:=by
   have:(l.drop (l.length-2))[1]?=some z:=by rw[hdr];rfl
   rw[Zn,show l.length-2+1=l.length-1 from VH]at this;exact this
  rw[e1]at h47;rw[e2]at hd1 hd2;simp only[YX]at h47 hd1 hd2;subst h47;refine⟨l.take (l.length-2),z,by rw[<- hdr];exact e,aed,aed,Y9.1 hall,?_⟩;unfold OC;simp[hd1,hd2]
theorem rO {a:List UInt8}{d:UInt8}(h1:1<=a.length)(h6:a.length<=6)(ha:∀x∈a,isSmall x=true)(hd:OC d=true):selector (a++[47,d])=true:=by
 unfold OC at hd;simp only[ZB,Zq]at hd;unfold selector;have hl:(a++[47,d]).length=a.length+2:=Vy;rw[hl,show a.length+2-2=a.length from rfl,show a.length+2-1=a.length+1 from rfl];have e1:(a++[47,d])[a.length]?=some 47:=by rw[ZP UM,Y0];rfl
 have e2:(a++[47,d])[a.length+1]?=some d:=by rw[ZP VH,show a.length+1-a.length=1 from VH];rfl
 rw[e1,e2];simp only[ZB,Zq,YX];refine⟨⟨⟨⟨mF,trivial⟩,hd.1⟩,hd.2⟩,?_⟩;rw[Xq]
 . exact Y9.2 ha
 . rfl
theorem qK {c:UInt8}(h:isSmall c=true)(k:UInt8)(hk:isSmall k=false):c≠k:=λe=>by rw[e,hk]at h;cases h
theorem QB {l:List UInt8}(h:className l=true):∀c∈l,c≠46:=by
 obtain⟨c,r,rfl,hc,_,hr⟩:=OX h;intro x hx;rcases ZM.1 hx with rfl|hx
 . intro e;rw[e]at hc;simp[Rf]at hc
 . exact qK (hr x hx) 46 Vz
theorem Dh {l:List UInt8}(h:selector l=true):∀c∈l,isSmall c=true\/c=47\/OC c=true:=by
 obtain⟨a,d,rfl,_,_,ha,hd⟩:=Tf h;intro x hx;rcases YT.1 hx with hx|hx
 . exact .inl (ha x hx)
 . simp at hx;rcases hx with rfl|rfl
   . exact .inr NP
   . exact .inr (.inr hd)
theorem Oo {l:List UInt8}(h:selector l=true)(k:UInt8)(h1:isSmall k=false)(h2:k≠47)(h3:OC k=false):∀c∈l,c≠k:=λc hc e=>by
 subst e;rcases Dh h c hc with h'|h'|h'
 . rw[h1]at h';cases h'
 . exact h2 h'
 . rw[h3]at h';cases h'
def Np:List (List UInt8)->List UInt8
 | []=>[]
 | [p]=>p
 | p::q::r=>p++46::Np (q::r)
theorem Ak (p:List UInt8)(c:UInt8)(r:List (List UInt8)):Np ((c::p)::r)=c::Np (p::r):=by
 cases r<;>rfl
theorem OM:∀(l:List UInt8),Np (Vw l)=l
 | []=>rfl
 | c::r=>by
  have ih:=OM r;rw[Vw];split
  . rename_i e;have hne:=MZ r
    cases hs:Vw r with
    | nil=>exact absurd hs hne
    | cons p q=>rw[hs]at ih;show []++46::Np (p::q)=_;rw[ih,e];rfl
  . cases hs:Vw r with
    | nil=>exact absurd hs (MZ r)
    | cons p q=>rw[hs]at ih;show Np ((c::p)::q)=_;rw[Ak,ih]
theorem Me {l p q:List UInt8}(h:Vw l=[p,q]):l=p++46::q:=by
 have:=OM l;rw[h]at this;exact this.symm
theorem EU {l p q r:List UInt8}(h:Vw l=[p,q,r]):l=p++46::(q++46::r):=by
 have:=OM l;rw[h]at this;exact this.symm
theorem mJ {t:List UInt8}{x:W}(h:Vs t=some x):Form t x:=by
 unfold Vs at h;split at h
 . rename_i hp;obtain⟨r,rfl⟩:=Zi.1 hp;split at h
   . rename_i hc;injection h with h;exact .inr (.inl ⟨r,hc,rfl,h.symm⟩)
   . cases h
 . split at h
   . rename_i hp;obtain⟨r,rfl⟩:=Zi.1 hp;split at h
     . rename_i hc;injection h with h;exact .inr (.inr (.inl ⟨r,hc,rfl,h.symm⟩))
     . cases h
   . split at h
     . cases h
     . unfold Ue at h;split at h
       . rename_i p q hsp;split at h
         . rename_i hp;obtain⟨r,rfl⟩:=Zi.1 hp;split at h
           . rename_i hc;simp only[ZB]at hc;injection h with h;have hj:=Me (by simpa using hsp);exact .inr (.inr (.inr (.inl ⟨p,q,hc.1,hc.2,by rw[<- hj];rfl,h.symm⟩)))
           . cases h
         . split at h
           . rename_i hp;obtain⟨r,rfl⟩:=Zi.1 hp;split at h
             . rename_i hc;simp only[ZB]at hc;injection h with h;have hj:=Me (by simpa using hsp);exact .inr (.inr (.inr (.inr (.inl ⟨p,q,hc.1,hc.2,by rw[<- hj];rfl,h.symm⟩))))
             . cases h
           . cases h
       . rename_i p q r' hsp;split at h
         . rename_i hp;obtain⟨r,rfl⟩:=Zi.1 hp;split at h
           . rename_i hc;simp only[ZB]at hc;injection h with h;have hj:=EU (by simpa using hsp);exact .inr (.inr (.inr (.inr (.inr (.inl ⟨p,q,r',hc.1.1,hc.1.2,hc.2,by rw[<- hj];rfl,h.symm⟩)))))
           . cases h
         . cases h
       . cases h
theorem MK (c:UInt8)(r:List UInt8):first (c::r)=c.toNat:=rfl
theorem NI {t:List UInt8}{k:UInt8}(h:first t=k.toNat)(hk:k.toNat≠0):∃r,t=k::r:=by
 cases t with
 | nil=>exact absurd h.symm hk
 | cons c r=>exact⟨r,by rw[show c=k from Zj.1 h]⟩
theorem aZ {t:List UInt8}{x:W}(h:SY t=some x):Form t x:=by
 unfold SY at h;split at h
 . rename_i hs;injection h with h;exact .inr (.inr (.inr (.inr (.inr (.inr (.inl ⟨hs,h.symm⟩))))))
 . unfold Px at h;split at h
   . rename_i hs;obtain⟨r,rfl⟩:=NI (k:=94) hs.1 Vz;injection h with h;exact .inr (.inr (.inr (.inr (.inr (.inr (.inr (.inl ⟨r,hs.2,rfl,h.symm⟩)))))))
   . unfold KZ at h;split at h
     . rename_i hs;obtain⟨hd,e⟩:=Ns hs;injection h with h;exact .inr (.inr (.inr (.inr (.inr (.inr (.inr (.inr (.inl ⟨hd,by rw[<- h,e]⟩))))))))
     . unfold KJ at h;split at h
       . rename_i hs;obtain⟨r,rfl⟩:=NI (k:=45) hs.1 Vz;obtain⟨hd,e⟩:=Ns hs.2;injection h with h;exact .inr apQ
       . unfold Nz at h;split at h
         . rename_i hs;obtain⟨hd,e⟩:=Ns hs.2;rcases hs.1 with hf|hf
           . obtain⟨r,rfl⟩:=NI (k:=62) hf Vz;injection h with h;exact .inr alc
           . obtain⟨r,rfl⟩:=NI (k:=63) hf Vz;injection h with h;exact .inr (.inr alc)
         . unfold LH at h;split at h
           . rename_i hs;obtain⟨r,rfl⟩:=NI (k:=97) hs.1 Vz;obtain⟨hd,e⟩:=Ns hs.2.1;injection h with h;exact .inr (.inr (.inr (.inr (.inr (.inr (.inr (.inr (.inr (.inr (.inr (.inr (.inl ⟨r,hd,by have h3:=hs.2.2;rw[e]at h3;simp only[X8,X5]at h3;omega,rfl,by rw[<- h,e];rfl⟩))))))))))))
           . unfold Mc at h;split at h
             . rename_i hs;obtain⟨r,rfl⟩:=NI (k:=115) hs.1 Vz;obtain⟨hd,e⟩:=Ns hs.2;injection h with h;exact .inr (.inr (.inr (.inr alc)))
             . unfold LZ at h;split at h
               . rename_i hs;obtain⟨h3,ht,hd⟩:=hs
                 match t,h3,ht,hd,h with
                 | [a,b,c],_,ht,hd,h=>
                  simp only[List.take_succ_cons,List.take_zero,YC,VK]at ht;obtain⟨rfl,rfl⟩:=ht;have hd':U8 c=true:=hd;injection h with h;refine .inr (.inr (.inr (.inr (.inr (.inr (.inr (.inr (.inr (.inr (.inr (.inr (.inr (.inr ⟨[c],⟨Vy,Vy,by simpa using hd'⟩,rfl,?_⟩)))))))))))));rw[<- h];simp[numOf]
               . cases h
theorem agr {t:List UInt8}{x:W}(h:rd t=some x):Form t x:=by
 unfold rd at h;split at h
 . rename_i y hy;injection h with h;subst h;exact .inl hy
 . split at h
   . rename_i y hy;injection h with h;subst h;exact mJ hy
   . exact aZ h
theorem JY {t:List UInt8}{x:W}(h:Va t=some x):t∈[[115,101,108,102],[112,111,112],[100,117,112],[114,101,116],[43],[45],[42],[60],[61]]:=by
 unfold Va at h
 repeat (first
  | (split at h
     . rename_i e;subst e;simp)
  | cases h)
theorem QS {t:List UInt8}(h:t ∉ ([[115,101,108,102],[112,111,112],[100,117,112],[114,101,116],[43],[45],[42],[60],[61]]:List (List UInt8))):Va t=none:=by
 cases hr:Va t with
 | none=>rfl
 | some x=>exact absurd (JY hr) h
theorem P6 {t:List UInt8}(h:(58:UInt8) ∉ t):Vs t=none:=by
 have hp:∀q:List UInt8,(58:UInt8)∈q->List.isPrefixOf q t=false:=by
  intro q hq;rw[Y3];intro e;obtain⟨r,rfl⟩:=Zi.1 e;exact h (Ya _ hq)
 unfold Vs;rw[hp _ Vy,hp [98,101,58] Vy];simp only[XW,Zg];split
 . rfl
 . unfold Ue;split
   . rw[hp _ Vy,hp _ Vy];rfl
   . rw[hp _ Vy];rfl
   . rfl
theorem AO {c:UInt8}{r:List UInt8}(h:selector (c::r)=true):isSmall c=true:=by
 obtain⟨a,d,e,h1,_,ha,_⟩:=Tf h
 match a,h1 with
 | y::a',_=>
  injection e with e1 e2;rw[e1];exact ha y Vy
theorem Tn {c:UInt8}{r:List UInt8}(h:isSmall c=false):selector (c::r)=false:=by
 rw[Y3];intro e;rw[AO e]at h;cases h
theorem GH {c:UInt8}{r:List UInt8}{m:Nat}(h:U8 c=false):Vk (c::r) m=-1:=adI (λhd=>by rw[hd.2.2 c Vy]at h;cases h)
theorem Ik {d:List UInt8}{m:Nat}(h:Qm d m)(k:UInt8)(hk:U8 k=false):k ∉ d:=λhm=>by rw[h.2.2 k hm]at hk;cases hk
theorem P7 {d:List UInt8}{m:Nat}(h:Qm d m):∃c r,d=c::r/\U8 c=true:=by
 match d,h with
 | [],h=>have:=h.1;simp at this
 | c::r,h=>exact⟨c,r,rfl,h.2.2 c Vy⟩
theorem agK {c:UInt8}{d:List UInt8}{m:Nat}(hd:Qm d m)(N0:c≠58)(hs:isSmall c=false)(hp:(c::d) ∉ ([[115,101,108,102],[112,111,112],[100,117,112],[114,101,116],[43],[45],[42],[60],[61]]:List (List UInt8))):rd (c::d)=Px (c::d):=by
 unfold rd
 rw[QS hp,P6 (by
  intro hm;rcases ZM.1 hm with e|e
  . exact N0 e.symm
  . exact Ik hd 58 Vz e)]
 show SY (c::d)=_;unfold SY;rw[Tn hs];rfl
theorem Iu {c:UInt8}{d:List UInt8}{m:Nat}(hd:Qm d m):(c::d) ∉ ([[115,101,108,102],[112,111,112],[100,117,112],[114,101,116],[43],[45],[42],[60],[61]]:List (List UInt8)):=by
 obtain⟨y,r,rfl,hy⟩:=P7 hd;intro hm;simp only[ZM,YC,Zx,YE,reduceCtorEq,and_false,false_or]at hm
 rcases hm with⟨_,e,_⟩|⟨_,e,_⟩|⟨_,e,_⟩|⟨_,e,_⟩<;>(rw[e]at hy;revert hy;decide)
theorem alg {d:List UInt8}(hd:Qm d 4):rd (45::d)=some ⟨110,-((numOf d:Nat):Int),[],[],[]⟩:=by
 refine acM ?_;intro e;rw[ZU ⟨rfl,by show 0<=Vk d 4;omega⟩];show some (W.mk 110 (-(Vk d 4)) [] [] [])=_;rw[e]
theorem afE {d:List UInt8}(hd:Qm d 2):rd (62::d)=some ⟨62,(numOf d:Nat),[],[],[]⟩:=by
 refine acM ?_;intro e;rw[ZX sV];unfold Nz;rw[ZU ⟨.inl rfl,by show 0<=Vk d 2;omega⟩];show some (W.mk 62 (Vk d 2) [] [] [])=_;rw[e]
theorem am6 {d:List UInt8}(hd:Qm d 2):rd (63::d)=some ⟨63,(numOf d:Nat),[],[],[]⟩:=by
 refine acM ?_;intro e;rw[ZX sV];unfold Nz;rw[ZU ⟨.inr rfl,by show 0<=Vk d 2;omega⟩];show some (W.mk 63 (Vk d 2) [] [] [])=_;rw[e]
theorem akK {d:List UInt8}(hd:Qm d 4):rd d=some ⟨110,(numOf d:Nat),[],[],[]⟩:=by
 have e:=Ny hd;obtain⟨c,r,rfl,hc⟩:=P7 hd;have hsm:isSmall c=false:=by rw[Y3];intro h;simp[U8]at hc;simp[isSmall]at h;omega
 have hcn:=(Sj.1 hc).2;unfold rd
 rw[QS (by
  intro hm;simp only[ZM,YC,Zx,YE]at hm
  rcases hm with⟨rfl,_⟩|⟨rfl,_⟩|⟨rfl,_⟩|⟨rfl,_⟩|⟨rfl,_⟩|⟨rfl,_⟩|⟨rfl,_⟩|⟨rfl,_⟩|⟨rfl,_⟩<;>revert hc<;>decide),P6 (Ik hd 58 Vz)]
 show SY (c::r)=_;unfold SY;rw[Tn hsm];show Px (c::r)=_;unfold Px;rw[ZX (λh=>by have:=h.1;rw[MK]at this;omega)];unfold KZ;rw[ZU VH,e]
theorem apf {sl:List UInt8}(h:selector sl=true):rd (94::sl)=some ⟨94,(U6 sl:Nat),sl,[],[]⟩:=by
 unfold rd
 rw[QS (by
  intro hm;simp only[ZM,YC,Zx,YE]at hm
  rcases hm with⟨e,_⟩|⟨e,_⟩|⟨e,_⟩|⟨e,_⟩|⟨e,_⟩|⟨e,_⟩|⟨e,_⟩|⟨e,_⟩|⟨e,_⟩<;>revert e<;>decide),P6 (by
  intro hm;rcases ZM.1 hm with e|e
  . revert e;decide
  . exact Oo h 58 Vz Vz Vz 58 e rfl)]
 show SY (94::sl)=_;unfold SY;rw[Tn Vz];show Px (94::sl)=_;unfold Px;rw[ZU ⟨rfl,h⟩];rfl
theorem aly {t:List UInt8}(h:selector t=true):rd t=some ⟨115,(U6 t:Nat),t,[],[]⟩:=by
 unfold rd
 rw[QS (by
  intro hm;simp only[ZM,Zx,YE]at hm
  rcases hm with rfl|rfl|rfl|rfl|rfl|rfl|rfl|rfl|rfl<;>revert h<;>decide),P6 (λe=>Oo h 58 Vz Vz Vz 58 e rfl)]
 show SY t=_;unfold SY;rw[ZU h]
theorem wU {c:UInt8}{d:List UInt8}(hd:Qm d 1):selector (c::d)=false:=by
 rw[Y3];intro h;obtain⟨a,e,he,h1,_⟩:=Tf h;have:=YV List.length he;have h1:=hd.2.1;simp at this;omega
theorem yN {c:UInt8}{d:List UInt8}(hd:Qm d 1)(N0:c≠58)(Hs:U8 c=false)(Kb:c.toNat≠94):rd (c::d)=KJ (c::d):=by
 unfold rd
 rw[QS (Iu hd),P6 (by
  intro hm;rcases ZM.1 hm with e|e
  . exact N0 e.symm
  . exact Ik hd 58 Vz e)]
 show SY (c::d)=_;unfold SY;rw[wU hd];show Px (c::d)=_;unfold Px;rw[ZX (λh=>Kb h.1)];unfold KZ;rw[GH Hs,ZX VH]
theorem ake {d:List UInt8}(hd:Qm d 1)(h3:numOf d<3):rd (97::d)=some ⟨97,(numOf d:Nat),[],[],[]⟩:=by
 rw[yN hd Vz Vz Vz];have e:=Ny hd;refine ab2 ?_;rw[ZU ⟨rfl,by show 0<=Vk d 1;omega,by show Vk d 1<3;omega⟩];show some (W.mk 97 (Vk d 1) [] [] [])=_;rw[e]
theorem afy {d:List UInt8}(hd:Qm d 1):rd (115::d)=some ⟨103,(numOf d:Nat),[],[],[]⟩:=by
 rw[yN hd Vz Vz Vz];have e:=Ny hd;refine ab2 ?_;rw[ZX sV];unfold Mc;rw[ZU ⟨rfl,by show 0<=Vk d 1;omega⟩];show some (W.mk 103 (Vk d 1) [] [] [])=_;rw[e]
theorem acf {d:List UInt8}(hd:Qm d 1):rd (61::115::d)=some ⟨112,(numOf d:Nat),[],[],[]⟩:=by
 obtain⟨c,r,rfl,hc⟩:=P7 hd;have hr:r=[]:=by have:=hd.2.1;simp at this;exact this
 subst hr;unfold rd
 rw[QS (by
  intro hm
  simp at hm),P6 (by
  intro hm;rcases ZM.1 hm with e|e
  . revert e;decide
  . rcases ZM.1 e with e|e
    . revert e;decide
    . exact Ik hd 58 Vz e)]
 show SY _=_;unfold SY;rw[Tn Vz];rw[ZX Vy];unfold Px;rw[ZX sV];unfold KZ;rw[GH Vz,ZX VH];refine ab2 ?_;rw[ZX sV];unfold Mc;rw[ZX sV];unfold LZ;rw[ZU ⟨rfl,rfl,hc⟩];simp[numOf]
theorem OW {a b c e:UInt8}{r:List UInt8}(h:a=110\/a=98\/a=109\/a=99\/(a=100/\b=114)):Va (a::b::c::r)=none:=by
 refine QS (λhm=>?_);simp only[ZM,YC,Zx,YE,reduceCtorEq,and_false]at hm;rcases h with rfl|rfl|rfl|rfl|⟨rfl,rfl⟩<;>simp at hm
theorem akd {nm:List UInt8}(h:className nm=true):rd (110::101::119::58::nm)=some ⟨119,0,[],nm,[]⟩:=by
 unfold rd;rw[OW (e:=0) NP]
 have:Vs (110::101::119::58::nm)=some ⟨119,0,[],nm,[]⟩:=by
  unfold Vs;rw[ZU GL,ZU (by exact h)];rfl
 rw[this]
theorem apc {nm:List UInt8}(h:className nm=true):rd (98::101::58::nm)=some ⟨98,0,[],nm,[]⟩:=by
 unfold rd;rw[OW (e:=0) oG]
 have:Vs (98::101::58::nm)=some ⟨98,0,[],nm,[]⟩:=by
  unfold Vs;rw[ZX GL,ZU GL,ZU (by exact h)];rfl
 rw[this]
theorem zO {nm q:List UInt8}(h:className nm=true)(hq:∀c∈q,c≠46):Vw (nm++46::q)=[nm,q]:=by
 rw[QU nm q (QB h),PZ q hq]
theorem ahf {l:List UInt8}(h:selector l=true):∀c∈l,c≠46:=Oo h 46 Vz Vz Vz
theorem agF {nm sl:List UInt8}(h:className nm=true)(h':selector sl=true):rd (100::114::111::112::58::(nm++46::sl))=some ⟨120,0,sl,nm,[]⟩:=by
 unfold rd;rw[OW (e:=0) (.inr (.inr (.inr (.inr KP))))]
 have:Vs (100::114::111::112::58::(nm++46::sl))=some ⟨120,0,sl,nm,[]⟩:=by
  unfold Vs;rw[ZX GL,ZX GL,ZX Vy];show Ue _ (Vw (nm++46::sl))=_;rw[zO h (ahf h'),Ue,ZU GL,ZU (by simp[h,h'])]
 rw[this]
theorem ae9 {nm nn:List UInt8}(h:className nm=true)(h':className nn=true):rd (109::111::118::101::58::(nm++46::nn))=some ⟨118,0,[],nm,nn⟩:=by
 unfold rd;rw[OW (e:=0) (.inr oG)]
 have:Vs (109::111::118::101::58::(nm++46::nn))=some ⟨118,0,[],nm,nn⟩:=by
  unfold Vs;rw[ZX GL,ZX GL,ZX Vy];show Ue _ (Vw (nm++46::nn))=_;rw[zO h (QB h'),Ue,ZX GL,ZU GL,ZU (by simp[h,h'])]
 rw[this]
theorem agj {nm sl nn:List UInt8}(h:className nm=true)(h':selector sl=true)(h'':className nn=true):rd (99::111::112::121::58::(nm++46::(sl++46::nn)))=some ⟨99,0,sl,nm,nn⟩:=by
 unfold rd;rw[OW (e:=0) (.inr (.inr oG))]
 have:Vs (99::111::112::121::58::(nm++46::(sl++46::nn)))=some ⟨99,0,sl,nm,nn⟩:=by
  unfold Vs;rw[ZX GL,ZX GL,ZX Vy];show Ue _ (Vw (nm++46::(sl++46::nn)))=_;rw[QU nm _ (QB h),QU sl _ (ahf h'),PZ nn (QB h''),Ue,ZU GL,ZU (by simp[h,h',h''])]
 rw[this]
theorem wL {t:List UInt8}{x:W}(h:Form t x):rd t=some x:=by
 rcases h with h|⟨nm,h,rfl,rfl⟩|⟨nm,h,rfl,rfl⟩|⟨nm,sl,h,h',rfl,rfl⟩|⟨nm,nn,h,h',rfl,rfl⟩|⟨nm,sl,nn,h,h',h'',rfl,rfl⟩|⟨h,rfl⟩|⟨sl,h,rfl,rfl⟩|⟨h,rfl⟩|⟨d,h,rfl,rfl⟩|⟨d,h,rfl,rfl⟩|⟨d,h,rfl,rfl⟩|⟨d,h,h',rfl,rfl⟩|⟨d,h,rfl,rfl⟩|⟨d,h,rfl,rfl⟩
 . unfold rd;rw[h]
 . exact akd h
 . exact apc h
 . exact agF h h'
 . exact ae9 h h'
 . exact agj h h' h''
 . exact aly h
 . exact apf h
 . exact akK h
 . exact alg h
 . exact afE h
 . exact am6 h
 . exact ake h h'
 . exact afy h
 . exact acf h
theorem aln {t:List UInt8}{x:W}:rd t=some x↔Form t x:=⟨agr,wL⟩
def Ends (u:List UInt8):Prop:=∀c,u[0]?=some c->c=32
theorem bZ {d u:List UInt8}{m:Nat}(hd:Qm d m)(hu:Ends u):Vj U8 m (d++u)=d:=
 Ql U8 m d u hd.2.2 hd.2.1 (.inr λc hc=>by rw[hu c hc];decide)
theorem afY {d:List UInt8}{m:Nat}(hd:Qm d m):d≠[]:=λe=>by have:=hd.1;rw[e]at this;simp at this
theorem O8 {d u:List UInt8}{m k ahead:Nat}(hd:Qm d m)(hu:Ends u):TA k U8 m ahead (d++u)=some (⟨k,(numOf d:Nat),[],[],[]⟩,ahead+d.length):=by
 unfold TA;rw[bZ hd hu,ZX (afY hd)]
theorem PN {nm v:List UInt8}(h:className nm=true)(hv:∀c,v[0]?=some c->isSmall c=false):Ve (nm++v)=nm:=by
 obtain⟨c,r,rfl,hc,hl,hr⟩:=OX h;have e1:Vj Rf 1 (c::r++v)=[c]:=Ql Rf 1 [c] (r++v) akT Vy NP;have e2:=Ql isSmall 5 r v hr hl (.inr hv);unfold Ve;rw[e1];show [c]++Vj isSmall 5 (r++v)=_;rw[e2];rfl
theorem Iy {sl v:List UInt8}(h:selector sl=true):TW (sl++v)=sl:=by
 obtain⟨a,d,rfl,h1,h6,ha,hd⟩:=Tf h
 have e1:Vj isSmall 6 (a++[47,d]++v)=a:=by
  rw[Y1];exact Ql isSmall 6 a _ ha h6 (.inr λc hc=>akp)
 have e2:(a++[47,d]++v)[a.length]?=some 47:=by rw[Y1,ZP UM,Y0];rfl
 have e3:(a++[47,d]++v).drop (a.length+1)=d::v:=by
  rw[Y1,YM,Zk VH,show a.length+1-a.length=1 from VH];rfl
 have e4:Vj OC 1 (d::v)=[d]:=Ql OC 1 [d] v (by simpa using hd) Vy NP;have hne:a≠[]:=λe=>afp;unfold TW;rw[e1,e2,e3,e4,ZX hne,ZU rfl,ZX Vy]
theorem CJ {l:List UInt8}(h:selector l=true):l≠[]:=λe=>by rw[e]at h;revert h;decide
theorem Ol {l:List UInt8}(h:className l=true):l≠[]:=λe=>by rw[e]at h;revert h;decide
theorem aJ {u:List UInt8}(hu:Ends u):∀c,u[0]?=some c->isSmall c=false:=λc hc=>by rw[hu c hc];decide
theorem DX {v:List UInt8}:∀c,((46:UInt8)::v)[0]?=some c->isSmall c=false:=λc hc=>akp
theorem OG (L r:List UInt8)(h1:1<=L.length)(h6:L.length<=6)(hL:∀c∈L,isSmall c=true)(hr:L.length=6\/∀c,r[0]?=some c->isSmall c=false):
 kw (L++r)=if r[0]?=some 58 then TP (QG L) (L.length+1) (r.drop 1) else if r[0]?=some 47 then QT 115 0 (L++r) else if L=[97] then TA 97 Gx 1 1 r else if L=[115] then TA 103 U8 1 1 r
  else if PD L=0 then none else some (⟨PD L,0,[],[],[]⟩,L.length):=by
 have e1:=Ql isSmall 6 L r hL h6 hr;have e2:(L++r)[L.length]?=r[0]?:=by rw[ZP UM,Y0]
 have e3:(L++r).drop (L.length+1)=r.drop 1:=by rw[YM,Zk VH,show L.length+1-L.length=1 from VH];rfl
 have hne:L≠[]:=λe=>afp
 have hf:97<=first (L++r)/\first (L++r)<=122:=by
  match L,hne with
  | c::L',_=>
   have:=hL c Vy;simp[isSmall]at this;exact this
 have e4:∀k,L=[k]->(L++r).drop 1=r:=λk e=>Sv;unfold kw;rw[ZX VH,ZX VH,ZX VH,ZX VH,ZX VH,ZX VH,e1,ZX hne,e2,e3];split
 . rfl
 . split
   . rfl
   . split
     . rename_i e;rw[e4 _ e]
     . split
       . rename_i e;rw[e4 _ e]
       . rfl
theorem agM {t u:List UInt8}{x:W}(hu:Ends u)(h:Form t x):kw (t++u)=some (x,t.length):=by
 rcases h with h|⟨nm,h,rfl,rfl⟩|⟨nm,h,rfl,rfl⟩|⟨nm,sl,h,h',rfl,rfl⟩|⟨nm,nn,h,h',rfl,rfl⟩|⟨nm,sl,nn,h,h',h'',rfl,rfl⟩|⟨h,rfl⟩|⟨sl,h,rfl,rfl⟩|⟨h,rfl⟩|⟨d,h,rfl,rfl⟩|⟨d,h,rfl,rfl⟩|⟨d,h,rfl,rfl⟩|⟨d,h,h',rfl,rfl⟩|⟨d,h,rfl,rfl⟩|⟨d,h,rfl,rfl⟩
 . -- plain
   have hm:=JY h;have h0:∀k:UInt8,k≠32->u[0]?≠some k:=λk hk e=>hk (hu k e);simp only[ZM,Zx,YE]at hm;rcases hm with rfl|rfl|rfl|rfl|rfl|rfl|rfl|rfl|rfl
   . exact afS
   . exact afS
   . exact afS
   . exact afS
   . rw[<- Y7 h];rfl
   . have he:(45::u).length=1\/(45::u)[1]?=some 32:=by
      cases u with
      | nil=>exact .inl rfl
      | cons c u=>right;rw[hu c rfl];rfl
     rw[<- Y7 h];show kw (45::u)=_;unfold kw;rw[ZU (show first (45::u)=45 from rfl),ZU he];rfl
   . rw[<- Y7 h];rfl
   . rw[<- Y7 h];rfl
   . rw[<- Y7 h];show kw (61::u)=_;unfold kw;rw[ZX Ez,ZU (show first (61::u)=61 from rfl),ZX (by exact h0 115 Vz)];rfl
 . show kw ([110,101,119]++58::(nm++u))=_;refine uU ?_;show TP 119 4 (nm++u)=_;unfold TP;rw[PN h aaW,ZX (Ol h),ZU (.inl rfl)];simp;omega
 . show kw ([98,101]++58::(nm++u))=_;refine uU ?_;show TP 98 3 (nm++u)=_;unfold TP;rw[PN h aaW,ZX (Ol h),ZU (.inr rfl)];simp;omega
 . show kw ([100,114,111,112]++58::((nm++46::sl)++u))=_;refine uU ?_;show TP 120 5 ((nm++46::sl)++u)=_;rw[Y1];show TP 120 5 (nm++46::(sl++u))=_;have e1:=PN (v:=46::(sl++u)) h DX;have e2:(nm++46::(sl++u))[nm.length]?=some 46:=by rw[ZP UM,Y0];rfl
   have e3:(nm++46::(sl++u)).drop (nm.length+1)=sl++u:=akU;unfold TP;rw[e1,ZX (Ol h),ZX Vz,ZU (.inl rfl),e2,ZU rfl,e3,Iy h',ZX (CJ h'),ZU rfl];simp;omega
 . show kw ([109,111,118,101]++58::((nm++46::nn)++u))=_;refine uU ?_;show TP 118 5 ((nm++46::nn)++u)=_;rw[Y1];show TP 118 5 (nm++46::(nn++u))=_;have e1:=PN (v:=46::(nn++u)) h DX;have e2:(nm++46::(nn++u))[nm.length]?=some 46:=by rw[ZP UM,Y0];rfl
   have e3:(nm++46::(nn++u)).drop (nm.length+1)=nn++u:=akU;unfold TP;rw[e1,ZX (Ol h),ZX Vz,ZX Vz,ZU rfl,e2,ZU rfl,e3,PN h' aaW,ZX (Ol h')];simp;omega
 . show kw ([99,111,112,121]++58::((nm++46::(sl++46::nn))++u))=_;refine uU ?_;show TP 99 5 ((nm++46::(sl++46::nn))++u)=_;have er:(nm++46::(sl++46::nn))++u=nm++46::(sl++46::(nn++u)):=Vy;rw[er];have e1:=PN (v:=46::(sl++46::(nn++u))) h DX;have e2:(nm++46::(sl++46::(nn++u)))[nm.length]?=some 46:=by rw[ZP UM,Y0];rfl
   have e3:(nm++46::(sl++46::(nn++u))).drop (nm.length+1)=sl++46::(nn++u):=akU
   have e4:(nm++46::(sl++46::(nn++u)))[nm.length+1+sl.length]?=some 46:=by
    rw[ZP VH,show nm.length+1+sl.length-nm.length=sl.length+1 from VH,Xn,ZP UM,Y0];rfl
   have e5:(nm++46::(sl++46::(nn++u))).drop (nm.length+1+sl.length+1)=nn++u:=by
    rw[YM,Zk VH,show nm.length+1+sl.length+1-nm.length=(sl.length+1)+1 from VH,X8,Yg,YM,Zk VH,show sl.length+1-sl.length=1 from VH];rfl
   unfold TP;rw[e1,ZX (Ol h),ZX Vz,ZU (.inr rfl),e2,ZU rfl,e3,Iy h',ZX (CJ h'),ZX Vz,e4,ZU rfl,e5,PN h'' aaW,ZX (Ol h'')];simp;omega
 . obtain⟨a,d,rfl,h0,h6,ha,hd⟩:=Tf h;rw[Y1,OG a _ h0 h6 ha an0,ZX Vy,ZU Vy,<- Y1];unfold QT;rw[Iy h,ZX (CJ h),YU]
 . show kw (94::(sl++u))=_;unfold kw;rw[ZX Ez,ZX Ez,ZU (show first (94::(sl++u))=94 from rfl)];show QT 94 1 (sl++u)=_;unfold QT;rw[Iy h,ZX (CJ h)];simp;omega
 . obtain⟨c,r,rfl,hc⟩:=P7 h;have hc':=Sj.1 hc
   have e1:Vj isSmall 6 (c::r++u)=[]:=by
    refine Ql isSmall 6 [] (c::r++u) Vy Vy (.inr λy hy=>?_);simp at hy;rw[<- hy,Y3];intro hs;simp[isSmall]at hs;omega
   have hf:first (c::r++u)=c.toNat:=rfl
   unfold kw;rw[hf,ZX VH,ZX VH,ZX VH,ZX VH,ZX VH,ZX VH,e1,ZU rfl,O8 h hu,YU]
 . obtain⟨c,r,hcr,hc⟩:=P7 h
   have hn:¬((45::(d++u)).length=1\/(45::(d++u))[1]?=some 32):=by
    rw[hcr];rintro(e|e)
    . simp at e
    . simp at e;rw[e]at hc;revert hc;decide
   show kw (45::(d++u))=_;unfold kw;rw[ZU (show first (45::(d++u))=45 from rfl),ZX hn];show (TA 110 U8 4 1 (d++u)).map _=_;rw[O8 h hu];simp;omega
 . show kw (62::(d++u))=_;unfold kw;rw[ZX Ez,ZX Ez,ZX Ez,ZU (show first (62::(d++u))=62 from rfl)];show TA 62 U8 2 1 (d++u)=_;rw[O8 h hu];simp;omega
 . show kw (63::(d++u))=_;unfold kw;rw[ZX Ez,ZX Ez,ZX Ez,ZX Ez,ZU (show first (63::(d++u))=63 from rfl)];show TA 63 U8 2 1 (d++u)=_;rw[O8 h hu];simp;omega
 . obtain⟨c,r,rfl,hc⟩:=P7 h;have hr:r=[]:=by have:=h.2.1;simp at this;exact this
   subst hr;have hc':=Sj.1 hc
   have h0:Gx c=true:=by
    have:c.toNat-48<3:=by simpa[numOf]using h'
    simp[Gx];omega
   show kw ([97]++(c::u))=_;rw[OG _ _ Vy Vy Vz (.inr (λy hy=>al7)),ZX afd,ZX afd,ZU rfl];unfold TA;have e4:Vj Gx 1 (c::u)=[c]:=Ql Gx 1 [c] u (by simpa using h0) Vy NP;rw[e4];rfl
 . obtain⟨c,r,rfl,hc⟩:=P7 h;have hr:r=[]:=by have:=h.2.1;simp at this;exact this
   subst hr;have hc':=Sj.1 hc;show kw ([115]++(c::u))=_;rw[OG _ _ Vy Vy Vz (.inr (λy hy=>al7)),ZX afd,ZX afd,ZX Vz,ZU rfl];exact O8 (d:=[c]) h hu
 . show kw (61::115::(d++u))=_;unfold kw;rw[ZX Ez,ZU (show first (61::115::(d++u))=61 from rfl),ZU (show (61::115::(d++u))[1]?=some 115 from rfl)];show TA 112 U8 1 2 (d++u)=_;rw[O8 h hu];simp;omega
theorem QD {r:List UInt8}(h:Ve r≠[]):className (Ve r)=true/\∃v,r=Ve r++v:=by
 unfold Ve at h ⊢;split at h
 . exact absurd rfl h
 . rename_i hne;rw[ZX hne];have h1:=Q5 Rf 1 r;have ha:=QC Rf 1 r;obtain⟨v,hv⟩:=QE Rf 1 r
   match hs:Vj Rf 1 r,hne,h1 with
   | [c],_,_=>
    rw[hs]at ha hv;obtain⟨v',hv'⟩:=QE isSmall 5 (r.drop 1);have hrd:r.drop 1=v:=by rw[hv];rfl
    refine⟨yC (ha c Vy) (Q5 isSmall 5 _) (QC isSmall 5 _),v',?_⟩;show r=[c]++Vj isSmall 5 (r.drop 1)++v';rw[Y1,<- hv',hrd];exact hv
theorem Qe {r:List UInt8}(h:TW r≠[]):selector (TW r)=true/\∃v,r=TW r++v:=by
 unfold TW at h ⊢;split at h
 . exact absurd rfl h
 . rename_i hne;split at h
   . rename_i h47;split at h
     . exact absurd rfl h
     . rename_i hd;rw[ZX hne,ZU h47,ZX hd];obtain⟨v,hv⟩:=QE isSmall 6 r;have h6:=Q5 isSmall 6 r;have ha:=QC isSmall 6 r
       have hl:1<=(Vj isSmall 6 r).length:=by
        cases hs:Vj isSmall 6 r with
        | nil=>exact absurd hs hne
        | cons c t=>simp
       generalize Vj isSmall 6 r=a at *
       have e1:v[0]?=some 47:=by
        rw[hv,ZP UM,Y0]at h47;exact h47
       obtain⟨v',rfl⟩:∃v',v=47::v':=by
        cases v with
        | nil=>simp at e1
        | cons c t=>simp at e1;exact⟨t,by rw[e1]⟩
       have e1:r.drop (a.length+1)=v':=by rw[hv,YM,Zk VH,show a.length+1-a.length=1 from VH];rfl
       rw[e1]at hd ⊢;obtain⟨y,hy⟩:=QE OC 1 v';have g1:=Q5 OC 1 v';have ga:=QC OC 1 v'
       match hs:Vj OC 1 v',hd,g1 with
       | [d],_,_=>
        rw[hs]at hy ga;refine⟨rO hl h6 ha (ga d Vy),y,?_⟩;rw[hv,hy];simp
   . exact absurd rfl h
theorem QL {k m ahead n:Nat}{p:UInt8->Bool}{r:List UInt8}{x:W}(h:TA k p m ahead r=some (x,n)):
 ∃d v,r=d++v/\1<=d.length/\d.length<=m/\(∀c∈d,p c=true)/\x=⟨k,(numOf d:Nat),[],[],[]⟩/\n=ahead+d.length:=by
 unfold TA at h;split at h
 . cases h
 . rename_i hne;obtain⟨v,hv⟩:=QE p m r;simp only[Y2,YL]at h;exact⟨Vj p m r,v,hv,by cases hs:Vj p m r with|nil=>exact absurd hs hne|cons c t=>simp,Q5 p m r,QC p m r,h.1.symm,h.2.symm⟩
theorem Fh {k ahead n:Nat}{r:List UInt8}{x:W}(h:QT k ahead r=some (x,n)):∃sl v,selector sl=true/\r=sl++v/\x=⟨k,(U6 sl:Nat),sl,[],[]⟩/\n=ahead+sl.length:=by
 unfold QT at h;split at h
 . cases h
 . rename_i hne;obtain⟨hs,v,hv⟩:=Qe hne;simp only[Y2,YL]at h;exact⟨TW r,v,hs,hv,h.1.symm,h.2.symm⟩
theorem Tz {a v:List UInt8}{n:Nat}(h:n=a.length):(a++v).take n=a/\n<=(a++v).length:=by
 subst h;exact⟨Xq rfl,Vy⟩
theorem yE {k ahead n:Nat}{r:List UInt8}{x:W}(h:TP k ahead r=some (x,n)):
 (∃nm v,className nm=true/\(k=119\/k=98)/\r=nm++v/\x=⟨k,0,[],nm,[]⟩/\n=ahead+nm.length)\/
 (∃nm sl v,className nm=true/\selector sl=true/\k=120/\r=(nm++46::sl)++v/\x=⟨k,0,sl,nm,[]⟩/\n=ahead+(nm++46::sl).length)\/
 (∃nm sl nn v,className nm=true/\selector sl=true/\className nn=true/\k=99/\r=(nm++46::(sl++46::nn))++v/\x=⟨k,0,sl,nm,nn⟩/\n=ahead+(nm++46::(sl++46::nn)).length)\/
 (∃nm nn v,className nm=true/\className nn=true/\k=118/\r=(nm++46::nn)++v/\x=⟨k,0,[],nm,nn⟩/\n=ahead+(nm++46::nn).length):=by
 unfold TP at h;split at h
 . cases h
 . rename_i hne;obtain⟨E_,v,hv⟩:=QD hne;generalize Ve r=nm at *
   have dot:r[nm.length]?=some 46->∃v',v=46::v'/\r.drop (nm.length+1)=v':=λe=>by
    rw[hv,ZP UM,Y0]at e
    cases v with
    | nil=>simp at e
    | cons c t=>
     simp at e;exact⟨t,pI,by rw[hv,YM,Zk VH,show nm.length+1-nm.length=1 from VH];rfl⟩
   split at h
   . rename_i hk;simp only[Y2,YL]at h;exact .inl ⟨nm,v,E_,hk,hv,h.1.symm,h.2.symm⟩
   . split at h
     . rename_i hk;split at h
       . rename_i QQ;obtain⟨v1,rfl,hd⟩:=dot QQ;rw[hd]at h;split at h
         . cases h
         . rename_i gR;obtain⟨hsl,v2,hv2⟩:=Qe gR;generalize TW v1=sl at *;subst hv2;split at h
           . rename_i hk2;simp only[Y2,YL]at h;exact .inr (.inl ⟨nm,sl,v2,E_,hsl,hk2,by rw[hv];simp,h.1.symm,akE⟩)
           . rename_i hk2;split at h
             . rename_i tm
               have e:v2[0]?=some 46:=by
                rw[hv,ZP VH,show nm.length+1+sl.length-nm.length=sl.length+1 from VH,Xn,ZP UM,Y0]at tm;exact tm
               obtain⟨v3,rfl⟩:∃v3,v2=46::v3:=by
                cases v2 with
                | nil=>simp at e
                | cons c t=>simp at e;exact⟨t,pI⟩
               have e5:r.drop (nm.length+1+sl.length+1)=v3:=by
                rw[hv,YM,Zk VH,show nm.length+1+sl.length+1-nm.length=(sl.length+1)+1 from VH,X8,Yg,YM,Zk VH,show sl.length+1-sl.length=1 from VH];rfl
               rw[e5]at h;split at h
               . cases h
               . rename_i xx;obtain⟨hnn,v4,hv4⟩:=QD xx;generalize Ve v3=nn at *;subst hv4;simp only[Y2,YL]at h;exact .inr (.inr (.inl ⟨nm,sl,nn,v4,E_,hsl,hnn,VH,by rw[hv];simp,h.1.symm,akE⟩))
             . cases h
       . cases h
     . split at h
       . rename_i hk;split at h
         . rename_i QQ;obtain⟨v1,rfl,hd⟩:=dot QQ;rw[hd]at h;split at h
           . cases h
           . rename_i xx;obtain⟨hnn,v2,hv2⟩:=QD xx;generalize Ve v1=nn at *;subst hv2;simp only[Y2,YL]at h;exact .inr (.inr (.inr ⟨nm,nn,v2,E_,hnn,hk,by rw[hv];simp,h.1.symm,akE⟩))
         . cases h
       . cases h
theorem alu {d:List UInt8}(h1:1<=d.length)(hm:d.length<=1)(hd:∀c∈d,Gx c=true):Qm d 1/\numOf d<3:=by
 match d,h1,hm with
 | [c],_,_=>
  have:=hd c Vy;simp[Gx]at this;refine⟨⟨Vy,Vy,?_⟩,?_⟩
  . intro y hy;simp at hy;subst hy;simp[U8];omega
  . simp[numOf];omega
theorem Nb (L:List UInt8):QG L=119/\L=[110,101,119]\/QG L=98/\L=[98,101]\/QG L=120/\L=[100,114,111,112]\/QG L=118/\L=[109,111,118,101]\/QG L=99/\L=[99,111,112,121]\/QG L=0:=by
 unfold QG;split
 . rename_i e;exact .inl ⟨rfl,e⟩
 . split
   . rename_i e;exact .inr (.inl ⟨rfl,e⟩)
   . split
     . rename_i e;exact .inr (.inr (.inl ⟨rfl,e⟩))
     . split
       . rename_i e;exact .inr (.inr (.inr (.inl ⟨rfl,e⟩)))
       . split
         . rename_i e;exact .inr (.inr (.inr (.inr (.inl ⟨rfl,e⟩))))
         . exact .inr (.inr (.inr (.inr JQ)))
theorem IU {r:List UInt8}{x:W}{n:Nat}(hr:r≠[])(h:kw r=some (x,n)):Form (r.take n) x/\n<=r.length:=by
 obtain⟨c,q,rfl⟩:∃c q,r=c::q:=by
  cases r with
  | nil=>exact absurd rfl hr
  | cons c q=>exact⟨c,q,rfl⟩
 unfold kw at h;by_cases hf:first (c::q)=45
 . rw[ZU hf]at h;obtain rfl:c=45:=Zj.1 hf;by_cases he:(45::q).length=1\/(45::q)[1]?=some 32
   . rw[ZU he]at h;exact aiW
   . rw[ZX he]at h
     cases hk:TA 110 U8 4 1 ((45::q).drop 1) with
     | none=>rw[hk]at h;cases h
     | some y=>
      obtain⟨y,ny⟩:=y;rw[hk]at h;obtain⟨d,v,hv,h1,hm,hd,rfl,rfl⟩:=QL hk;have hv':q=d++v:=hv;subst hv';simp only[ZG,Y2,YL]at h;obtain⟨rfl,rfl⟩:=h;obtain⟨e1,e2⟩:=Tz (a:=45::d) (v:=v) (n:=1+d.length) Vo;rw[YR]at e1 e2;rw[e1];exact⟨.inr apF,e2⟩
 . rw[ZX hf]at h;by_cases hf:first (c::q)=61
   . rw[ZU hf]at h;obtain rfl:c=61:=Zj.1 hf;by_cases VC:(61::q)[1]?=some 115
     . rw[ZU VC]at h
       obtain⟨q',rfl⟩:∃q',q=115::q':=by
        cases q with
        | nil=>simp at VC
        | cons y t=>simp at VC;exact⟨t,by rw[VC]⟩
       obtain⟨d,v,hv,h1,hm,hd,rfl,rfl⟩:=QL h;have hv':q'=d++v:=hv;subst hv';obtain⟨e1,e2⟩:=Tz (a:=61::115::d) (v:=v) (n:=2+d.length) Vo;rw[YR,YR]at e1 e2;rw[e1];exact⟨.inr (.inr (.inr (.inr (.inr (.inr (.inr (.inr (.inr (.inr (.inr (.inr (.inr (.inr apR))))))))))))),e2⟩
     . rw[ZX VC]at h;exact aiW
   . rw[ZX hf]at h;by_cases hf:first (c::q)=94
     . rw[ZU hf]at h;obtain rfl:c=94:=Zj.1 hf;obtain⟨sl,v,hs,hv,rfl,rfl⟩:=Fh h;have hv':q=sl++v:=hv;subst hv';obtain⟨e1,e2⟩:=Tz (a:=94::sl) (v:=v) (n:=1+sl.length) Vo;rw[YR]at e1 e2;rw[e1];exact⟨.inr (.inr (.inr (.inr (.inr (.inr (.inr (.inl ⟨sl,hs,rfl,rfl⟩))))))),e2⟩
     . rw[ZX hf]at h;by_cases hf:first (c::q)=62
       . rw[ZU hf]at h;obtain rfl:c=62:=Zj.1 hf;obtain⟨d,v,hv,h1,hm,hd,rfl,rfl⟩:=QL h;have hv':q=d++v:=hv;subst hv';obtain⟨e1,e2⟩:=Tz (a:=62::d) (v:=v) (n:=1+d.length) Vo;rw[YR]at e1 e2;rw[e1];exact⟨.inr ak9,e2⟩
       . rw[ZX hf]at h;by_cases hf:first (c::q)=63
         . rw[ZU hf]at h;obtain rfl:c=63:=Zj.1 hf;obtain⟨d,v,hv,h1,hm,hd,rfl,rfl⟩:=QL h;have hv':q=d++v:=hv;subst hv';obtain⟨e1,e2⟩:=Tz (a:=63::d) (v:=v) (n:=1+d.length) Vo;rw[YR]at e1 e2;rw[e1];exact⟨.inr (.inr ak9),e2⟩
         . rw[ZX hf]at h;by_cases hf:first (c::q)=43\/first (c::q)=42\/first (c::q)=60
           . rw[ZU hf]at h;simp only[Y2,YL]at h;obtain⟨rfl,rfl⟩:=h;refine⟨.inl ?_,Vy⟩;rw[MK]at hf ⊢;rcases hf with hf|hf|hf
             . obtain rfl:c=43:=Zj.1 hf;rfl
             . obtain rfl:c=42:=Zj.1 hf;rfl
             . obtain rfl:c=60:=Zj.1 hf;rfl
           . rw[ZX hf]at h
             by_cases hne:Vj isSmall 6 (c::q)=[]
             . rw[ZU hne]at h;obtain⟨d,v,hv,h1,hm,hd,rfl,rfl⟩:=QL h;rw[hv];obtain⟨e1,e2⟩:=Tz (a:=d) (v:=v) (n:=0+d.length) VH;rw[e1];exact⟨.inr (.inr (.inr (.inr (.inr (.inr (.inr (.inr (.inl ⟨⟨h1,hm,hd⟩,rfl⟩)))))))),e2⟩
             . rw[ZX hne]at h;generalize c::q=r at *;obtain⟨v,hv⟩:=QE isSmall 6 r;have h6:=Q5 isSmall 6 r;have hL:=QC isSmall 6 r;generalize Vj isSmall 6 r=L at *;have e2:r[L.length]?=v[0]?:=by rw[hv,ZP UM,Y0]
               have e1:r.drop (L.length+1)=v.drop 1:=by rw[hv,YM,Zk VH,show L.length+1-L.length=1 from VH];rfl
               rw[e2,e1]at h;by_cases N0:v[0]?=some 58
               . rw[ZU N0]at h
                 obtain⟨v',rfl⟩:∃v',v=58::v':=by
                  cases v with
                  | nil=>simp at N0
                  | cons y t=>simp at N0;exact⟨t,by rw[N0]⟩
                 have h':TP (QG L) (L.length+1) v'=some (x,n):=h;rw[hv];rcases yE h' with⟨nm,y,E_,hk,rfl,rfl,rfl⟩|⟨nm,sl,y,E_,hsl,hk,rfl,rfl,rfl⟩|⟨nm,sl,nn,y,E_,hsl,hnn,hk,rfl,rfl,rfl⟩|⟨nm,nn,y,E_,hnn,hk,rfl,rfl,rfl⟩
                 . obtain⟨e1,e2⟩:=Tz (a:=L++58::nm) (v:=y) (n:=L.length+1+nm.length) Vo;have er:L++58::(nm++y)=(L++58::nm)++y:=Vy;rw[er,e1];refine⟨?_,e2⟩;rcases Nb L with⟨e,rfl⟩|⟨e,rfl⟩|⟨e,rfl⟩|⟨e,rfl⟩|⟨e,rfl⟩|e
                   . exact .inr (.inl ⟨nm,E_,rfl,rfl⟩)
                   . exact .inr (.inr (.inl ⟨nm,E_,rfl,rfl⟩))
                   . rw[e]at hk;omega
                   . rw[e]at hk;omega
                   . rw[e]at hk;omega
                   . rw[e]at hk;omega
                 . obtain⟨e1,e2⟩:=Tz (a:=L++58::(nm++46::sl)) (v:=y) (n:=L.length+1+(nm++46::sl).length) Vo;have er:L++58::((nm++46::sl)++y)=(L++58::(nm++46::sl))++y:=Vy;rw[er,e1];refine⟨?_,e2⟩;rcases Nb L with⟨e,rfl⟩|⟨e,rfl⟩|⟨e,rfl⟩|⟨e,rfl⟩|⟨e,rfl⟩|e
                   . rw[e]at hk;omega
                   . rw[e]at hk;omega
                   . exact .inr (.inr (.inr (.inl ⟨nm,sl,E_,hsl,rfl,rfl⟩)))
                   . rw[e]at hk;omega
                   . rw[e]at hk;omega
                   . rw[e]at hk;omega
                 . obtain⟨e1,e2⟩:=Tz (a:=L++58::(nm++46::(sl++46::nn))) (v:=y) (n:=L.length+1+(nm++46::(sl++46::nn)).length) Vo;have er:L++58::((nm++46::(sl++46::nn))++y)=(L++58::(nm++46::(sl++46::nn)))++y:=Vy;rw[er,e1];refine⟨?_,e2⟩;rcases Nb L with⟨e,rfl⟩|⟨e,rfl⟩|⟨e,rfl⟩|⟨e,rfl⟩|⟨e,rfl⟩|e
                   . rw[e]at hk;omega
                   . rw[e]at hk;omega
                   . rw[e]at hk;omega
                   . rw[e]at hk;omega
                   . exact .inr (.inr (.inr (.inr (.inr (.inl ⟨nm,sl,nn,E_,hsl,hnn,rfl,rfl⟩)))))
                   . rw[e]at hk;omega
                 . obtain⟨e1,e2⟩:=Tz (a:=L++58::(nm++46::nn)) (v:=y) (n:=L.length+1+(nm++46::nn).length) Vo;have er:L++58::((nm++46::nn)++y)=(L++58::(nm++46::nn))++y:=Vy;rw[er,e1];refine⟨?_,e2⟩;rcases Nb L with⟨e,rfl⟩|⟨e,rfl⟩|⟨e,rfl⟩|⟨e,rfl⟩|⟨e,rfl⟩|e
                   . rw[e]at hk;omega
                   . rw[e]at hk;omega
                   . rw[e]at hk;omega
                   . exact .inr (.inr (.inr (.inr (.inl ⟨nm,nn,E_,hnn,rfl,rfl⟩))))
                   . rw[e]at hk;omega
                   . rw[e]at hk;omega
               . rw[ZX N0]at h;by_cases h47:v[0]?=some 47
                 . rw[ZU h47]at h;obtain⟨sl,y,hs,hy,rfl,rfl⟩:=Fh h;rw[hy];obtain⟨e1,e2⟩:=Tz (a:=sl) (v:=y) (n:=0+sl.length) VH;rw[e1];exact⟨.inr (.inr (.inr (.inr (.inr (.inr (.inl ⟨hs,rfl⟩)))))),e2⟩
                 . rw[ZX h47]at h
                   by_cases eL:L=[97]
                   . rw[ZU eL]at h;subst eL;have hr1:r.drop 1=v:=by rw[hv];rfl
                     rw[hr1]at h;obtain⟨d,y,rfl,h1,hm,hd,rfl,rfl⟩:=QL h;obtain⟨Hs,hd3⟩:=alu h1 hm hd;rw[hv];obtain⟨e1,e2⟩:=Tz (a:=97::d) (v:=y) (n:=1+d.length) Vo;have er:[97]++(d++y)=(97::d)++y:=rfl;rw[er,e1];exact⟨.inr (.inr (.inr (.inr (.inr (.inr (.inr (.inr (.inr (.inr (.inr (.inr (.inl ⟨d,Hs,hd3,rfl,rfl⟩)))))))))))),e2⟩
                   . rw[ZX eL]at h
                     by_cases eL:L=[115]
                     . rw[ZU eL]at h;subst eL;have hr1:r.drop 1=v:=by rw[hv];rfl
                       rw[hr1]at h;obtain⟨d,y,rfl,h1,hm,hd,rfl,rfl⟩:=QL h;rw[hv];obtain⟨e1,e2⟩:=Tz (a:=115::d) (v:=y) (n:=1+d.length) Vo;have er:[115]++(d++y)=(115::d)++y:=rfl;rw[er,e1];exact⟨.inr (.inr (.inr (.inr ak9))),e2⟩
                     . rw[ZX eL]at h;by_cases hp:PD L=0
                       . rw[ZU hp]at h;cases h
                       . rw[ZX hp]at h;simp only[Y2,YL]at h;obtain⟨rfl,rfl⟩:=h;rw[hv];obtain⟨e1,e2⟩:=Tz (a:=L) (v:=v) (n:=L.length) rfl;rw[e1];refine⟨.inl ?_,e2⟩;unfold PD at hp ⊢
                         cases hpl:Va L with
                         | none=>rw[hpl]at hp;exact absurd rfl hp
                         | some z=>
                          have hm:=JY hpl;simp only[ZM,Zx,YE]at hm;rcases hm with rfl|rfl|rfl|rfl|rfl|rfl|rfl|rfl|rfl<;>rw[<- Y7 hpl]
theorem Oy {l:List UInt8}(h:className l=true):∀c∈l,c≠32:=by
 obtain⟨c,r,rfl,hc,_,hr⟩:=OX h;intro x hx;rcases ZM.1 hx with rfl|hx
 . intro e;rw[e]at hc;revert hc;decide
 . exact qK (hr x hx) 32 Vz
theorem fG {l:List UInt8}(h:selector l=true):∀c∈l,c≠32:=Oo h 32 Vz Vz Vz
theorem I9 {d:List UInt8}{m:Nat}(h:Qm d m):∀c∈d,c≠32:=λc hc e=>by rw[e]at hc;exact Ik h 32 Vz hc
theorem Vd {c:UInt8}{r:List UInt8}(hc:c≠32)(hr:∀x∈r,x≠32):∀x∈c::r,x≠32:=λx hx=>by
 rcases ZM.1 hx with rfl|hx
 . exact hc
 . exact hr x hx
theorem Oe {a r:List UInt8}(ha:∀x∈a,x≠32)(hr:∀x∈r,x≠32):∀x∈a++r,x≠32:=λx hx=>by
 rcases YT.1 hx with hx|hx
 . exact ha x hx
 . exact hr x hx
theorem zB {t:List UInt8}{x:W}(h:Form t x):∀c∈t,c≠32:=by
 rcases h with h|⟨nm,h,rfl,rfl⟩|⟨nm,h,rfl,rfl⟩|⟨nm,sl,h,h',rfl,rfl⟩|⟨nm,nn,h,h',rfl,rfl⟩|⟨nm,sl,nn,h,h',h'',rfl,rfl⟩|⟨h,rfl⟩|⟨sl,h,rfl,rfl⟩|⟨h,rfl⟩|⟨d,h,rfl,rfl⟩|⟨d,h,rfl,rfl⟩|⟨d,h,rfl,rfl⟩|⟨d,h,h',rfl,rfl⟩|⟨d,h,rfl,rfl⟩|⟨d,h,rfl,rfl⟩
 . have hm:=JY h;simp only[ZM,Zx,YE]at hm;rcases hm with rfl|rfl|rfl|rfl|rfl|rfl|rfl|rfl|rfl<;>decide
 . exact Vd Vz (Vd Vz (Vd Vz (Vd Vz aeu)))
 . exact Vd Vz (Vd Vz (Vd Vz aeu))
 . exact Vd Vz (Vd Vz (Vd Vz (Vd Vz (Vd Vz (Oe aeu (Vd Vz (fG h')))))))
 . exact Vd Vz (Vd Vz (Vd Vz (Vd Vz (Vd Vz (Oe aeu (Vd Vz (Oy h')))))))
 . exact Vd Vz (Vd Vz (Vd Vz (Vd Vz (Vd Vz (Oe aeu (Vd Vz (Oe (fG h') (Vd Vz (Oy h'')))))))))
 . exact fG h
 . exact Vd Vz (fG h)
 . exact I9 h
 . exact Vd Vz (I9 h)
 . exact Vd Vz (I9 h)
 . exact Vd Vz (I9 h)
 . exact Vd Vz (I9 h)
 . exact Vd Vz (I9 h)
 . exact Vd Vz (Vd Vz (I9 h))
theorem KC {a u:List UInt8}(ha:∀x∈a,x≠32)(hu:Ends u):(a++u).takeWhile (λc=>c != 32)=a:=by
 rw[XO (λx hx=>by simpa using ha x hx)]
 cases u with
 | nil=>simp
 | cons c u=>rw[XD (by rw[hu c rfl];simp)];simp
theorem Gq {r:List UInt8}(hr:r≠[]):Jo r=rd (r.takeWhile (λc=>c != 32)):=by
 have hsp:r=r.takeWhile (λc=>c != 32)++r.dropWhile (λc=>c != 32):=(List.takeWhile_append_dropWhile).symm
 have hu:Ends (r.dropWhile (λc=>c != 32)):=by
  intro c hc
  cases hd:r.dropWhile (λc=>c != 32) with
  | nil=>rw[hd]at hc;cases hc
  | cons y t=>
   rw[hd]at hc;injection hc with hc;have:=List.head_dropWhile_not (λc:UInt8=>c != 32) (l:=r) (by rw[hd];simp);simp only[hd,List.head_cons]at this;rw[<- hc];simpa using this
 cases hrd:rd (r.takeWhile (λc=>c != 32)) with
 | some x=>
  have hk:=agM hu (aln.1 hrd);rw[<- hsp]at hk;unfold Jo;rw[hk];show (if _ then some x else none)=some x;rw[ZU]
  cases hd:r.dropWhile (λc=>c != 32) with
  | nil=>left;rw[hd,XR]at hsp;rw[<- hsp]
  | cons y t=>
   right;have hy:=hu y (by rw[hd];rfl);rw[hd]at hsp;rw[hsp,ZP (by rw[<- hsp];exact ZN _)];rw[<- hsp,Y0,hy];rfl
 | none=>
  cases hw:Jo r with
  | none=>rfl
  | some x=>
   exfalso;unfold Jo at hw
   cases hk:kw r with
   | none=>rw[hk]at hw;cases hw
   | some y=>
    obtain⟨y,n⟩:=y;rw[hk]at hw;have hw':(if n=r.length\/r[n]?=some 32 then some y else none)=some x:=hw;split at hw'
    . rename_i he;obtain⟨hf,hn⟩:=IU hr hk
      have ht:r.takeWhile (λc=>c != 32)=r.take n:=by
       have e1:=(Yw n r).symm
       have hu':Ends (r.drop n):=by
        intro c hc;rw[Zn,Yt]at hc;rcases he with e|e
        . rw[e,Y8 UM]at hc;cases hc
        . rw[e]at hc;injection hc with hc;exact hc.symm
       have:=KC (zB hf) hu';rw[<- e1]at this;exact this
      rw[ht,wL hf]at hrd;cases hrd
    . cases hw'
theorem aaS {l:List UInt8}{i:Nat}(hr:l.drop i≠[])(h:kw (l.drop i)=none):rd (tok l i)=none:=by
 unfold tok;rw[<- Gq hr];unfold Jo;rw[h]
theorem aff {l:List UInt8}{i n:Nat}{x:W}(hr:l.drop i≠[])(h:kw (l.drop i)=some (x,n))(he:¬(n=(l.drop i).length\/(l.drop i)[n]?=some 32)):rd (tok l i)=none:=by
 unfold tok;rw[<- Gq hr];unfold Jo;rw[h];show (if _ then some x else none)=none;rw[ZX he]
theorem aez {l:List UInt8}{i n:Nat}{x:W}(hr:l.drop i≠[])(h:kw (l.drop i)=some (x,n))(he:n=(l.drop i).length\/(l.drop i)[n]?=some 32):rd (tok l i)=some x/\(tok l i).length=n:=by
 constructor
 . unfold tok;rw[<- Gq hr];unfold Jo;rw[h];show (if _ then some x else none)=some x;rw[ZU he]
 . obtain⟨hf,hn⟩:=IU hr h
   have hu:Ends ((l.drop i).drop n):=by
    intro c hc;rw[Zn,Yt]at hc;rcases he with he|he
    . rw[he,Y8 UM]at hc;cases hc
    . rw[he]at hc;injection hc with hc;exact hc.symm
   have hk:=KC (zB hf) hu;rw[Yw]at hk;unfold tok;rw[hk,Za];omega
theorem anC {l:List UInt8}{i n:Nat}{x:W}(hr:l.drop i≠[])(h:kw (l.drop i)=some (x,n)):n<=(l.drop i).length:=(IU hr h).2
theorem afo {l:List UInt8}{i n:Nat}{x:W}(hr:l.drop i≠[])(h:kw (l.drop i)=some (x,n)):Pv x:=gQ (wL (IU hr h).1)
theorem afM (H h:Nat):H &&& 2 ^ h=if H.testBit h=true then 2 ^ h else 0:=by
 apply WV;intro i;rw[XL,Xu];by_cases e:h=i
 . subst e;cases hb:H.testBit h<;>simp[Xu]
 . cases hb:H.testBit h<;>simp[Xu,e]
theorem or_bit (H h k:Nat):(H ||| 2 ^ h).testBit k=(decide (k=h)||H.testBit k):=by
 rw[Nat.testBit_or,Xu,Bool.or_comm];congr 1;simp[eq_comm]
theorem Dn:∀(n H:Nat),H<2 ^ n->(H &&& (H-1)=0↔∀h1 h2,H.testBit h1=true->H.testBit h2=true->h1=h2)
 | 0,H,h=>by
  have:H=0:=Nv;subst this;simp
 | n+1,H,h=>by
  have ih:=Dn n (H / 2) (by rw[Nat.pow_succ]at h;omega);have hb:∀k,H.testBit (k+1)=(H / 2).testBit k:=λk=>Yk H k;rcases WE H with hr|hr
  . -- even
    by_cases h0:H=0
    . subst h0;simp
    have e1:H &&& (H-1)=2*((H / 2) &&& (H / 2-1)):=by
     apply WV;intro i
     cases i with
     | zero=>
      rw[XL];simp[Xy,hr]
     | succ i=>
      rw[XL,Yk,Yk,Yk,show (H-1) / 2=H / 2-1 from VH,show 2*((H / 2) &&& (H / 2-1)) / 2=(H / 2) &&& (H / 2-1) from VH,XL]
    rw[e1];constructor
    . intro hz h1 h2 b1 b2;have hz':=ih.1 VH
      cases h1 with
      | zero=>simp[Xy,hr]at b1
      | succ h1=>cases h2 with
       | zero=>simp[Xy,hr]at b2
       | succ h2=>rw[hb]at b1 b2;rw[hz' h1 h2 b1 b2]
    . intro hz;have:=ih.2 (λh1 h2 b1 b2=>by have:=hz (h1+1) (h2+1) (by rw[hb];exact b1) (by rw[hb];exact b2);omega);omega
  . have e1:H &&& (H-1)=2*(H / 2):=by
     apply WV;intro i
     cases i with
     | zero=>rw[XL];simp[Xy];omega
     | succ i=>rw[XL,Yk,Yk,Yk,show (H-1) / 2=H / 2 from VH,show 2*(H / 2) / 2=H / 2 from VH,Bool.and_self]
    rw[e1];constructor
    . intro hz h1 h2 b1 b2;have hq:H / 2=0:=VH
      cases h1 with
      | zero=>cases h2 with
       | zero=>rfl
       | succ h2=>rw[hb,hq]at b2;simp at b2
      | succ h1=>rw[hb,hq]at b1;simp at b1
    . intro hz;apply Zt;intro hn;obtain⟨i,hi⟩:=Nat.exists_testBit_of_ne_zero (x:=H / 2) VH;have:=hz 0 (i+1) (by simp[Xy,hr]) (by rw[hb];exact hi);omega
theorem u32_and (H h:Nat)(hH:H<2 ^ 17)(hh:h<=16):bits .and .u32 (H:Int) ((2:Int) ^ h)=if H.testBit h=true then 2 ^ h else 0:=by
 have hp:(2:Nat) ^ h<2 ^ 17:=XC VH VH;have:=(bits_nat .u32 17 Vz alK H (2 ^ h) hH hp).1;rw[show ((2:Int) ^ h)=((2 ^ h:Nat):Int) from by push_cast;rfl,this,afM];split<;>simp
theorem u32_or (H h:Nat)(hH:H<2 ^ 17)(hh:h<=16):bits .or .u32 (H:Int) ((2:Int) ^ h)=((H ||| 2 ^ h:Nat):Int):=by
 have hp:(2:Nat) ^ h<2 ^ 17:=XC VH VH;have:=(bits_nat .u32 17 Vz alK H (2 ^ h) hH hp).2;rw[show ((2:Int) ^ h)=((2 ^ h:Nat):Int) from by push_cast;rfl];exact this
theorem anx (H h:Nat)(hH:H<2 ^ 17)(hh:h<=16):H ||| 2 ^ h<2 ^ 17:=Nat.or_lt_two_pow hH (XC VH VH)
theorem afI (H:Nat)(hH:H<2 ^ 17):bits .and .u32 (H:Int) (IntKind.u32.wrap ((H:Int)-1))=((H &&& (H-1):Nat):Int):=by
 by_cases h0:H=0
 . subst h0;decide
 . have:=(bits_nat .u32 17 Vz alK H (H-1) hH VH).1;rw[show IntKind.u32.wrap ((H:Int)-1)=((H-1:Nat):Int) from by rw[XB];omega];exact this
end Kn
