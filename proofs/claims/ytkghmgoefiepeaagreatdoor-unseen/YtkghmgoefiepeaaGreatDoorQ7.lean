import Derived.Test.YtkghmgoefiepeaaGreatDoorQ0
import Derived.Test.YtkghmgoefiepeaaGreatDoorQ6
set_option linter.unusedSimpArgs false
set_option linter.unusedVariables false
set_option maxHeartbeats 4000000
set_option maxRecDepth 100000
namespace Go.Proofs.YtkghmgoefiepeaaGreatDoor.reads
open Go.ChangeShapes Go.WideShapes Go.ChangeAt Go.RowKit Kn
variable {w w1 : World}
theorem RTo.alloc {b:Nat}{s:ByteArray}{i:Nat} (h:RTo w w1 b s i) (o:Obj):RTo w (w1.alloc o) b s i:=⟨h.rd.alloc o,h.grown.trans (World.grownBy_alloc w1 o _)⟩
theorem ZAt.alloc {z:Nat}{v0 v1 v2 v3 v4:Value} (h:ZAt w z v0 v1 v2 v3 v4) (o:Obj):ZAt (w.alloc o) z v0 v1 v2 v3 v4:=(Below.heap_alloc w o z h.lt).trans h
theorem ZAt.setNe {z u k:Nat}{v0 v1 v2 v3 v4:Value} (h:ZAt w z v0 v1 v2 v3 v4) (hne:z≠u) (v:Value):ZAt (w.setCell ⟨u,k,none⟩ v) z v0 v1 v2 v3 v4:=(Below.heap_setCell w ⟨u,k,none⟩ v z hne).trans h
theorem ZAt.set0 {z:Nat}{v0 v1 v2 v3 v4:Value} (h:ZAt w z v0 v1 v2 v3 v4) (v:Value):ZAt (w.setCell ⟨z,0,none⟩ v) z v v1 v2 v3 v4:=by
 unfold ZAt at h ⊢;simp only [World.setCell,Array.getElem?_modify,if_pos,h];rfl
theorem ZAt.set1 {z:Nat}{v0 v1 v2 v3 v4:Value} (h:ZAt w z v0 v1 v2 v3 v4) (v:Value):ZAt (w.setCell ⟨z,1,none⟩ v) z v0 v v2 v3 v4:=by
 unfold ZAt at h ⊢;simp only [World.setCell,Array.getElem?_modify,if_pos,h];rfl
theorem ZAt.set2 {z:Nat}{v0 v1 v2 v3 v4:Value} (h:ZAt w z v0 v1 v2 v3 v4) (v:Value):ZAt (w.setCell ⟨z,2,none⟩ v) z v0 v1 v v3 v4:=by
 unfold ZAt at h ⊢;simp only [World.setCell,Array.getElem?_modify,if_pos,h];rfl
theorem ZAt.set3 {z:Nat}{v0 v1 v2 v3 v4:Value} (h:ZAt w z v0 v1 v2 v3 v4) (v:Value):ZAt (w.setCell ⟨z,3,none⟩ v) z v0 v1 v2 v v4:=by
 unfold ZAt at h ⊢;simp only [World.setCell,Array.getElem?_modify,if_pos,h];rfl
theorem ZAt.set4 {z:Nat}{v0 v1 v2 v3 v4:Value} (h:ZAt w z v0 v1 v2 v3 v4) (v:Value):ZAt (w.setCell ⟨z,4,none⟩ v) z v0 v1 v2 v3 v:=by
 unfold ZAt at h ⊢;simp only [World.setCell,Array.getElem?_modify,if_pos,h];rfl
theorem ZAt.setN {z:Nat}{v0 v1 v2 v3 v4:Value} (h:ZAt w z v0 v1 v2 v3 v4):ZAt (w.setCell ⟨z,5,none⟩ (.pointer none)) z v0 v1 v2 v3 v4:=by
 unfold ZAt at h ⊢;simp only [World.setCell,Array.getElem?_modify,if_pos,h];rfl
theorem ZAt.set5 {z:Nat}{v0 v1 v2 v3 v4:Value} (h:ZAt w z v0 v1 v2 v3 v4) (u0 u1 u2 u3 u4:Value) :
 ZAt ((((((w.setCell ⟨z,0,none⟩ u0).setCell ⟨z,1,none⟩ u1).setCell ⟨z,2,none⟩ u2).setCell ⟨z,3,none⟩ u3).setCell ⟨z,4,none⟩ u4).setCell ⟨z,5,none⟩ (.pointer none)) z u0 u1 u2 u3 u4:=(((((h.set0 u0).set1 u1).set2 u2).set3 u3).set4 u4).setN
structure Wst (w W:World) (b:Nat) (s:ByteArray) (j z u:Nat) (v0 v1 v2 v3 v4:Value):Prop where
 to:RTo w W b s j
 hz:ZAt W z (.int .i64 0) (.int .i64 0) (.string ⟨#[]⟩) (.string ⟨#[]⟩) (.string ⟨#[]⟩)
 hu:ZAt W u v0 v1 v2 v3 v4
 bz:b < w.heap.size
 zw:w.heap.size≤z
 zu:z < u
theorem Wst.call {w W W':World}{b:Nat}{s:ByteArray}{j j' z u:Nat}{v0 v1 v2 v3 v4:Value} (h:Wst w W b s j z u v0 v1 v2 v3 v4) (t:RTo W W' b s j'):Wst w W' b s j' z u v0 v1 v2 v3 v4 :=
 ⟨h.to.trans t,h.hz.to t (by have:=h.bz;have:=h.zw;omega),h.hu.to t (by have:=h.bz;have:=h.zw;have:=h.zu;omega),h.bz,h.zw,h.zu⟩
theorem Wst.set3 {w W:World}{b:Nat}{s:ByteArray}{j z u:Nat}{v0 v1 v2 v3 v4:Value} (h:Wst w W b s j z u v0 v1 v2 v3 v4) (v:Value):Wst w (W.setCell ⟨u,3,none⟩ v) b s j z u v0 v1 v2 v v4 :=
 ⟨h.to.setNew h.bz (Nat.le_trans h.zw (Nat.le_of_lt h.zu)) v,h.hz.setNe (by have:=h.zu;omega) v,h.hu.set3 v,h.bz,h.zw,h.zu⟩
theorem Wst.set4 {w W:World}{b:Nat}{s:ByteArray}{j z u:Nat}{v0 v1 v2 v3 v4:Value} (h:Wst w W b s j z u v0 v1 v2 v3 v4) (v:Value):Wst w (W.setCell ⟨u,4,none⟩ v) b s j z u v0 v1 v2 v3 v :=
 ⟨h.to.setNew h.bz (Nat.le_trans h.zw (Nat.le_of_lt h.zu)) v,h.hz.setNe (by have:=h.zu;omega) v,h.hu.set4 v,h.bz,h.zw,h.zu⟩
theorem st_new {b:Nat}{s:ByteArray}{j:Nat} (hb:b < w.heap.size) (ht:RTo (w.alloc (.cells #[.int .i64 0,.int .i64 0,.string ⟨#[]⟩,.string ⟨#[]⟩,.string ⟨#[]⟩,.pointer none] 146)) w1 b s j) (v0 v1 v2 v3 v4:Value) :
 Wst w (w1.alloc (.cells #[v0,v1,v2,v3,v4,.pointer none] 146)) b s j w.heap.size w1.heap.size v0 v1 v2 v3 v4:=by
 have hz:=(zat_new w (.int .i64 0) (.int .i64 0) (.string ⟨#[]⟩) (.string ⟨#[]⟩) (.string ⟨#[]⟩)).to ht (by omega)
 exact ⟨ht.unalloc.alloc _,hz.alloc _,zat_new w1 v0 v1 v2 v3 v4,hb,Nat.le_refl _,hz.lt⟩
theorem results_word {fn:Func}{p:Tmp} (h:fn.results=#[.cell p 146]) {tmps:Array Value}{z:Nat} (v0 v1 v2 v3 v4:Value) (hp:tmps.getD p undef=.pointer (some ⟨z,0,none⟩)) (hz:ZAt w z v0 v1 v2 v3 v4) :
 (results fn tmps).run Tryz.prog w=.ok (.agg #[v0,v1,v2,v3,v4,.pointer none]) w:=by
 have z0:=hz.c0
 have z1:=hz.c1
 have z2:=hz.c2
 have z3:=hz.c3
 have z4:=hz.c4
 have z5:=hz.c5
 have hp2:tmps[p]?.getD undef=.pointer (some ⟨z,0,none⟩):=by rw [← hp];simp
 simp [results,h,hp2,go_sem,z0,z1,z2,z3,z4,z5]
theorem name_le {s:ByteArray}{i:Nat}{nm:List UInt8} (h:kName ((bl s).drop i)=nm) (hne:nm≠[]):i+nm.length≤s.size:=by
 obtain ⟨_,v,hv⟩:=kName_sound (r:=(bl s).drop i) (by rw [h];exact hne)
 rw [h] at hv
 have e:=congrArg List.length hv
 rw [List.length_drop,bl_length,List.length_append] at e
 have:0 < nm.length:=List.length_pos_iff.2 hne
 omega
theorem sel_le {s:ByteArray}{i:Nat}{nm:List UInt8} (h:kSel ((bl s).drop i)=nm) (hne:nm≠[]):i+nm.length≤s.size:=by
 obtain ⟨_,v,hv⟩:=kSel_sound (r:=(bl s).drop i) (by rw [h];exact hne)
 rw [h] at hv
 have e:=congrArg List.length hv
 rw [List.length_drop,bl_length,List.length_append] at e
 have:0 < nm.length:=List.length_pos_iff.2 hne
 omega
theorem classWord_noName (b:Nat) (s:ByteArray) (i:Nat) (kk:Nat) (w:World) (hs:s.size≤140737488355328) (hi':i≤s.size) (hnm:kName ((bl s).drop (i))=[]) (h:RdAt w b s i) :
 Calls Tryz.prog 109 #[.pointer (some ⟨b,0,none⟩),.int .i64 kk] w fun e w'=>e=.returned (encK none)∧∃ j,j≤s.size∧RTo w w' b s j:=by
 have HH:Hid (RdAt w b s i):=h
 have hbw:=h.lt
 have Nnm:Hid _:=hnm
 clear hnm
 clear h
 go_enter Tryz.func109,Tryz.ntmps109
 go_wp2
 refine wp_scope_walk 2 fun G HR HG=>?_
 go_wp2_with fail
 refine (kclassName_any b s i _ hs hi' (HH.out.alloc _)).mono ?_
 rintro e w1 ⟨rfl,hto⟩
 rw [Nnm.out] at hto ⊢
 have HT1:Hid (RTo w w1 b s (i+([]:List UInt8).length)):=hto.unalloc
 have HZ1:Hid (ZAt w1 w.heap.size _ _ _ _ _):=(zat_new w _ _ _ _ _).to hto (by omega)
 have HS1:Hid (Wst w (w1.alloc (.cells #[.int .i64 kk,.int .i64 0,.string (ofL []),.string ⟨#[]⟩,.string ⟨#[]⟩,.pointer none] 146)) b s (i+([]:List UInt8).length) w.heap.size w1.heap.size (.int .i64 kk) (.int .i64 0) (.string (ofL [])) (.string ⟨#[]⟩) (.string ⟨#[]⟩)):=st_new hbw hto _ _ _ _ _
 have hz:=(zat_new w _ _ _ _ _).to hto (by omega)
 have zlt:=hz.lt
 have zne:w.heap.size≠w1.heap.size:=by omega
 have zne2:w1.heap.size≠w.heap.size:=by omega
 have z0:=hz.c0
 have z1:=hz.c1
 have z2:=hz.c2
 have z3:=hz.c3
 have z4:=hz.c4
 have z5:=hz.c5
 have zf:=hz.f
 clear hto hz
 go_wp2
 go_step3
 simp only [Exit.then,Exit.inBlock]
 refine HG.out _ _ _ _ _ rfl ?_
 go_wp2
 refine HR.out _ _ _ ?_
 refine bodyPost_ret (results_word Tryz.results109 _ _ _ _ _ rfl ((HZ1.out.set5 _ _ _ _ _).alloc _)) rfl ?_
 exact ⟨rfl,_,by first | omega | (simp;omega) | assumption,(HT1.out.set5 hbw (Nat.le_refl _) _ _ _ _ _).alloc _⟩
theorem classWord_new (b:Nat) (s:ByteArray) (i:Nat) (nm:List UInt8) (w:World) (hs:s.size≤140737488355328) (hi':i≤s.size) (hnm:kName ((bl s).drop (i))=nm) (enm:nm≠[]) (h:RdAt w b s i) :
 Calls Tryz.prog 109 #[.pointer (some ⟨b,0,none⟩),.int .i64 17] w fun e w'=>e=.returned (.agg #[.int .i64 17,.int .i64 0,.string (ofL nm),.string ⟨#[]⟩,.string ⟨#[]⟩,.pointer none])∧RTo w w' b s (i+nm.length):=by
 have HH:Hid (RdAt w b s i):=h
 have hbw:=h.lt
 have Nnm:Hid _:=hnm
 have Qnm:Hid (nm≠[]):=enm
 have tnm:=ofL_ne enm
 have lnm:i+nm.length≤s.size:=name_le hnm enm
 clear hnm enm
 clear h
 go_enter Tryz.func109,Tryz.ntmps109
 go_wp2
 refine wp_scope_walk 2 fun G HR HG=>?_
 go_wp2_with fail
 refine (kclassName_any b s i _ hs hi' (HH.out.alloc _)).mono ?_
 rintro e w1 ⟨rfl,hto⟩
 rw [Nnm.out] at hto ⊢
 have HT1:Hid (RTo w w1 b s (i+nm.length)):=hto.unalloc
 have HZ1:Hid (ZAt w1 w.heap.size _ _ _ _ _):=(zat_new w _ _ _ _ _).to hto (by omega)
 have HS1:Hid (Wst w (w1.alloc (.cells #[.int .i64 17,.int .i64 0,.string (ofL nm),.string ⟨#[]⟩,.string ⟨#[]⟩,.pointer none] 146)) b s (i+nm.length) w.heap.size w1.heap.size (.int .i64 17) (.int .i64 0) (.string (ofL nm)) (.string ⟨#[]⟩) (.string ⟨#[]⟩)):=st_new hbw hto _ _ _ _ _
 have hz:=(zat_new w _ _ _ _ _).to hto (by omega)
 have zlt:=hz.lt
 have zne:w.heap.size≠w1.heap.size:=by omega
 have zne2:w1.heap.size≠w.heap.size:=by omega
 have z0:=hz.c0
 have z1:=hz.c1
 have z2:=hz.c2
 have z3:=hz.c3
 have z4:=hz.c4
 have z5:=hz.c5
 have zf:=hz.f
 clear hto hz
 go_wp2
 refine HR.out _ _ _ ?_
 refine bodyPost_ret (results_word Tryz.results109 _ _ _ _ _ rfl ((HZ1.out.set5 _ _ _ _ _).alloc _)) rfl ?_
 exact ⟨rfl,(HT1.out.set5 hbw (Nat.le_refl _) _ _ _ _ _).alloc _⟩
theorem classWord_be (b:Nat) (s:ByteArray) (i:Nat) (nm:List UInt8) (w:World) (hs:s.size≤140737488355328) (hi':i≤s.size) (hnm:kName ((bl s).drop (i))=nm) (enm:nm≠[]) (h:RdAt w b s i) :
 Calls Tryz.prog 109 #[.pointer (some ⟨b,0,none⟩),.int .i64 18] w fun e w'=>e=.returned (.agg #[.int .i64 18,.int .i64 0,.string (ofL nm),.string ⟨#[]⟩,.string ⟨#[]⟩,.pointer none])∧RTo w w' b s (i+nm.length):=by
 have HH:Hid (RdAt w b s i):=h
 have hbw:=h.lt
 have Nnm:Hid _:=hnm
 have Qnm:Hid (nm≠[]):=enm
 have tnm:=ofL_ne enm
 have lnm:i+nm.length≤s.size:=name_le hnm enm
 clear hnm enm
 clear h
 go_enter Tryz.func109,Tryz.ntmps109
 go_wp2
 refine wp_scope_walk 2 fun G HR HG=>?_
 go_wp2_with fail
 refine (kclassName_any b s i _ hs hi' (HH.out.alloc _)).mono ?_
 rintro e w1 ⟨rfl,hto⟩
 rw [Nnm.out] at hto ⊢
 have HT1:Hid (RTo w w1 b s (i+nm.length)):=hto.unalloc
 have HZ1:Hid (ZAt w1 w.heap.size _ _ _ _ _):=(zat_new w _ _ _ _ _).to hto (by omega)
 have HS1:Hid (Wst w (w1.alloc (.cells #[.int .i64 18,.int .i64 0,.string (ofL nm),.string ⟨#[]⟩,.string ⟨#[]⟩,.pointer none] 146)) b s (i+nm.length) w.heap.size w1.heap.size (.int .i64 18) (.int .i64 0) (.string (ofL nm)) (.string ⟨#[]⟩) (.string ⟨#[]⟩)):=st_new hbw hto _ _ _ _ _
 have hz:=(zat_new w _ _ _ _ _).to hto (by omega)
 have zlt:=hz.lt
 have zne:w.heap.size≠w1.heap.size:=by omega
 have zne2:w1.heap.size≠w.heap.size:=by omega
 have z0:=hz.c0
 have z1:=hz.c1
 have z2:=hz.c2
 have z3:=hz.c3
 have z4:=hz.c4
 have z5:=hz.c5
 have zf:=hz.f
 clear hto hz
 go_wp2
 refine HR.out _ _ _ ?_
 refine bodyPost_ret (results_word Tryz.results109 _ _ _ _ _ rfl ((HZ1.out.set5 _ _ _ _ _).alloc _)) rfl ?_
 exact ⟨rfl,(HT1.out.set5 hbw (Nat.le_refl _) _ _ _ _ _).alloc _⟩
theorem classWord_none (b:Nat) (s:ByteArray) (i:Nat) (nm:List UInt8) (w:World) (hs:s.size≤140737488355328) (hi':i≤s.size) (hnm:kName ((bl s).drop (i))=nm) (enm:nm≠[]) (h:RdAt w b s i) :
 Calls Tryz.prog 109 #[.pointer (some ⟨b,0,none⟩),.int .i64 0] w fun e w'=>e=.returned (encK none)∧∃ j,j≤s.size∧RTo w w' b s j:=by
 have HH:Hid (RdAt w b s i):=h
 have hbw:=h.lt
 have Nnm:Hid _:=hnm
 have Qnm:Hid (nm≠[]):=enm
 have tnm:=ofL_ne enm
 have lnm:i+nm.length≤s.size:=name_le hnm enm
 clear hnm enm
 clear h
 go_enter Tryz.func109,Tryz.ntmps109
 go_wp2
 refine wp_scope_walk 2 fun G HR HG=>?_
 go_wp2_with fail
 refine (kclassName_any b s i _ hs hi' (HH.out.alloc _)).mono ?_
 rintro e w1 ⟨rfl,hto⟩
 rw [Nnm.out] at hto ⊢
 have HT1:Hid (RTo w w1 b s (i+nm.length)):=hto.unalloc
 have HZ1:Hid (ZAt w1 w.heap.size _ _ _ _ _):=(zat_new w _ _ _ _ _).to hto (by omega)
 have HS1:Hid (Wst w (w1.alloc (.cells #[.int .i64 0,.int .i64 0,.string (ofL nm),.string ⟨#[]⟩,.string ⟨#[]⟩,.pointer none] 146)) b s (i+nm.length) w.heap.size w1.heap.size (.int .i64 0) (.int .i64 0) (.string (ofL nm)) (.string ⟨#[]⟩) (.string ⟨#[]⟩)):=st_new hbw hto _ _ _ _ _
 have hz:=(zat_new w _ _ _ _ _).to hto (by omega)
 have zlt:=hz.lt
 have zne:w.heap.size≠w1.heap.size:=by omega
 have zne2:w1.heap.size≠w.heap.size:=by omega
 have z0:=hz.c0
 have z1:=hz.c1
 have z2:=hz.c2
 have z3:=hz.c3
 have z4:=hz.c4
 have z5:=hz.c5
 have zf:=hz.f
 clear hto hz
 go_wp2
 go_step3
 simp only [Exit.then,Exit.inBlock]
 refine HG.out _ _ _ _ _ rfl ?_
 go_wp2
 refine HR.out _ _ _ ?_
 refine bodyPost_ret (results_word Tryz.results109 _ _ _ _ _ rfl ((HZ1.out.set5 _ _ _ _ _).alloc _)) rfl ?_
 exact ⟨rfl,_,by first | omega | (simp;omega) | assumption,(HT1.out.set5 hbw (Nat.le_refl _) _ _ _ _ _).alloc _⟩
theorem classWord_move (b:Nat) (s:ByteArray) (i:Nat) (nm:List UInt8) (nq:List UInt8) (w:World) (hs:s.size≤140737488355328) (hi':i≤s.size) (hnm:kName ((bl s).drop (i))=nm) (enm:nm≠[]) (ltd3:i+nm.length < s.size) (hd3:s[i+nm.length].toNat=46) (hnq:kName ((bl s).drop (i+nm.length+1))=nq) (enq:nq≠[]) (h:RdAt w b s i) :
 Calls Tryz.prog 109 #[.pointer (some ⟨b,0,none⟩),.int .i64 20] w fun e w'=>e=.returned (.agg #[.int .i64 20,.int .i64 0,.string (ofL nm),.string ⟨#[]⟩,.string (ofL nq),.pointer none])∧RTo w w' b s (i+nm.length+1+nq.length):=by
 have HH:Hid (RdAt w b s i):=h
 have hbw:=h.lt
 have Nnm:Hid _:=hnm
 have Qnm:Hid (nm≠[]):=enm
 have tnm:=ofL_ne enm
 have lnm:i+nm.length≤s.size:=name_le hnm enm
 clear hnm enm
 have Nd3:Hid _:=hd3
 clear hd3
 have Nnq:Hid _:=hnq
 have Qnq:Hid (nq≠[]):=enq
 have tnq:=ofL_ne enq
 have lnq:i+nm.length+1+nq.length≤s.size:=name_le hnq enq
 clear hnq enq
 clear h
 go_enter Tryz.func109,Tryz.ntmps109
 go_wp2
 refine wp_scope_walk 2 fun G HR HG=>?_
 go_wp2_with fail
 refine (kclassName_any b s i _ hs hi' (HH.out.alloc _)).mono ?_
 rintro e w1 ⟨rfl,hto⟩
 rw [Nnm.out] at hto ⊢
 have HT1:Hid (RTo w w1 b s (i+nm.length)):=hto.unalloc
 have HZ1:Hid (ZAt w1 w.heap.size _ _ _ _ _):=(zat_new w _ _ _ _ _).to hto (by omega)
 have HS1:Hid (Wst w (w1.alloc (.cells #[.int .i64 20,.int .i64 0,.string (ofL nm),.string ⟨#[]⟩,.string ⟨#[]⟩,.pointer none] 146)) b s (i+nm.length) w.heap.size w1.heap.size (.int .i64 20) (.int .i64 0) (.string (ofL nm)) (.string ⟨#[]⟩) (.string ⟨#[]⟩)):=st_new hbw hto _ _ _ _ _
 have hz:=(zat_new w _ _ _ _ _).to hto (by omega)
 have zlt:=hz.lt
 have zne:w.heap.size≠w1.heap.size:=by omega
 have zne2:w1.heap.size≠w.heap.size:=by omega
 have z0:=hz.c0
 have z1:=hz.c1
 have z2:=hz.c2
 have z3:=hz.c3
 have z4:=hz.c4
 have z5:=hz.c5
 have zf:=hz.f
 clear hto hz
 go_wp2
 go_step3
 simp only [Exit.then,Exit.inBlock]
 refine HG.out _ _ _ _ _ rfl ?_
 go_wp2_with fail
 refine (take_yes b s (i+nm.length) 46 _ hs ltd3 Nd3.out HS1.out.to.rd).mono ?_
 rintro e w2 ⟨rfl,hto⟩
 have HS3:Hid _:=HS1.out.call hto
 clear z0 z1 z2 z3 z4 z5 zf
 clear hto
 obtain ⟨z0,z1,z2,z3,z4,z5,zf⟩:=HS3.out.hz.all
 obtain ⟨u0,u1,u2,u3,u4,u5,uf⟩:=HS3.out.hu.all
 go_wp2_with fail
 refine (kclassName_any b s (i+nm.length+1) _ hs (by omega) HS3.out.to.rd).mono ?_
 rintro e w3 ⟨rfl,hto⟩
 rw [Nnq.out] at hto ⊢
 have HS4:=HS3.out.call hto
 clear z0 z1 z2 z3 z4 z5 zf u0 u1 u2 u3 u4 u5 uf
 obtain ⟨z0,z1,z2,z3,z4,z5,zf⟩:=HS4.hz.all
 obtain ⟨u0,u1,u2,u3,u4,u5,uf⟩:=HS4.hu.all
 have HT4:Hid _:=HS4.set4 (.string (ofL nq))
 clear HS4 hto
 go_wp2
 refine HR.out _ _ _ ?_
 refine bodyPost_ret (results_word Tryz.results109 _ _ _ _ _ rfl (HT4.out.hz.set5 _ _ _ _ _)) rfl ?_
 exact ⟨rfl,HT4.out.to.set5 hbw (Nat.le_refl _) _ _ _ _ _⟩
theorem classWord_move1 (b:Nat) (s:ByteArray) (i:Nat) (nm:List UInt8) (w:World) (hs:s.size≤140737488355328) (hi':i≤s.size) (hnm:kName ((bl s).drop (i))=nm) (enm:nm≠[]) (hd3:∀ hlt:i+nm.length < s.size,s[i+nm.length].toNat≠46) (h:RdAt w b s i) :
 Calls Tryz.prog 109 #[.pointer (some ⟨b,0,none⟩),.int .i64 20] w fun e w'=>e=.returned (encK none)∧∃ j,j≤s.size∧RTo w w' b s j:=by
 have HH:Hid (RdAt w b s i):=h
 have hbw:=h.lt
 have Nnm:Hid _:=hnm
 have Qnm:Hid (nm≠[]):=enm
 have tnm:=ofL_ne enm
 have lnm:i+nm.length≤s.size:=name_le hnm enm
 clear hnm enm
 have Nd3:Hid _:=hd3
 clear hd3
 clear h
 go_enter Tryz.func109,Tryz.ntmps109
 go_wp2
 refine wp_scope_walk 2 fun G HR HG=>?_
 go_wp2_with fail
 refine (kclassName_any b s i _ hs hi' (HH.out.alloc _)).mono ?_
 rintro e w1 ⟨rfl,hto⟩
 rw [Nnm.out] at hto ⊢
 have HT1:Hid (RTo w w1 b s (i+nm.length)):=hto.unalloc
 have HZ1:Hid (ZAt w1 w.heap.size _ _ _ _ _):=(zat_new w _ _ _ _ _).to hto (by omega)
 have HS1:Hid (Wst w (w1.alloc (.cells #[.int .i64 20,.int .i64 0,.string (ofL nm),.string ⟨#[]⟩,.string ⟨#[]⟩,.pointer none] 146)) b s (i+nm.length) w.heap.size w1.heap.size (.int .i64 20) (.int .i64 0) (.string (ofL nm)) (.string ⟨#[]⟩) (.string ⟨#[]⟩)):=st_new hbw hto _ _ _ _ _
 have hz:=(zat_new w _ _ _ _ _).to hto (by omega)
 have zlt:=hz.lt
 have zne:w.heap.size≠w1.heap.size:=by omega
 have zne2:w1.heap.size≠w.heap.size:=by omega
 have z0:=hz.c0
 have z1:=hz.c1
 have z2:=hz.c2
 have z3:=hz.c3
 have z4:=hz.c4
 have z5:=hz.c5
 have zf:=hz.f
 clear hto hz
 go_wp2
 go_step3
 simp only [Exit.then,Exit.inBlock]
 refine HG.out _ _ _ _ _ rfl ?_
 go_wp2_with fail
 refine (take_no b s (i+nm.length) 46 _ hs (by omega) Nd3.out HS1.out.to.rd).mono ?_
 rintro e w2 ⟨rfl,hto⟩
 have HS3:Hid _:=HS1.out.call hto
 clear z0 z1 z2 z3 z4 z5 zf
 clear hto
 obtain ⟨z0,z1,z2,z3,z4,z5,zf⟩:=HS3.out.hz.all
 obtain ⟨u0,u1,u2,u3,u4,u5,uf⟩:=HS3.out.hu.all
 go_wp2
 go_step3
 simp only [Exit.then,Exit.inBlock]
 refine HG.out _ _ _ _ _ rfl ?_
 go_wp2
 refine HR.out _ _ _ ?_
 refine bodyPost_ret (results_word Tryz.results109 _ _ _ _ _ rfl (HS3.out.hz.set5 _ _ _ _ _)) rfl ?_
 exact ⟨rfl,_,by first | omega | (simp;omega) | assumption,HS3.out.to.set5 hbw (Nat.le_refl _) _ _ _ _ _⟩
theorem classWord_move2 (b:Nat) (s:ByteArray) (i:Nat) (nm:List UInt8) (w:World) (hs:s.size≤140737488355328) (hi':i≤s.size) (hnm:kName ((bl s).drop (i))=nm) (enm:nm≠[]) (ltd3:i+nm.length < s.size) (hd3:s[i+nm.length].toNat=46) (hnq:kName ((bl s).drop (i+nm.length+1))=[]) (h:RdAt w b s i) :
 Calls Tryz.prog 109 #[.pointer (some ⟨b,0,none⟩),.int .i64 20] w fun e w'=>e=.returned (encK none)∧∃ j,j≤s.size∧RTo w w' b s j:=by
 have HH:Hid (RdAt w b s i):=h
 have hbw:=h.lt
 have Nnm:Hid _:=hnm
 have Qnm:Hid (nm≠[]):=enm
 have tnm:=ofL_ne enm
 have lnm:i+nm.length≤s.size:=name_le hnm enm
 clear hnm enm
 have Nd3:Hid _:=hd3
 clear hd3
 have Nnq:Hid _:=hnq
 clear hnq
 clear h
 go_enter Tryz.func109,Tryz.ntmps109
 go_wp2
 refine wp_scope_walk 2 fun G HR HG=>?_
 go_wp2_with fail
 refine (kclassName_any b s i _ hs hi' (HH.out.alloc _)).mono ?_
 rintro e w1 ⟨rfl,hto⟩
 rw [Nnm.out] at hto ⊢
 have HT1:Hid (RTo w w1 b s (i+nm.length)):=hto.unalloc
 have HZ1:Hid (ZAt w1 w.heap.size _ _ _ _ _):=(zat_new w _ _ _ _ _).to hto (by omega)
 have HS1:Hid (Wst w (w1.alloc (.cells #[.int .i64 20,.int .i64 0,.string (ofL nm),.string ⟨#[]⟩,.string ⟨#[]⟩,.pointer none] 146)) b s (i+nm.length) w.heap.size w1.heap.size (.int .i64 20) (.int .i64 0) (.string (ofL nm)) (.string ⟨#[]⟩) (.string ⟨#[]⟩)):=st_new hbw hto _ _ _ _ _
 have hz:=(zat_new w _ _ _ _ _).to hto (by omega)
 have zlt:=hz.lt
 have zne:w.heap.size≠w1.heap.size:=by omega
 have zne2:w1.heap.size≠w.heap.size:=by omega
 have z0:=hz.c0
 have z1:=hz.c1
 have z2:=hz.c2
 have z3:=hz.c3
 have z4:=hz.c4
 have z5:=hz.c5
 have zf:=hz.f
 clear hto hz
 go_wp2
 go_step3
 simp only [Exit.then,Exit.inBlock]
 refine HG.out _ _ _ _ _ rfl ?_
 go_wp2_with fail
 refine (take_yes b s (i+nm.length) 46 _ hs ltd3 Nd3.out HS1.out.to.rd).mono ?_
 rintro e w2 ⟨rfl,hto⟩
 have HS3:Hid _:=HS1.out.call hto
 clear z0 z1 z2 z3 z4 z5 zf
 clear hto
 obtain ⟨z0,z1,z2,z3,z4,z5,zf⟩:=HS3.out.hz.all
 obtain ⟨u0,u1,u2,u3,u4,u5,uf⟩:=HS3.out.hu.all
 go_wp2_with fail
 refine (kclassName_any b s (i+nm.length+1) _ hs (by omega) HS3.out.to.rd).mono ?_
 rintro e w3 ⟨rfl,hto⟩
 rw [Nnq.out] at hto ⊢
 have HS4:=HS3.out.call hto
 clear z0 z1 z2 z3 z4 z5 zf u0 u1 u2 u3 u4 u5 uf
 obtain ⟨z0,z1,z2,z3,z4,z5,zf⟩:=HS4.hz.all
 obtain ⟨u0,u1,u2,u3,u4,u5,uf⟩:=HS4.hu.all
 have HT4:Hid _:=HS4.set4 (.string (ofL []))
 clear HS4 hto
 go_wp2
 go_step3
 simp only [Exit.then,Exit.inBlock]
 refine HG.out _ _ _ _ _ rfl ?_
 go_wp2
 refine HR.out _ _ _ ?_
 refine bodyPost_ret (results_word Tryz.results109 _ _ _ _ _ rfl (HT4.out.hz.set5 _ _ _ _ _)) rfl ?_
 exact ⟨rfl,_,by first | omega | (simp;omega) | assumption,HT4.out.to.set5 hbw (Nat.le_refl _) _ _ _ _ _⟩
theorem classWord_drop (b:Nat) (s:ByteArray) (i:Nat) (nm:List UInt8) (sl:List UInt8) (w:World) (hs:s.size≤140737488355328) (hi':i≤s.size) (hnm:kName ((bl s).drop (i))=nm) (enm:nm≠[]) (ltd3:i+nm.length < s.size) (hd3:s[i+nm.length].toNat=46) (hsl:kSel ((bl s).drop (i+nm.length+1))=sl) (esl:sl≠[]) (h:RdAt w b s i) :
 Calls Tryz.prog 109 #[.pointer (some ⟨b,0,none⟩),.int .i64 19] w fun e w'=>e=.returned (.agg #[.int .i64 19,.int .i64 0,.string (ofL nm),.string (ofL sl),.string ⟨#[]⟩,.pointer none])∧RTo w w' b s (i+nm.length+1+sl.length):=by
 have HH:Hid (RdAt w b s i):=h
 have hbw:=h.lt
 have Nnm:Hid _:=hnm
 have Qnm:Hid (nm≠[]):=enm
 have tnm:=ofL_ne enm
 have lnm:i+nm.length≤s.size:=name_le hnm enm
 clear hnm enm
 have Nd3:Hid _:=hd3
 clear hd3
 have Nsl:Hid _:=hsl
 have Qsl:Hid (sl≠[]):=esl
 have tsl:=ofL_ne esl
 have lsl:i+nm.length+1+sl.length≤s.size:=sel_le hsl esl
 clear hsl esl
 clear h
 go_enter Tryz.func109,Tryz.ntmps109
 go_wp2
 refine wp_scope_walk 2 fun G HR HG=>?_
 go_wp2_with fail
 refine (kclassName_any b s i _ hs hi' (HH.out.alloc _)).mono ?_
 rintro e w1 ⟨rfl,hto⟩
 rw [Nnm.out] at hto ⊢
 have HT1:Hid (RTo w w1 b s (i+nm.length)):=hto.unalloc
 have HZ1:Hid (ZAt w1 w.heap.size _ _ _ _ _):=(zat_new w _ _ _ _ _).to hto (by omega)
 have HS1:Hid (Wst w (w1.alloc (.cells #[.int .i64 19,.int .i64 0,.string (ofL nm),.string ⟨#[]⟩,.string ⟨#[]⟩,.pointer none] 146)) b s (i+nm.length) w.heap.size w1.heap.size (.int .i64 19) (.int .i64 0) (.string (ofL nm)) (.string ⟨#[]⟩) (.string ⟨#[]⟩)):=st_new hbw hto _ _ _ _ _
 have hz:=(zat_new w _ _ _ _ _).to hto (by omega)
 have zlt:=hz.lt
 have zne:w.heap.size≠w1.heap.size:=by omega
 have zne2:w1.heap.size≠w.heap.size:=by omega
 have z0:=hz.c0
 have z1:=hz.c1
 have z2:=hz.c2
 have z3:=hz.c3
 have z4:=hz.c4
 have z5:=hz.c5
 have zf:=hz.f
 clear hto hz
 go_wp2
 go_step3
 simp only [Exit.then,Exit.inBlock]
 refine HG.out _ _ _ _ _ rfl ?_
 go_wp2_with fail
 refine (take_yes b s (i+nm.length) 46 _ hs ltd3 Nd3.out HS1.out.to.rd).mono ?_
 rintro e w2 ⟨rfl,hto⟩
 have HS3:Hid _:=HS1.out.call hto
 clear z0 z1 z2 z3 z4 z5 zf
 clear hto
 obtain ⟨z0,z1,z2,z3,z4,z5,zf⟩:=HS3.out.hz.all
 obtain ⟨u0,u1,u2,u3,u4,u5,uf⟩:=HS3.out.hu.all
 go_wp2_with fail
 refine (kselector_any b s (i+nm.length+1) _ hs (by omega) HS3.out.to.rd).mono ?_
 rintro e w3 ⟨rfl,j,hj,hto,hjl⟩
 rw [Nsl.out] at hjl ⊢
 obtain rfl:=hjl Qsl.out
 have HS4:=HS3.out.call hto
 clear z0 z1 z2 z3 z4 z5 zf u0 u1 u2 u3 u4 u5 uf
 obtain ⟨z0,z1,z2,z3,z4,z5,zf⟩:=HS4.hz.all
 obtain ⟨u0,u1,u2,u3,u4,u5,uf⟩:=HS4.hu.all
 have HT4:Hid _:=HS4.set3 (.string (ofL sl))
 clear HS4 hto hjl
 go_wp2
 refine HR.out _ _ _ ?_
 refine bodyPost_ret (results_word Tryz.results109 _ _ _ _ _ rfl (HT4.out.hz.set5 _ _ _ _ _)) rfl ?_
 exact ⟨rfl,HT4.out.to.set5 hbw (Nat.le_refl _) _ _ _ _ _⟩
theorem classWord_drop1 (b:Nat) (s:ByteArray) (i:Nat) (nm:List UInt8) (w:World) (hs:s.size≤140737488355328) (hi':i≤s.size) (hnm:kName ((bl s).drop (i))=nm) (enm:nm≠[]) (hd3:∀ hlt:i+nm.length < s.size,s[i+nm.length].toNat≠46) (h:RdAt w b s i) :
 Calls Tryz.prog 109 #[.pointer (some ⟨b,0,none⟩),.int .i64 19] w fun e w'=>e=.returned (encK none)∧∃ j,j≤s.size∧RTo w w' b s j:=by
 have HH:Hid (RdAt w b s i):=h
 have hbw:=h.lt
 have Nnm:Hid _:=hnm
 have Qnm:Hid (nm≠[]):=enm
 have tnm:=ofL_ne enm
 have lnm:i+nm.length≤s.size:=name_le hnm enm
 clear hnm enm
 have Nd3:Hid _:=hd3
 clear hd3
 clear h
 go_enter Tryz.func109,Tryz.ntmps109
 go_wp2
 refine wp_scope_walk 2 fun G HR HG=>?_
 go_wp2_with fail
 refine (kclassName_any b s i _ hs hi' (HH.out.alloc _)).mono ?_
 rintro e w1 ⟨rfl,hto⟩
 rw [Nnm.out] at hto ⊢
 have HT1:Hid (RTo w w1 b s (i+nm.length)):=hto.unalloc
 have HZ1:Hid (ZAt w1 w.heap.size _ _ _ _ _):=(zat_new w _ _ _ _ _).to hto (by omega)
 have HS1:Hid (Wst w (w1.alloc (.cells #[.int .i64 19,.int .i64 0,.string (ofL nm),.string ⟨#[]⟩,.string ⟨#[]⟩,.pointer none] 146)) b s (i+nm.length) w.heap.size w1.heap.size (.int .i64 19) (.int .i64 0) (.string (ofL nm)) (.string ⟨#[]⟩) (.string ⟨#[]⟩)):=st_new hbw hto _ _ _ _ _
 have hz:=(zat_new w _ _ _ _ _).to hto (by omega)
 have zlt:=hz.lt
 have zne:w.heap.size≠w1.heap.size:=by omega
 have zne2:w1.heap.size≠w.heap.size:=by omega
 have z0:=hz.c0
 have z1:=hz.c1
 have z2:=hz.c2
 have z3:=hz.c3
 have z4:=hz.c4
 have z5:=hz.c5
 have zf:=hz.f
 clear hto hz
 go_wp2
 go_step3
 simp only [Exit.then,Exit.inBlock]
 refine HG.out _ _ _ _ _ rfl ?_
 go_wp2_with fail
 refine (take_no b s (i+nm.length) 46 _ hs (by omega) Nd3.out HS1.out.to.rd).mono ?_
 rintro e w2 ⟨rfl,hto⟩
 have HS3:Hid _:=HS1.out.call hto
 clear z0 z1 z2 z3 z4 z5 zf
 clear hto
 obtain ⟨z0,z1,z2,z3,z4,z5,zf⟩:=HS3.out.hz.all
 obtain ⟨u0,u1,u2,u3,u4,u5,uf⟩:=HS3.out.hu.all
 go_wp2
 go_step3
 simp only [Exit.then,Exit.inBlock]
 refine HG.out _ _ _ _ _ rfl ?_
 go_wp2
 refine HR.out _ _ _ ?_
 refine bodyPost_ret (results_word Tryz.results109 _ _ _ _ _ rfl (HS3.out.hz.set5 _ _ _ _ _)) rfl ?_
 exact ⟨rfl,_,by first | omega | (simp;omega) | assumption,HS3.out.to.set5 hbw (Nat.le_refl _) _ _ _ _ _⟩
theorem classWord_drop2 (b:Nat) (s:ByteArray) (i:Nat) (nm:List UInt8) (w:World) (hs:s.size≤140737488355328) (hi':i≤s.size) (hnm:kName ((bl s).drop (i))=nm) (enm:nm≠[]) (ltd3:i+nm.length < s.size) (hd3:s[i+nm.length].toNat=46) (hsl:kSel ((bl s).drop (i+nm.length+1))=[]) (h:RdAt w b s i) :
 Calls Tryz.prog 109 #[.pointer (some ⟨b,0,none⟩),.int .i64 19] w fun e w'=>e=.returned (encK none)∧∃ j,j≤s.size∧RTo w w' b s j:=by
 have HH:Hid (RdAt w b s i):=h
 have hbw:=h.lt
 have Nnm:Hid _:=hnm
 have Qnm:Hid (nm≠[]):=enm
 have tnm:=ofL_ne enm
 have lnm:i+nm.length≤s.size:=name_le hnm enm
 clear hnm enm
 have Nd3:Hid _:=hd3
 clear hd3
 have Nsl:Hid _:=hsl
 clear hsl
 clear h
 go_enter Tryz.func109,Tryz.ntmps109
 go_wp2
 refine wp_scope_walk 2 fun G HR HG=>?_
 go_wp2_with fail
 refine (kclassName_any b s i _ hs hi' (HH.out.alloc _)).mono ?_
 rintro e w1 ⟨rfl,hto⟩
 rw [Nnm.out] at hto ⊢
 have HT1:Hid (RTo w w1 b s (i+nm.length)):=hto.unalloc
 have HZ1:Hid (ZAt w1 w.heap.size _ _ _ _ _):=(zat_new w _ _ _ _ _).to hto (by omega)
 have HS1:Hid (Wst w (w1.alloc (.cells #[.int .i64 19,.int .i64 0,.string (ofL nm),.string ⟨#[]⟩,.string ⟨#[]⟩,.pointer none] 146)) b s (i+nm.length) w.heap.size w1.heap.size (.int .i64 19) (.int .i64 0) (.string (ofL nm)) (.string ⟨#[]⟩) (.string ⟨#[]⟩)):=st_new hbw hto _ _ _ _ _
 have hz:=(zat_new w _ _ _ _ _).to hto (by omega)
 have zlt:=hz.lt
 have zne:w.heap.size≠w1.heap.size:=by omega
 have zne2:w1.heap.size≠w.heap.size:=by omega
 have z0:=hz.c0
 have z1:=hz.c1
 have z2:=hz.c2
 have z3:=hz.c3
 have z4:=hz.c4
 have z5:=hz.c5
 have zf:=hz.f
 clear hto hz
 go_wp2
 go_step3
 simp only [Exit.then,Exit.inBlock]
 refine HG.out _ _ _ _ _ rfl ?_
 go_wp2_with fail
 refine (take_yes b s (i+nm.length) 46 _ hs ltd3 Nd3.out HS1.out.to.rd).mono ?_
 rintro e w2 ⟨rfl,hto⟩
 have HS3:Hid _:=HS1.out.call hto
 clear z0 z1 z2 z3 z4 z5 zf
 clear hto
 obtain ⟨z0,z1,z2,z3,z4,z5,zf⟩:=HS3.out.hz.all
 obtain ⟨u0,u1,u2,u3,u4,u5,uf⟩:=HS3.out.hu.all
 go_wp2_with fail
 refine (kselector_any b s (i+nm.length+1) _ hs (by omega) HS3.out.to.rd).mono ?_
 rintro e w3 ⟨rfl,j,hj,hto,hjl⟩
 rw [Nsl.out] at hjl ⊢
 have HS4:=HS3.out.call hto
 clear z0 z1 z2 z3 z4 z5 zf u0 u1 u2 u3 u4 u5 uf
 obtain ⟨z0,z1,z2,z3,z4,z5,zf⟩:=HS4.hz.all
 obtain ⟨u0,u1,u2,u3,u4,u5,uf⟩:=HS4.hu.all
 have HT4:Hid _:=HS4.set3 (.string (ofL []))
 clear HS4 hto hjl
 go_wp2
 go_step3
 simp only [Exit.then,Exit.inBlock]
 refine HG.out _ _ _ _ _ rfl ?_
 go_wp2
 refine HR.out _ _ _ ?_
 refine bodyPost_ret (results_word Tryz.results109 _ _ _ _ _ rfl (HT4.out.hz.set5 _ _ _ _ _)) rfl ?_
 exact ⟨rfl,_,by first | omega | (simp;omega) | assumption,HT4.out.to.set5 hbw (Nat.le_refl _) _ _ _ _ _⟩
theorem classWord_copy (b:Nat) (s:ByteArray) (i:Nat) (nm:List UInt8) (sl:List UInt8) (nq:List UInt8) (w:World) (hs:s.size≤140737488355328) (hi':i≤s.size) (hnm:kName ((bl s).drop (i))=nm) (enm:nm≠[]) (ltd3:i+nm.length < s.size) (hd3:s[i+nm.length].toNat=46) (hsl:kSel ((bl s).drop (i+nm.length+1))=sl) (esl:sl≠[]) (ltd6:i+nm.length+1+sl.length < s.size) (hd6:s[i+nm.length+1+sl.length].toNat=46) (hnq:kName ((bl s).drop (i+nm.length+1+sl.length+1))=nq) (enq:nq≠[]) (h:RdAt w b s i) :
 Calls Tryz.prog 109 #[.pointer (some ⟨b,0,none⟩),.int .i64 21] w fun e w'=>e=.returned (.agg #[.int .i64 21,.int .i64 0,.string (ofL nm),.string (ofL sl),.string (ofL nq),.pointer none])∧RTo w w' b s (i+nm.length+1+sl.length+1+nq.length):=by
 have HH:Hid (RdAt w b s i):=h
 have hbw:=h.lt
 have Nnm:Hid _:=hnm
 have Qnm:Hid (nm≠[]):=enm
 have tnm:=ofL_ne enm
 have lnm:i+nm.length≤s.size:=name_le hnm enm
 clear hnm enm
 have Nd3:Hid _:=hd3
 clear hd3
 have Nsl:Hid _:=hsl
 have Qsl:Hid (sl≠[]):=esl
 have tsl:=ofL_ne esl
 have lsl:i+nm.length+1+sl.length≤s.size:=sel_le hsl esl
 clear hsl esl
 have Nd6:Hid _:=hd6
 clear hd6
 have Nnq:Hid _:=hnq
 have Qnq:Hid (nq≠[]):=enq
 have tnq:=ofL_ne enq
 have lnq:i+nm.length+1+sl.length+1+nq.length≤s.size:=name_le hnq enq
 clear hnq enq
 clear h
 go_enter Tryz.func109,Tryz.ntmps109
 go_wp2
 refine wp_scope_walk 2 fun G HR HG=>?_
 go_wp2_with fail
 refine (kclassName_any b s i _ hs hi' (HH.out.alloc _)).mono ?_
 rintro e w1 ⟨rfl,hto⟩
 rw [Nnm.out] at hto ⊢
 have HT1:Hid (RTo w w1 b s (i+nm.length)):=hto.unalloc
 have HZ1:Hid (ZAt w1 w.heap.size _ _ _ _ _):=(zat_new w _ _ _ _ _).to hto (by omega)
 have HS1:Hid (Wst w (w1.alloc (.cells #[.int .i64 21,.int .i64 0,.string (ofL nm),.string ⟨#[]⟩,.string ⟨#[]⟩,.pointer none] 146)) b s (i+nm.length) w.heap.size w1.heap.size (.int .i64 21) (.int .i64 0) (.string (ofL nm)) (.string ⟨#[]⟩) (.string ⟨#[]⟩)):=st_new hbw hto _ _ _ _ _
 have hz:=(zat_new w _ _ _ _ _).to hto (by omega)
 have zlt:=hz.lt
 have zne:w.heap.size≠w1.heap.size:=by omega
 have zne2:w1.heap.size≠w.heap.size:=by omega
 have z0:=hz.c0
 have z1:=hz.c1
 have z2:=hz.c2
 have z3:=hz.c3
 have z4:=hz.c4
 have z5:=hz.c5
 have zf:=hz.f
 clear hto hz
 go_wp2
 go_step3
 simp only [Exit.then,Exit.inBlock]
 refine HG.out _ _ _ _ _ rfl ?_
 go_wp2_with fail
 refine (take_yes b s (i+nm.length) 46 _ hs ltd3 Nd3.out HS1.out.to.rd).mono ?_
 rintro e w2 ⟨rfl,hto⟩
 have HS3:Hid _:=HS1.out.call hto
 clear z0 z1 z2 z3 z4 z5 zf
 clear hto
 obtain ⟨z0,z1,z2,z3,z4,z5,zf⟩:=HS3.out.hz.all
 obtain ⟨u0,u1,u2,u3,u4,u5,uf⟩:=HS3.out.hu.all
 go_wp2_with fail
 refine (kselector_any b s (i+nm.length+1) _ hs (by omega) HS3.out.to.rd).mono ?_
 rintro e w3 ⟨rfl,j,hj,hto,hjl⟩
 rw [Nsl.out] at hjl ⊢
 obtain rfl:=hjl Qsl.out
 have HS4:=HS3.out.call hto
 clear z0 z1 z2 z3 z4 z5 zf u0 u1 u2 u3 u4 u5 uf
 obtain ⟨z0,z1,z2,z3,z4,z5,zf⟩:=HS4.hz.all
 obtain ⟨u0,u1,u2,u3,u4,u5,uf⟩:=HS4.hu.all
 have HT4:Hid _:=HS4.set3 (.string (ofL sl))
 clear HS4 hto hjl
 go_wp2
 go_step3
 go_wp2_with fail
 refine (take_yes b s (i+nm.length+1+sl.length) 46 _ hs ltd6 Nd6.out HT4.out.to.rd).mono ?_
 rintro e w4 ⟨rfl,hto⟩
 have HS6:Hid _:=HT4.out.call hto
 clear z0 z1 z2 z3 z4 z5 zf u0 u1 u2 u3 u4 u5 uf
 clear hto
 obtain ⟨z0,z1,z2,z3,z4,z5,zf⟩:=HS6.out.hz.all
 obtain ⟨u0,u1,u2,u3,u4,u5,uf⟩:=HS6.out.hu.all
 go_wp2_with fail
 refine (kclassName_any b s (i+nm.length+1+sl.length+1) _ hs (by omega) HS6.out.to.rd).mono ?_
 rintro e w5 ⟨rfl,hto⟩
 rw [Nnq.out] at hto ⊢
 have HS7:=HS6.out.call hto
 clear z0 z1 z2 z3 z4 z5 zf u0 u1 u2 u3 u4 u5 uf
 obtain ⟨z0,z1,z2,z3,z4,z5,zf⟩:=HS7.hz.all
 obtain ⟨u0,u1,u2,u3,u4,u5,uf⟩:=HS7.hu.all
 have HT7:Hid _:=HS7.set4 (.string (ofL nq))
 clear HS7 hto
 go_wp2
 refine HR.out _ _ _ ?_
 refine bodyPost_ret (results_word Tryz.results109 _ _ _ _ _ rfl (HT7.out.hz.set5 _ _ _ _ _)) rfl ?_
 exact ⟨rfl,HT7.out.to.set5 hbw (Nat.le_refl _) _ _ _ _ _⟩
theorem classWord_copy1 (b:Nat) (s:ByteArray) (i:Nat) (nm:List UInt8) (w:World) (hs:s.size≤140737488355328) (hi':i≤s.size) (hnm:kName ((bl s).drop (i))=nm) (enm:nm≠[]) (hd3:∀ hlt:i+nm.length < s.size,s[i+nm.length].toNat≠46) (h:RdAt w b s i) :
 Calls Tryz.prog 109 #[.pointer (some ⟨b,0,none⟩),.int .i64 21] w fun e w'=>e=.returned (encK none)∧∃ j,j≤s.size∧RTo w w' b s j:=by
 have HH:Hid (RdAt w b s i):=h
 have hbw:=h.lt
 have Nnm:Hid _:=hnm
 have Qnm:Hid (nm≠[]):=enm
 have tnm:=ofL_ne enm
 have lnm:i+nm.length≤s.size:=name_le hnm enm
 clear hnm enm
 have Nd3:Hid _:=hd3
 clear hd3
 clear h
 go_enter Tryz.func109,Tryz.ntmps109
 go_wp2
 refine wp_scope_walk 2 fun G HR HG=>?_
 go_wp2_with fail
 refine (kclassName_any b s i _ hs hi' (HH.out.alloc _)).mono ?_
 rintro e w1 ⟨rfl,hto⟩
 rw [Nnm.out] at hto ⊢
 have HT1:Hid (RTo w w1 b s (i+nm.length)):=hto.unalloc
 have HZ1:Hid (ZAt w1 w.heap.size _ _ _ _ _):=(zat_new w _ _ _ _ _).to hto (by omega)
 have HS1:Hid (Wst w (w1.alloc (.cells #[.int .i64 21,.int .i64 0,.string (ofL nm),.string ⟨#[]⟩,.string ⟨#[]⟩,.pointer none] 146)) b s (i+nm.length) w.heap.size w1.heap.size (.int .i64 21) (.int .i64 0) (.string (ofL nm)) (.string ⟨#[]⟩) (.string ⟨#[]⟩)):=st_new hbw hto _ _ _ _ _
 have hz:=(zat_new w _ _ _ _ _).to hto (by omega)
 have zlt:=hz.lt
 have zne:w.heap.size≠w1.heap.size:=by omega
 have zne2:w1.heap.size≠w.heap.size:=by omega
 have z0:=hz.c0
 have z1:=hz.c1
 have z2:=hz.c2
 have z3:=hz.c3
 have z4:=hz.c4
 have z5:=hz.c5
 have zf:=hz.f
 clear hto hz
 go_wp2
 go_step3
 simp only [Exit.then,Exit.inBlock]
 refine HG.out _ _ _ _ _ rfl ?_
 go_wp2_with fail
 refine (take_no b s (i+nm.length) 46 _ hs (by omega) Nd3.out HS1.out.to.rd).mono ?_
 rintro e w2 ⟨rfl,hto⟩
 have HS3:Hid _:=HS1.out.call hto
 clear z0 z1 z2 z3 z4 z5 zf
 clear hto
 obtain ⟨z0,z1,z2,z3,z4,z5,zf⟩:=HS3.out.hz.all
 obtain ⟨u0,u1,u2,u3,u4,u5,uf⟩:=HS3.out.hu.all
 go_wp2
 go_step3
 simp only [Exit.then,Exit.inBlock]
 refine HG.out _ _ _ _ _ rfl ?_
 go_wp2
 refine HR.out _ _ _ ?_
 refine bodyPost_ret (results_word Tryz.results109 _ _ _ _ _ rfl (HS3.out.hz.set5 _ _ _ _ _)) rfl ?_
 exact ⟨rfl,_,by first | omega | (simp;omega) | assumption,HS3.out.to.set5 hbw (Nat.le_refl _) _ _ _ _ _⟩
theorem classWord_copy2 (b:Nat) (s:ByteArray) (i:Nat) (nm:List UInt8) (w:World) (hs:s.size≤140737488355328) (hi':i≤s.size) (hnm:kName ((bl s).drop (i))=nm) (enm:nm≠[]) (ltd3:i+nm.length < s.size) (hd3:s[i+nm.length].toNat=46) (hsl:kSel ((bl s).drop (i+nm.length+1))=[]) (h:RdAt w b s i) :
 Calls Tryz.prog 109 #[.pointer (some ⟨b,0,none⟩),.int .i64 21] w fun e w'=>e=.returned (encK none)∧∃ j,j≤s.size∧RTo w w' b s j:=by
 have HH:Hid (RdAt w b s i):=h
 have hbw:=h.lt
 have Nnm:Hid _:=hnm
 have Qnm:Hid (nm≠[]):=enm
 have tnm:=ofL_ne enm
 have lnm:i+nm.length≤s.size:=name_le hnm enm
 clear hnm enm
 have Nd3:Hid _:=hd3
 clear hd3
 have Nsl:Hid _:=hsl
 clear hsl
 clear h
 go_enter Tryz.func109,Tryz.ntmps109
 go_wp2
 refine wp_scope_walk 2 fun G HR HG=>?_
 go_wp2_with fail
 refine (kclassName_any b s i _ hs hi' (HH.out.alloc _)).mono ?_
 rintro e w1 ⟨rfl,hto⟩
 rw [Nnm.out] at hto ⊢
 have HT1:Hid (RTo w w1 b s (i+nm.length)):=hto.unalloc
 have HZ1:Hid (ZAt w1 w.heap.size _ _ _ _ _):=(zat_new w _ _ _ _ _).to hto (by omega)
 have HS1:Hid (Wst w (w1.alloc (.cells #[.int .i64 21,.int .i64 0,.string (ofL nm),.string ⟨#[]⟩,.string ⟨#[]⟩,.pointer none] 146)) b s (i+nm.length) w.heap.size w1.heap.size (.int .i64 21) (.int .i64 0) (.string (ofL nm)) (.string ⟨#[]⟩) (.string ⟨#[]⟩)):=st_new hbw hto _ _ _ _ _
 have hz:=(zat_new w _ _ _ _ _).to hto (by omega)
 have zlt:=hz.lt
 have zne:w.heap.size≠w1.heap.size:=by omega
 have zne2:w1.heap.size≠w.heap.size:=by omega
 have z0:=hz.c0
 have z1:=hz.c1
 have z2:=hz.c2
 have z3:=hz.c3
 have z4:=hz.c4
 have z5:=hz.c5
 have zf:=hz.f
 clear hto hz
 go_wp2
 go_step3
 simp only [Exit.then,Exit.inBlock]
 refine HG.out _ _ _ _ _ rfl ?_
 go_wp2_with fail
 refine (take_yes b s (i+nm.length) 46 _ hs ltd3 Nd3.out HS1.out.to.rd).mono ?_
 rintro e w2 ⟨rfl,hto⟩
 have HS3:Hid _:=HS1.out.call hto
 clear z0 z1 z2 z3 z4 z5 zf
 clear hto
 obtain ⟨z0,z1,z2,z3,z4,z5,zf⟩:=HS3.out.hz.all
 obtain ⟨u0,u1,u2,u3,u4,u5,uf⟩:=HS3.out.hu.all
 go_wp2_with fail
 refine (kselector_any b s (i+nm.length+1) _ hs (by omega) HS3.out.to.rd).mono ?_
 rintro e w3 ⟨rfl,j,hj,hto,hjl⟩
 rw [Nsl.out] at hjl ⊢
 have HS4:=HS3.out.call hto
 clear z0 z1 z2 z3 z4 z5 zf u0 u1 u2 u3 u4 u5 uf
 obtain ⟨z0,z1,z2,z3,z4,z5,zf⟩:=HS4.hz.all
 obtain ⟨u0,u1,u2,u3,u4,u5,uf⟩:=HS4.hu.all
 have HT4:Hid _:=HS4.set3 (.string (ofL []))
 clear HS4 hto hjl
 go_wp2
 go_step3
 simp only [Exit.then,Exit.inBlock]
 refine HG.out _ _ _ _ _ rfl ?_
 go_wp2
 refine HR.out _ _ _ ?_
 refine bodyPost_ret (results_word Tryz.results109 _ _ _ _ _ rfl (HT4.out.hz.set5 _ _ _ _ _)) rfl ?_
 exact ⟨rfl,_,by first | omega | (simp;omega) | assumption,HT4.out.to.set5 hbw (Nat.le_refl _) _ _ _ _ _⟩
theorem classWord_copy3 (b:Nat) (s:ByteArray) (i:Nat) (nm:List UInt8) (sl:List UInt8) (w:World) (hs:s.size≤140737488355328) (hi':i≤s.size) (hnm:kName ((bl s).drop (i))=nm) (enm:nm≠[]) (ltd3:i+nm.length < s.size) (hd3:s[i+nm.length].toNat=46) (hsl:kSel ((bl s).drop (i+nm.length+1))=sl) (esl:sl≠[]) (hd6:∀ hlt:i+nm.length+1+sl.length < s.size,s[i+nm.length+1+sl.length].toNat≠46) (h:RdAt w b s i) :
 Calls Tryz.prog 109 #[.pointer (some ⟨b,0,none⟩),.int .i64 21] w fun e w'=>e=.returned (encK none)∧∃ j,j≤s.size∧RTo w w' b s j:=by
 have HH:Hid (RdAt w b s i):=h
 have hbw:=h.lt
 have Nnm:Hid _:=hnm
 have Qnm:Hid (nm≠[]):=enm
 have tnm:=ofL_ne enm
 have lnm:i+nm.length≤s.size:=name_le hnm enm
 clear hnm enm
 have Nd3:Hid _:=hd3
 clear hd3
 have Nsl:Hid _:=hsl
 have Qsl:Hid (sl≠[]):=esl
 have tsl:=ofL_ne esl
 have lsl:i+nm.length+1+sl.length≤s.size:=sel_le hsl esl
 clear hsl esl
 have Nd6:Hid _:=hd6
 clear hd6
 clear h
 go_enter Tryz.func109,Tryz.ntmps109
 go_wp2
 refine wp_scope_walk 2 fun G HR HG=>?_
 go_wp2_with fail
 refine (kclassName_any b s i _ hs hi' (HH.out.alloc _)).mono ?_
 rintro e w1 ⟨rfl,hto⟩
 rw [Nnm.out] at hto ⊢
 have HT1:Hid (RTo w w1 b s (i+nm.length)):=hto.unalloc
 have HZ1:Hid (ZAt w1 w.heap.size _ _ _ _ _):=(zat_new w _ _ _ _ _).to hto (by omega)
 have HS1:Hid (Wst w (w1.alloc (.cells #[.int .i64 21,.int .i64 0,.string (ofL nm),.string ⟨#[]⟩,.string ⟨#[]⟩,.pointer none] 146)) b s (i+nm.length) w.heap.size w1.heap.size (.int .i64 21) (.int .i64 0) (.string (ofL nm)) (.string ⟨#[]⟩) (.string ⟨#[]⟩)):=st_new hbw hto _ _ _ _ _
 have hz:=(zat_new w _ _ _ _ _).to hto (by omega)
 have zlt:=hz.lt
 have zne:w.heap.size≠w1.heap.size:=by omega
 have zne2:w1.heap.size≠w.heap.size:=by omega
 have z0:=hz.c0
 have z1:=hz.c1
 have z2:=hz.c2
 have z3:=hz.c3
 have z4:=hz.c4
 have z5:=hz.c5
 have zf:=hz.f
 clear hto hz
 go_wp2
 go_step3
 simp only [Exit.then,Exit.inBlock]
 refine HG.out _ _ _ _ _ rfl ?_
 go_wp2_with fail
 refine (take_yes b s (i+nm.length) 46 _ hs ltd3 Nd3.out HS1.out.to.rd).mono ?_
 rintro e w2 ⟨rfl,hto⟩
 have HS3:Hid _:=HS1.out.call hto
 clear z0 z1 z2 z3 z4 z5 zf
 clear hto
 obtain ⟨z0,z1,z2,z3,z4,z5,zf⟩:=HS3.out.hz.all
 obtain ⟨u0,u1,u2,u3,u4,u5,uf⟩:=HS3.out.hu.all
 go_wp2_with fail
 refine (kselector_any b s (i+nm.length+1) _ hs (by omega) HS3.out.to.rd).mono ?_
 rintro e w3 ⟨rfl,j,hj,hto,hjl⟩
 rw [Nsl.out] at hjl ⊢
 obtain rfl:=hjl Qsl.out
 have HS4:=HS3.out.call hto
 clear z0 z1 z2 z3 z4 z5 zf u0 u1 u2 u3 u4 u5 uf
 obtain ⟨z0,z1,z2,z3,z4,z5,zf⟩:=HS4.hz.all
 obtain ⟨u0,u1,u2,u3,u4,u5,uf⟩:=HS4.hu.all
 have HT4:Hid _:=HS4.set3 (.string (ofL sl))
 clear HS4 hto hjl
 go_wp2
 go_step3
 go_wp2_with fail
 refine (take_no b s (i+nm.length+1+sl.length) 46 _ hs (by omega) Nd6.out HT4.out.to.rd).mono ?_
 rintro e w4 ⟨rfl,hto⟩
 have HS6:Hid _:=HT4.out.call hto
 clear z0 z1 z2 z3 z4 z5 zf u0 u1 u2 u3 u4 u5 uf
 clear hto
 obtain ⟨z0,z1,z2,z3,z4,z5,zf⟩:=HS6.out.hz.all
 obtain ⟨u0,u1,u2,u3,u4,u5,uf⟩:=HS6.out.hu.all
 go_wp2
 go_step3
 simp only [Exit.then,Exit.inBlock]
 refine HG.out _ _ _ _ _ rfl ?_
 go_wp2
 refine HR.out _ _ _ ?_
 refine bodyPost_ret (results_word Tryz.results109 _ _ _ _ _ rfl (HS6.out.hz.set5 _ _ _ _ _)) rfl ?_
 exact ⟨rfl,_,by first | omega | (simp;omega) | assumption,HS6.out.to.set5 hbw (Nat.le_refl _) _ _ _ _ _⟩
theorem classWord_copy4 (b:Nat) (s:ByteArray) (i:Nat) (nm:List UInt8) (sl:List UInt8) (w:World) (hs:s.size≤140737488355328) (hi':i≤s.size) (hnm:kName ((bl s).drop (i))=nm) (enm:nm≠[]) (ltd3:i+nm.length < s.size) (hd3:s[i+nm.length].toNat=46) (hsl:kSel ((bl s).drop (i+nm.length+1))=sl) (esl:sl≠[]) (ltd6:i+nm.length+1+sl.length < s.size) (hd6:s[i+nm.length+1+sl.length].toNat=46) (hnq:kName ((bl s).drop (i+nm.length+1+sl.length+1))=[]) (h:RdAt w b s i) :
 Calls Tryz.prog 109 #[.pointer (some ⟨b,0,none⟩),.int .i64 21] w fun e w'=>e=.returned (encK none)∧∃ j,j≤s.size∧RTo w w' b s j:=by
 have HH:Hid (RdAt w b s i):=h
 have hbw:=h.lt
 have Nnm:Hid _:=hnm
 have Qnm:Hid (nm≠[]):=enm
 have tnm:=ofL_ne enm
 have lnm:i+nm.length≤s.size:=name_le hnm enm
 clear hnm enm
 have Nd3:Hid _:=hd3
 clear hd3
 have Nsl:Hid _:=hsl
 have Qsl:Hid (sl≠[]):=esl
 have tsl:=ofL_ne esl
 have lsl:i+nm.length+1+sl.length≤s.size:=sel_le hsl esl
 clear hsl esl
 have Nd6:Hid _:=hd6
 clear hd6
 have Nnq:Hid _:=hnq
 clear hnq
 clear h
 go_enter Tryz.func109,Tryz.ntmps109
 go_wp2
 refine wp_scope_walk 2 fun G HR HG=>?_
 go_wp2_with fail
 refine (kclassName_any b s i _ hs hi' (HH.out.alloc _)).mono ?_
 rintro e w1 ⟨rfl,hto⟩
 rw [Nnm.out] at hto ⊢
 have HT1:Hid (RTo w w1 b s (i+nm.length)):=hto.unalloc
 have HZ1:Hid (ZAt w1 w.heap.size _ _ _ _ _):=(zat_new w _ _ _ _ _).to hto (by omega)
 have HS1:Hid (Wst w (w1.alloc (.cells #[.int .i64 21,.int .i64 0,.string (ofL nm),.string ⟨#[]⟩,.string ⟨#[]⟩,.pointer none] 146)) b s (i+nm.length) w.heap.size w1.heap.size (.int .i64 21) (.int .i64 0) (.string (ofL nm)) (.string ⟨#[]⟩) (.string ⟨#[]⟩)):=st_new hbw hto _ _ _ _ _
 have hz:=(zat_new w _ _ _ _ _).to hto (by omega)
 have zlt:=hz.lt
 have zne:w.heap.size≠w1.heap.size:=by omega
 have zne2:w1.heap.size≠w.heap.size:=by omega
 have z0:=hz.c0
 have z1:=hz.c1
 have z2:=hz.c2
 have z3:=hz.c3
 have z4:=hz.c4
 have z5:=hz.c5
 have zf:=hz.f
 clear hto hz
 go_wp2
 go_step3
 simp only [Exit.then,Exit.inBlock]
 refine HG.out _ _ _ _ _ rfl ?_
 go_wp2_with fail
 refine (take_yes b s (i+nm.length) 46 _ hs ltd3 Nd3.out HS1.out.to.rd).mono ?_
 rintro e w2 ⟨rfl,hto⟩
 have HS3:Hid _:=HS1.out.call hto
 clear z0 z1 z2 z3 z4 z5 zf
 clear hto
 obtain ⟨z0,z1,z2,z3,z4,z5,zf⟩:=HS3.out.hz.all
 obtain ⟨u0,u1,u2,u3,u4,u5,uf⟩:=HS3.out.hu.all
 go_wp2_with fail
 refine (kselector_any b s (i+nm.length+1) _ hs (by omega) HS3.out.to.rd).mono ?_
 rintro e w3 ⟨rfl,j,hj,hto,hjl⟩
 rw [Nsl.out] at hjl ⊢
 obtain rfl:=hjl Qsl.out
 have HS4:=HS3.out.call hto
 clear z0 z1 z2 z3 z4 z5 zf u0 u1 u2 u3 u4 u5 uf
 obtain ⟨z0,z1,z2,z3,z4,z5,zf⟩:=HS4.hz.all
 obtain ⟨u0,u1,u2,u3,u4,u5,uf⟩:=HS4.hu.all
 have HT4:Hid _:=HS4.set3 (.string (ofL sl))
 clear HS4 hto hjl
 go_wp2
 go_step3
 go_wp2_with fail
 refine (take_yes b s (i+nm.length+1+sl.length) 46 _ hs ltd6 Nd6.out HT4.out.to.rd).mono ?_
 rintro e w4 ⟨rfl,hto⟩
 have HS6:Hid _:=HT4.out.call hto
 clear z0 z1 z2 z3 z4 z5 zf u0 u1 u2 u3 u4 u5 uf
 clear hto
 obtain ⟨z0,z1,z2,z3,z4,z5,zf⟩:=HS6.out.hz.all
 obtain ⟨u0,u1,u2,u3,u4,u5,uf⟩:=HS6.out.hu.all
 go_wp2_with fail
 refine (kclassName_any b s (i+nm.length+1+sl.length+1) _ hs (by omega) HS6.out.to.rd).mono ?_
 rintro e w5 ⟨rfl,hto⟩
 rw [Nnq.out] at hto ⊢
 have HS7:=HS6.out.call hto
 clear z0 z1 z2 z3 z4 z5 zf u0 u1 u2 u3 u4 u5 uf
 obtain ⟨z0,z1,z2,z3,z4,z5,zf⟩:=HS7.hz.all
 obtain ⟨u0,u1,u2,u3,u4,u5,uf⟩:=HS7.hu.all
 have HT7:Hid _:=HS7.set4 (.string (ofL []))
 clear HS7 hto
 go_wp2
 go_step3
 simp only [Exit.then,Exit.inBlock]
 refine HG.out _ _ _ _ _ rfl ?_
 go_wp2
 refine HR.out _ _ _ ?_
 refine bodyPost_ret (results_word Tryz.results109 _ _ _ _ _ rfl (HT7.out.hz.set5 _ _ _ _ _)) rfl ?_
 exact ⟨rfl,_,by first | omega | (simp;omega) | assumption,HT7.out.to.set5 hbw (Nat.le_refl _) _ _ _ _ _⟩
end Go.Proofs.YtkghmgoefiepeaaGreatDoor.reads
