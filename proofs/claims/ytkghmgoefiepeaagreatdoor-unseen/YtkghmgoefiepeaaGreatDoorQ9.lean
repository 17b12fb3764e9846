import Derived.Deep.RegionHeld3
import Derived.Deep.DrawnRows
import Derived.StillTailTactics
import Derived.Deep.Cut
import Derived.Test.YtkghmgoefiepeaaGreatDoorQ0
import Derived.Test.YtkghmgoefiepeaaGreatDoorQ8
set_option linter.unusedSimpArgs false
set_option linter.unusedVariables false
set_option maxHeartbeats 4000000
set_option maxRecDepth 100000
namespace Go.Proofs.YtkghmgoefiepeaaGreatDoor.reads
open Go.ChangeShapes Go.WideShapes Go.ChangeAt Go.RowKit Kn
theorem Wst.al {w W:World}{b:Nat}{s:ByteArray}{j z u:Nat}{v0 v1 v2 v3 v4:Value} (h:Wst w W b s j z u v0 v1 v2 v3 v4):(W.cell? ⟨z,0,none⟩=some (.int .i64 0)∧W.cell? ⟨z,1,none⟩=some (.int .i64 0)∧W.cell? ⟨z,2,none⟩=some (.string ⟨#[]⟩)∧W.cell? ⟨z,3,none⟩=some (.string ⟨#[]⟩)∧W.cell? ⟨z,4,none⟩=some (.string ⟨#[]⟩)∧W.cell? ⟨z,5,none⟩=some (.pointer none)∧∀ k,W.frozen? ⟨z,k,none⟩=false)∧W.cell? ⟨u,0,none⟩=some v0∧W.cell? ⟨u,1,none⟩=some v1∧W.cell? ⟨u,2,none⟩=some v2∧W.cell? ⟨u,3,none⟩=some v3∧W.cell? ⟨u,4,none⟩=some v4∧W.cell? ⟨u,5,none⟩=some (.pointer none)∧∀ k,W.frozen? ⟨u,k,none⟩=false:=⟨h.hz.all,h.hu.all⟩
variable {w : World}
theorem st_two {b:Nat}{s:ByteArray}{i:Nat} (h:RdAt w b s i):Wst w ((w.alloc (.cells #[.int .i64 0,.int .i64 0,.string ⟨#[]⟩,.string ⟨#[]⟩,.string ⟨#[]⟩,.pointer none] 146)).alloc (.cells #[.int .i64 0,.int .i64 0,.string ⟨#[]⟩,.string ⟨#[]⟩,.string ⟨#[]⟩,.pointer none] 146)) b s i w.heap.size (w.heap.size+1) (.int .i64 0) (.int .i64 0) (.string ⟨#[]⟩) (.string ⟨#[]⟩) (.string ⟨#[]⟩) :=
 have e:(w.alloc (.cells #[.int .i64 0,.int .i64 0,.string ⟨#[]⟩,.string ⟨#[]⟩,.string ⟨#[]⟩,.pointer none] 146)).heap.size=w.heap.size+1:=World.size_alloc w _
 ⟨((RTo.refl h).alloc _).alloc _,(zat_new w _ _ _ _ _).alloc _,e ▸ zat_new (w.alloc (.cells #[.int .i64 0,.int .i64 0,.string ⟨#[]⟩,.string ⟨#[]⟩,.string ⟨#[]⟩,.pointer none] 146)) _ _ _ _ _,h.lt,Nat.le_refl _,Nat.lt_succ_self _⟩
theorem ZAt.drew {z:Nat}{v0 v1 v2 v3 v4:Value} (h:ZAt w z v0 v1 v2 v3 v4):ZAt w.drew z v0 v1 v2 v3 v4:=h
theorem Wst.drew {w W:World}{b:Nat}{s:ByteArray}{j z u:Nat}{v0 v1 v2 v3 v4:Value} (h:Wst w W b s j z u v0 v1 v2 v3 v4):Wst w W.drew b s j z u v0 v1 v2 v3 v4:=⟨h.to.drew,h.hz.drew,h.hu.drew,h.bz,h.zw,h.zu⟩
theorem Wst.below {w W W':World}{b:Nat}{s:ByteArray}{j z u:Nat}{v0 v1 v2 v3 v4:Value} (h:Wst w W b s j z u v0 v1 v2 v3 v4) (hb:Below W.heap.size W W'):Wst w W' b s j z u v0 v1 v2 v3 v4:=⟨h.to.below hb,h.hz.below hb,h.hu.below hb,h.bz,h.zw,h.zu⟩
theorem HasPlains.to {w W:World}{b:Nat}{s:ByteArray}{j:Nat} (h:HasPlains w) (t:RTo w W b s j) (hg:2 < b) (hb:b < w.heap.size):HasPlains W:=fun i v hv =>
 (World.cell?_of_block (w:=w) (t.grown.block 2 (by omega) (fun e=>by injection e with e;omega)):W.cell? ⟨2,i,none⟩=w.cell? ⟨2,i,none⟩).trans (h i v hv)
theorem HasHeads.to {w W:World}{b:Nat}{s:ByteArray}{j:Nat} (h:HasHeads w) (t:RTo w W b s j) (hg:1 < b) (hb:b < w.heap.size):HasHeads W:=fun i v hv =>
 (World.cell?_of_block (w:=w) (t.grown.block 1 (by omega) (fun e=>by injection e with e;omega)):W.cell? ⟨1,i,none⟩=w.cell? ⟨1,i,none⟩).trans (h i v hv)
theorem ext_le {s:ByteArray} (hs:s.size≤140737488355328) (a b:Nat):(s.extract a b).size≤140737488355328:=by rw [ByteArray.size_extract];omega
theorem plain_one {s:ByteArray}{i kk:Nat} (hlt:i < s.size) {c:UInt8} (hc:s[i].toNat=c.toNat) (hk:plainK [c]=kk):plainK (bl (s.extract i (i+1)))=kk:=by
 rw [← hk]
 congr 1
 rw [ex_mid,bl_ofL,take_snoc s i hlt,List.drop_append_of_le_length (by rw [List.length_take,bl_length];omega),List.drop_eq_nil_of_le (by rw [List.length_take,bl_length];omega),UInt8.toNat_inj.1 hc]
 rfl
theorem encK_agg (o:Option (W×Nat)):∃ (k0 n0:Int) (t2 t3 t4:ByteArray),encK o=.agg #[.int .i64 k0,.int .i64 n0,.string t2,.string t3,.string t4,.pointer none]:=by
 rcases o with _ | ⟨x,n⟩
 · exact ⟨_,_,_,_,_,rfl⟩
 · exact ⟨_,_,_,_,_,rfl⟩
def negW (q:W×Nat):W×Nat:=(⟨110,-q.1.n,[],[],[]⟩,q.2)
theorem got_neg {o:Option (W×Nat)}{i j:Nat} (h:∀ x n,o=some (x,n)→j=i+n):∀ x n,o.map negW=some (x,n)→j=i+n:=by
 intro x n hx
 rcases o with _ | ⟨y,m⟩
 · cases hx
 · simp only [Option.map_some,Option.some.injEq,negW,Prod.mk.injEq] at hx
   rw [← hx.2];exact h y m rfl
theorem encK_num {p:UInt8→Bool}{m a:Nat}{r:List UInt8}{o:Option (W×Nat)} (hp:∀ c,p c=true→isDig c=true) (hm:m≤4) (ho:kNum 110 p m a r=o) :
 ∃ (k0 n:Int) (t2 t3 t4:ByteArray),encK o=.agg #[.int .i64 k0,.int .i64 n,.string t2,.string t3,.string t4,.pointer none]∧0≤n∧n < 10000∧encK (o.map negW)=.agg #[.int .i64 k0,.int .i64 (-n),.string t2,.string t3,.string t4,.pointer none]:=by
 subst ho
 unfold kNum
 split
 · exact ⟨_,0,_,_,_,rfl,by omega,by omega,rfl⟩
 · have hb:=numOf_lt (spanL p m r) 4 (Nat.le_trans (spanL_le _ _ _) hm) (List.all_eq_true.2 (fun c hc=>hp c (spanL_all _ _ _ c hc)))
   exact ⟨_,(numOf (spanL p m r):Nat),_,_,_,rfl,by omega,by omega,rfl⟩
theorem numbered_c (b:Nat) (s:ByteArray) (i i0 a k kk hi m:Nat) (p:UInt8→Bool) (o:Option (W×Nat)) (w:World) (hs:s.size≤140737488355328) (hi':i≤s.size) (ha:i=i0+a) (hm:m≤4) (hp:inR 48 hi=p) (hkk:kindOf k=kk)
 (hpd:∀ c,p c=true→isDig c=true) {v:Value} (ho:kNum k p m a ((bl s).drop i)=o) (hv:encK o=v) (h:RdAt w b s i) :
 Calls Tryz.prog 108 #[.pointer (some ⟨b,0,none⟩),.int .i64 kk,.int .u8 hi,.int .i64 m] w fun e w'=>e=.returned v∧Got w w' b s i0 o:=by
 rw [← hv,← ho];exact numbered_any b s i i0 a k kk hi m p w hs hi' ha hm hp hkk hpd h
theorem send_c (b:Nat) (s:ByteArray) (i i0 a k kk:Nat) (o:Option (W×Nat)) (w:World) (hs:s.size≤140737488355328) (hi':i≤s.size) (ha:i=i0+a) (hkk:kindOf k=kk) {v:Value} (ho:kSend k a ((bl s).drop i)=o) (hv:encK o=v) (h:RdAt w b s i) :
 Calls Tryz.prog 107 #[.pointer (some ⟨b,0,none⟩),.int .i64 kk] w fun e w'=>e=.returned v∧Got w w' b s i0 o:=by
 rw [← hv,← ho];exact send_any b s i i0 a k kk w hs hi' ha hkk h
theorem classWord_c (b:Nat) (s:ByteArray) (i i0 a k kk:Nat) (o:Option (W×Nat)) (w:World) (hs:s.size≤140737488355328) (hi':i≤s.size) (ha:i=i0+a)
 (hk:(k=119∧kk=17)∨(k=98∧kk=18)∨(k=120∧kk=19)∨(k=118∧kk=20)∨(k=99∧kk=21)∨(k=0∧kk=0)) {v:Value} (ho:kClass k a ((bl s).drop i)=o) (hv:encK o=v) (h:RdAt w b s i) :
 Calls Tryz.prog 109 #[.pointer (some ⟨b,0,none⟩),.int .i64 kk] w fun e w'=>e=.returned v∧Got w w' b s i0 o:=by
 rw [← hv,← ho];exact classWord_any b s i i0 a k kk w hs hi' ha hk h
theorem head_kinds (l:List UInt8):(kHead l=119∧headK l=17)∨(kHead l=98∧headK l=18)∨(kHead l=120∧headK l=19)∨(kHead l=118∧headK l=20)∨(kHead l=99∧headK l=21)∨(kHead l=0∧headK l=0):=by
 unfold kHead headK
 by_cases h1:l=[110,101,119]
 · simp [h1]
 · by_cases h2:l=[98,101]
   · simp [h2]
   · by_cases h3:l=[100,114,111,112]
     · simp [h3]
     · by_cases h4:l=[109,111,118,101]
       · simp [h4]
       · by_cases h5:l=[99,111,112,121]
         · simp [h5]
         · simp [h1,h2,h3,h4,h5]
theorem span_ok {s:ByteArray}{i:Nat}{lt:List UInt8} (hl:spanL isSmall 6 ((bl s).drop i)=lt) (hne:lt≠[]):i+lt.length≤s.size:=by
 have h:=span_le_size s isSmall 6 i
 rw [hl] at h
 have:0 < lt.length:=List.length_pos_iff.2 hne
 omega
theorem span_sz {s:ByteArray} (hs:s.size≤140737488355328) {i:Nat}{lt:List UInt8} (hl:spanL isSmall 6 ((bl s).drop i)=lt):(ofL lt).size≤140737488355328:=by
 rw [← bl_length,bl_ofL,← hl]
 exact Nat.le_trans (spanL_le _ _ _) (by omega)
theorem plain_lt {s:ByteArray}{i kk:Nat}{lt:List UInt8} (hl:spanL isSmall 6 ((bl s).drop i)=lt) (hk:plainK lt=kk):plainK (bl (s.extract i (i+lt.length)))=kk:=by
 rw [← hk]
 congr 1
 obtain ⟨t,ht⟩:=spanL_pre isSmall 6 ((bl s).drop i)
 rw [hl] at ht
 rw [ex_mid,bl_ofL,List.drop_take,ht,show i+lt.length - i=lt.length from by omega,List.take_left' rfl]
theorem d2_dig (c:UInt8) (h:isD2 c=true):isDig c=true:=by simp [isD2] at h;simp [isDig];omega
theorem Wst.setU {w W:World}{b:Nat}{s:ByteArray}{j z u:Nat}{v0 v1 v2 v3 v4:Value} (h:Wst w W b s j z u v0 v1 v2 v3 v4) (y0 y1 y2 y3 y4:Value) :
 Wst w ((((((W.setCell ⟨u,0,none⟩ y0).setCell ⟨u,1,none⟩ y1).setCell ⟨u,2,none⟩ y2).setCell ⟨u,3,none⟩ y3).setCell ⟨u,4,none⟩ y4).setCell ⟨u,5,none⟩ (.pointer none)) b s j z u y0 y1 y2 y3 y4 :=
 have hne:z≠u:=by have:=h.zu;omega
 ⟨h.to.set5 h.bz (Nat.le_trans h.zw (Nat.le_of_lt h.zu)) _ _ _ _ _,((((((h.hz.setNe hne _).setNe hne _).setNe hne _).setNe hne _).setNe hne _).setNe hne _),h.hu.set5 _ _ _ _ _,h.bz,h.zw,h.zu⟩
theorem Wst.set1 {w W:World}{b:Nat}{s:ByteArray}{j z u:Nat}{v0 v1 v2 v3 v4:Value} (h:Wst w W b s j z u v0 v1 v2 v3 v4) (v:Value):Wst w (W.setCell ⟨u,1,none⟩ v) b s j z u v0 v v2 v3 v4 :=
 ⟨h.to.setNew h.bz (Nat.le_trans h.zw (Nat.le_of_lt h.zu)) v,h.hz.setNe (by have:=h.zu;omega) v,h.hu.set1 v,h.bz,h.zw,h.zu⟩
theorem Wst.rset {w W:World}{b:Nat}{s:ByteArray}{j z u:Nat}{v0 v1 v2 v3 v4:Value} (h:Wst w W b s j z u v0 v1 v2 v3 v4) (k:Nat):Wst w (W.setCell ⟨b,1,none⟩ (.int .i64 k)) b s k z u v0 v1 v2 v3 v4 :=
 ⟨h.to.set k,h.hz.setNe (by have:=h.bz;have:=h.zw;omega) _,h.hu.setNe (by have:=h.bz;have:=h.zw;have:=h.zu;omega) _,h.bz,h.zw,h.zu⟩
theorem word_plus (b:Nat) (s:ByteArray) (i:Nat) (w:World) (hs:s.size≤140737488355328) (hlt:i < s.size) (hg1:2 < b) (hg2:1 < b) (hT1:HasPlains w) (hT2:HasHeads w) (hc:s[i].toNat=43) (h:RdAt w b s i) :
 Calls Tryz.prog 76 #[.pointer (some ⟨b,0,none⟩)] w fun e w'=>e=.returned (.agg #[.int .i64 6,.int .i64 0,.string ⟨#[]⟩,.string ⟨#[]⟩,.string ⟨#[]⟩,.pointer none])∧RTo w w' b s (i+1):=by
 have hbw:=h.lt
 have hbz:b≠w.heap.size:=by omega
 have hzb:w.heap.size≠b:=by omega
 have c1:=((h.alloc (.cells #[.int .i64 0,.int .i64 0,.string ⟨#[]⟩,.string ⟨#[]⟩,.string ⟨#[]⟩,.pointer none] 146)).alloc (.cells #[.int .i64 0,.int .i64 0,.string ⟨#[]⟩,.string ⟨#[]⟩,.string ⟨#[]⟩,.pointer none] 146)).c1
 have HS0:Hid _:=st_two h
 have P1:Hid (HasPlains w):=hT1
 have P2:Hid (HasHeads w):=hT2
 clear hT1 hT2 h
 have HC:Hid _:=hc
 have HPK:Hid (plainK (bl (s.extract i (i+1)))=6):=plain_one hlt (c:=43) hc rfl
 have HSZ:Hid ((s.extract i (i+1)).size≤140737488355328):=ext_le hs _ _
 clear hc
 go_enter Tryz.func76,Tryz.ntmps76
 go_wp2
 refine wp_scope_walk 3 fun G HR HG=>?_
 go_wp2_with fail
 refine (take_no b s (i) 45 _ hs (by omega) (fun _=>by have:=HC.out;omega) HS0.out.to.rd).mono ?_
 rintro e w1 ⟨rfl,hto⟩
 have HS1:Hid _:=HS0.out.call hto
 clear hto
 have q:=HS1.out.al
 go_wp2_with fail
 refine (take_no b s (i) 61 _ hs (by omega) (fun _=>by have:=HC.out;omega) HS1.out.to.rd).mono ?_
 rintro e w2 ⟨rfl,hto⟩
 have HS2:Hid _:=HS1.out.call hto
 clear q
 clear hto
 have q:=HS2.out.al
 go_wp2_with fail
 refine (take_no b s (i) 94 _ hs (by omega) (fun _=>by have:=HC.out;omega) HS2.out.to.rd).mono ?_
 rintro e w3 ⟨rfl,hto⟩
 have HS3:Hid _:=HS2.out.call hto
 clear q
 clear hto
 have q:=HS3.out.al
 go_wp2_with fail
 refine (take_no b s (i) 62 _ hs (by omega) (fun _=>by have:=HC.out;omega) HS3.out.to.rd).mono ?_
 rintro e w4 ⟨rfl,hto⟩
 have HS4:Hid _:=HS3.out.call hto
 clear q
 clear hto
 have q:=HS4.out.al
 go_wp2_with fail
 refine (take_no b s (i) 63 _ hs (by omega) (fun _=>by have:=HC.out;omega) HS4.out.to.rd).mono ?_
 rintro e w5 ⟨rfl,hto⟩
 have HS5:Hid _:=HS4.out.call hto
 clear q
 clear hto
 have q:=HS5.out.al
 go_wp2_with fail
 refine (take_yes b s (i) 43 _ hs hlt HC.out HS5.out.to.rd).mono ?_
 rintro e w6 ⟨rfl,hto⟩
 have HS6:Hid _:=HS5.out.call hto
 clear q
 clear hto
 have q:=HS6.out.al
 go_wp2
 go_step3
 simp only [Exit.then,Exit.inBlock]
 refine HG.out _ _ _ _ _ rfl ?_
 go_wp2
 have d0:=HS6.out.to.rd.c0
 have d1:=HS6.out.to.rd.c1
 have hq1:(0:Int)≤(i:Int):=by omega
 have hq2:(i:Int)≤(i:Int)+1:=by omega
 have hq3:(i:Int)+1≤s.size:=by omega
 refine wp_region_noPanic ?_
 refine wp_region_held_drew (S:=(fun w'=>w'.cell? ⟨b,0,none⟩=some (.string s)∧w'.cell? ⟨b,1,none⟩=some (.int .i64 ((i+1:Nat):Int)))) (by kernel_rfl) (by go_keep) (fun hHeld=>?_)
 refine tkH 0 ?_
 refine tkH 1 ?_
 refine tkH 2 ?_
 refine tkH 3 ?_
 refine tkH 4 ?_
 refine tkH 5 ?_
 refine tkH 6 ?_
 refine tkH 7 ?_
 refine tkH 8 ?_
 refine tkL 9 ?_
 refine rdH 10 fun Kmac hKmac=>?_
 go_simp
 refine (plainKind_any (s.extract i (i+1)) _ HSZ.out (P1.out.to (HS6.out).drew.to hg1 hbw)).mono ?_;rintro e w7 ⟨rfl,hb⟩;rw [HPK.out];have HS7:Hid _:=(HS6.out).drew.below hb;clear q;clear d0 d1 hb;have z0:=HS7.out.hz.c0;have z1:=HS7.out.hz.c1;have z2:=HS7.out.hz.c2;have z3:=HS7.out.hz.c3;have z4:=HS7.out.hz.c4;have z5:=HS7.out.hz.c5;have zf:=HS7.out.hz.f;have u0:=HS7.out.hu.c0;have u1:=HS7.out.hu.c1;have u2:=HS7.out.hu.c2;have u3:=HS7.out.hu.c3;have u4:=HS7.out.hu.c4;have u5:=HS7.out.hu.c5;have uf:=HS7.out.hu.f;have d0:=HS7.out.to.rd.c0;have d1:=HS7.out.to.rd.c1
 try go_wp2_with fail
 refine hKmac.go fun hHeld=>?_
 clear hKmac Kmac
 try refine lyH ?_
 refine tkL 11 ?_
 refine rdH 12 fun Kmac hKmac=>?_
 go_simp
 refine hKmac.go fun hHeld=>?_
 clear hKmac Kmac
 try refine lyH ?_
 refine wpAnyH_done (by kernel_rfl) ?_ _
 refine NoPanic.normal ?_
 go_wp2
 refine HR.out _ _ _ ?_
 refine bodyPost_ret (results_word Tryz.results76 _ _ _ _ _ rfl (HS7.out.hz.set5 _ _ _ _ _)) rfl ?_
 exact ⟨rfl,HS7.out.to.set5 hbw (Nat.le_refl _) _ _ _ _ _⟩
theorem word_star (b:Nat) (s:ByteArray) (i:Nat) (w:World) (hs:s.size≤140737488355328) (hlt:i < s.size) (hg1:2 < b) (hg2:1 < b) (hT1:HasPlains w) (hT2:HasHeads w) (hc:s[i].toNat=42) (h:RdAt w b s i) :
 Calls Tryz.prog 76 #[.pointer (some ⟨b,0,none⟩)] w fun e w'=>e=.returned (.agg #[.int .i64 8,.int .i64 0,.string ⟨#[]⟩,.string ⟨#[]⟩,.string ⟨#[]⟩,.pointer none])∧RTo w w' b s (i+1):=by
 have hbw:=h.lt
 have hbz:b≠w.heap.size:=by omega
 have hzb:w.heap.size≠b:=by omega
 have c1:=((h.alloc (.cells #[.int .i64 0,.int .i64 0,.string ⟨#[]⟩,.string ⟨#[]⟩,.string ⟨#[]⟩,.pointer none] 146)).alloc (.cells #[.int .i64 0,.int .i64 0,.string ⟨#[]⟩,.string ⟨#[]⟩,.string ⟨#[]⟩,.pointer none] 146)).c1
 have HS0:Hid _:=st_two h
 have P1:Hid (HasPlains w):=hT1
 have P2:Hid (HasHeads w):=hT2
 clear hT1 hT2 h
 have HC:Hid _:=hc
 have HPK:Hid (plainK (bl (s.extract i (i+1)))=8):=plain_one hlt (c:=42) hc rfl
 have HSZ:Hid ((s.extract i (i+1)).size≤140737488355328):=ext_le hs _ _
 clear hc
 go_enter Tryz.func76,Tryz.ntmps76
 go_wp2
 refine wp_scope_walk 3 fun G HR HG=>?_
 go_wp2_with fail
 refine (take_no b s (i) 45 _ hs (by omega) (fun _=>by have:=HC.out;omega) HS0.out.to.rd).mono ?_
 rintro e w1 ⟨rfl,hto⟩
 have HS1:Hid _:=HS0.out.call hto
 clear hto
 have q:=HS1.out.al
 go_wp2_with fail
 refine (take_no b s (i) 61 _ hs (by omega) (fun _=>by have:=HC.out;omega) HS1.out.to.rd).mono ?_
 rintro e w2 ⟨rfl,hto⟩
 have HS2:Hid _:=HS1.out.call hto
 clear q
 clear hto
 have q:=HS2.out.al
 go_wp2_with fail
 refine (take_no b s (i) 94 _ hs (by omega) (fun _=>by have:=HC.out;omega) HS2.out.to.rd).mono ?_
 rintro e w3 ⟨rfl,hto⟩
 have HS3:Hid _:=HS2.out.call hto
 clear q
 clear hto
 have q:=HS3.out.al
 go_wp2_with fail
 refine (take_no b s (i) 62 _ hs (by omega) (fun _=>by have:=HC.out;omega) HS3.out.to.rd).mono ?_
 rintro e w4 ⟨rfl,hto⟩
 have HS4:Hid _:=HS3.out.call hto
 clear q
 clear hto
 have q:=HS4.out.al
 go_wp2_with fail
 refine (take_no b s (i) 63 _ hs (by omega) (fun _=>by have:=HC.out;omega) HS4.out.to.rd).mono ?_
 rintro e w5 ⟨rfl,hto⟩
 have HS5:Hid _:=HS4.out.call hto
 clear q
 clear hto
 have q:=HS5.out.al
 go_wp2_with fail
 refine (take_no b s (i) 43 _ hs (by omega) (fun _=>by have:=HC.out;omega) HS5.out.to.rd).mono ?_
 rintro e w6 ⟨rfl,hto⟩
 have HS6:Hid _:=HS5.out.call hto
 clear q
 clear hto
 have q:=HS6.out.al
 go_wp2_with fail
 refine (take_yes b s (i) 42 _ hs hlt HC.out HS6.out.to.rd).mono ?_
 rintro e w7 ⟨rfl,hto⟩
 have HS7:Hid _:=HS6.out.call hto
 clear q
 clear hto
 have q:=HS7.out.al
 go_wp2
 go_step3
 simp only [Exit.then,Exit.inBlock]
 refine HG.out _ _ _ _ _ rfl ?_
 go_wp2
 have d0:=HS7.out.to.rd.c0
 have d1:=HS7.out.to.rd.c1
 have hq1:(0:Int)≤(i:Int):=by omega
 have hq2:(i:Int)≤(i:Int)+1:=by omega
 have hq3:(i:Int)+1≤s.size:=by omega
 refine wp_region_noPanic ?_
 refine wp_region_held_drew (S:=(fun w'=>w'.cell? ⟨b,0,none⟩=some (.string s)∧w'.cell? ⟨b,1,none⟩=some (.int .i64 ((i+1:Nat):Int)))) (by kernel_rfl) (by go_keep) (fun hHeld=>?_)
 refine tkH 0 ?_
 refine tkH 1 ?_
 refine tkH 2 ?_
 refine tkH 3 ?_
 refine tkH 4 ?_
 refine tkH 5 ?_
 refine tkH 6 ?_
 refine tkH 7 ?_
 refine tkH 8 ?_
 refine tkL 9 ?_
 refine rdH 10 fun Kmac hKmac=>?_
 go_simp
 refine (plainKind_any (s.extract i (i+1)) _ HSZ.out (P1.out.to (HS7.out).drew.to hg1 hbw)).mono ?_;rintro e w8 ⟨rfl,hb⟩;rw [HPK.out];have HS8:Hid _:=(HS7.out).drew.below hb;clear q;clear d0 d1 hb;have z0:=HS8.out.hz.c0;have z1:=HS8.out.hz.c1;have z2:=HS8.out.hz.c2;have z3:=HS8.out.hz.c3;have z4:=HS8.out.hz.c4;have z5:=HS8.out.hz.c5;have zf:=HS8.out.hz.f;have u0:=HS8.out.hu.c0;have u1:=HS8.out.hu.c1;have u2:=HS8.out.hu.c2;have u3:=HS8.out.hu.c3;have u4:=HS8.out.hu.c4;have u5:=HS8.out.hu.c5;have uf:=HS8.out.hu.f;have d0:=HS8.out.to.rd.c0;have d1:=HS8.out.to.rd.c1
 try go_wp2_with fail
 refine hKmac.go fun hHeld=>?_
 clear hKmac Kmac
 try refine lyH ?_
 refine tkL 11 ?_
 refine rdH 12 fun Kmac hKmac=>?_
 go_simp
 refine hKmac.go fun hHeld=>?_
 clear hKmac Kmac
 try refine lyH ?_
 refine wpAnyH_done (by kernel_rfl) ?_ _
 refine NoPanic.normal ?_
 go_wp2
 refine HR.out _ _ _ ?_
 refine bodyPost_ret (results_word Tryz.results76 _ _ _ _ _ rfl (HS8.out.hz.set5 _ _ _ _ _)) rfl ?_
 exact ⟨rfl,HS8.out.to.set5 hbw (Nat.le_refl _) _ _ _ _ _⟩
theorem word_less (b:Nat) (s:ByteArray) (i:Nat) (w:World) (hs:s.size≤140737488355328) (hlt:i < s.size) (hg1:2 < b) (hg2:1 < b) (hT1:HasPlains w) (hT2:HasHeads w) (hc:s[i].toNat=60) (h:RdAt w b s i) :
 Calls Tryz.prog 76 #[.pointer (some ⟨b,0,none⟩)] w fun e w'=>e=.returned (.agg #[.int .i64 9,.int .i64 0,.string ⟨#[]⟩,.string ⟨#[]⟩,.string ⟨#[]⟩,.pointer none])∧RTo w w' b s (i+1):=by
 have hbw:=h.lt
 have hbz:b≠w.heap.size:=by omega
 have hzb:w.heap.size≠b:=by omega
 have c1:=((h.alloc (.cells #[.int .i64 0,.int .i64 0,.string ⟨#[]⟩,.string ⟨#[]⟩,.string ⟨#[]⟩,.pointer none] 146)).alloc (.cells #[.int .i64 0,.int .i64 0,.string ⟨#[]⟩,.string ⟨#[]⟩,.string ⟨#[]⟩,.pointer none] 146)).c1
 have HS0:Hid _:=st_two h
 have P1:Hid (HasPlains w):=hT1
 have P2:Hid (HasHeads w):=hT2
 clear hT1 hT2 h
 have HC:Hid _:=hc
 have HPK:Hid (plainK (bl (s.extract i (i+1)))=9):=plain_one hlt (c:=60) hc rfl
 have HSZ:Hid ((s.extract i (i+1)).size≤140737488355328):=ext_le hs _ _
 clear hc
 go_enter Tryz.func76,Tryz.ntmps76
 go_wp2
 refine wp_scope_walk 3 fun G HR HG=>?_
 go_wp2_with fail
 refine (take_no b s (i) 45 _ hs (by omega) (fun _=>by have:=HC.out;omega) HS0.out.to.rd).mono ?_
 rintro e w1 ⟨rfl,hto⟩
 have HS1:Hid _:=HS0.out.call hto
 clear hto
 have q:=HS1.out.al
 go_wp2_with fail
 refine (take_no b s (i) 61 _ hs (by omega) (fun _=>by have:=HC.out;omega) HS1.out.to.rd).mono ?_
 rintro e w2 ⟨rfl,hto⟩
 have HS2:Hid _:=HS1.out.call hto
 clear q
 clear hto
 have q:=HS2.out.al
 go_wp2_with fail
 refine (take_no b s (i) 94 _ hs (by omega) (fun _=>by have:=HC.out;omega) HS2.out.to.rd).mono ?_
 rintro e w3 ⟨rfl,hto⟩
 have HS3:Hid _:=HS2.out.call hto
 clear q
 clear hto
 have q:=HS3.out.al
 go_wp2_with fail
 refine (take_no b s (i) 62 _ hs (by omega) (fun _=>by have:=HC.out;omega) HS3.out.to.rd).mono ?_
 rintro e w4 ⟨rfl,hto⟩
 have HS4:Hid _:=HS3.out.call hto
 clear q
 clear hto
 have q:=HS4.out.al
 go_wp2_with fail
 refine (take_no b s (i) 63 _ hs (by omega) (fun _=>by have:=HC.out;omega) HS4.out.to.rd).mono ?_
 rintro e w5 ⟨rfl,hto⟩
 have HS5:Hid _:=HS4.out.call hto
 clear q
 clear hto
 have q:=HS5.out.al
 go_wp2_with fail
 refine (take_no b s (i) 43 _ hs (by omega) (fun _=>by have:=HC.out;omega) HS5.out.to.rd).mono ?_
 rintro e w6 ⟨rfl,hto⟩
 have HS6:Hid _:=HS5.out.call hto
 clear q
 clear hto
 have q:=HS6.out.al
 go_wp2_with fail
 refine (take_no b s (i) 42 _ hs (by omega) (fun _=>by have:=HC.out;omega) HS6.out.to.rd).mono ?_
 rintro e w7 ⟨rfl,hto⟩
 have HS7:Hid _:=HS6.out.call hto
 clear q
 clear hto
 have q:=HS7.out.al
 go_wp2_with fail
 refine (take_yes b s (i) 60 _ hs hlt HC.out HS7.out.to.rd).mono ?_
 rintro e w8 ⟨rfl,hto⟩
 have HS8:Hid _:=HS7.out.call hto
 clear q
 clear hto
 have q:=HS8.out.al
 go_wp2
 go_step3
 simp only [Exit.then,Exit.inBlock]
 refine HG.out _ _ _ _ _ rfl ?_
 go_wp2
 have d0:=HS8.out.to.rd.c0
 have d1:=HS8.out.to.rd.c1
 have hq1:(0:Int)≤(i:Int):=by omega
 have hq2:(i:Int)≤(i:Int)+1:=by omega
 have hq3:(i:Int)+1≤s.size:=by omega
 refine wp_region_noPanic ?_
 refine wp_region_held_drew (S:=(fun w'=>w'.cell? ⟨b,0,none⟩=some (.string s)∧w'.cell? ⟨b,1,none⟩=some (.int .i64 ((i+1:Nat):Int)))) (by kernel_rfl) (by go_keep) (fun hHeld=>?_)
 refine tkH 0 ?_
 refine tkH 1 ?_
 refine tkH 2 ?_
 refine tkH 3 ?_
 refine tkH 4 ?_
 refine tkH 5 ?_
 refine tkH 6 ?_
 refine tkH 7 ?_
 refine tkH 8 ?_
 refine tkL 9 ?_
 refine rdH 10 fun Kmac hKmac=>?_
 go_simp
 refine (plainKind_any (s.extract i (i+1)) _ HSZ.out (P1.out.to (HS8.out).drew.to hg1 hbw)).mono ?_;rintro e w9 ⟨rfl,hb⟩;rw [HPK.out];have HS9:Hid _:=(HS8.out).drew.below hb;clear q;clear d0 d1 hb;have z0:=HS9.out.hz.c0;have z1:=HS9.out.hz.c1;have z2:=HS9.out.hz.c2;have z3:=HS9.out.hz.c3;have z4:=HS9.out.hz.c4;have z5:=HS9.out.hz.c5;have zf:=HS9.out.hz.f;have u0:=HS9.out.hu.c0;have u1:=HS9.out.hu.c1;have u2:=HS9.out.hu.c2;have u3:=HS9.out.hu.c3;have u4:=HS9.out.hu.c4;have u5:=HS9.out.hu.c5;have uf:=HS9.out.hu.f;have d0:=HS9.out.to.rd.c0;have d1:=HS9.out.to.rd.c1
 try go_wp2_with fail
 refine hKmac.go fun hHeld=>?_
 clear hKmac Kmac
 try refine lyH ?_
 refine tkL 11 ?_
 refine rdH 12 fun Kmac hKmac=>?_
 go_simp
 refine hKmac.go fun hHeld=>?_
 clear hKmac Kmac
 try refine lyH ?_
 refine wpAnyH_done (by kernel_rfl) ?_ _
 refine NoPanic.normal ?_
 go_wp2
 refine HR.out _ _ _ ?_
 refine bodyPost_ret (results_word Tryz.results76 _ _ _ _ _ rfl (HS9.out.hz.set5 _ _ _ _ _)) rfl ?_
 exact ⟨rfl,HS9.out.to.set5 hbw (Nat.le_refl _) _ _ _ _ _⟩
theorem word_equals (b:Nat) (s:ByteArray) (i:Nat) (w:World) (hs:s.size≤140737488355328) (hlt:i < s.size) (hg1:2 < b) (hg2:1 < b) (hT1:HasPlains w) (hT2:HasHeads w) (hc:s[i].toNat=61) (hn:∀ hlt:i+1 < s.size,s[i+1].toNat≠115) (h:RdAt w b s i) :
 Calls Tryz.prog 76 #[.pointer (some ⟨b,0,none⟩)] w fun e w'=>e=.returned (.agg #[.int .i64 10,.int .i64 0,.string ⟨#[]⟩,.string ⟨#[]⟩,.string ⟨#[]⟩,.pointer none])∧RTo w w' b s (i+1):=by
 have hbw:=h.lt
 have hbz:b≠w.heap.size:=by omega
 have hzb:w.heap.size≠b:=by omega
 have c1:=((h.alloc (.cells #[.int .i64 0,.int .i64 0,.string ⟨#[]⟩,.string ⟨#[]⟩,.string ⟨#[]⟩,.pointer none] 146)).alloc (.cells #[.int .i64 0,.int .i64 0,.string ⟨#[]⟩,.string ⟨#[]⟩,.string ⟨#[]⟩,.pointer none] 146)).c1
 have HS0:Hid _:=st_two h
 have P1:Hid (HasPlains w):=hT1
 have P2:Hid (HasHeads w):=hT2
 clear hT1 hT2 h
 have HC:Hid _:=hc
 have HPK:Hid (plainK (bl (s.extract i (i+1)))=10):=plain_one hlt (c:=61) hc rfl
 have HSZ:Hid ((s.extract i (i+1)).size≤140737488355328):=ext_le hs _ _
 clear hc
 have HN:Hid _:=hn
 clear hn
 go_enter Tryz.func76,Tryz.ntmps76
 go_wp2
 refine wp_scope_walk 3 fun G HR HG=>?_
 go_wp2_with fail
 refine (take_no b s (i) 45 _ hs (by omega) (fun _=>by have:=HC.out;omega) HS0.out.to.rd).mono ?_
 rintro e w1 ⟨rfl,hto⟩
 have HS1:Hid _:=HS0.out.call hto
 clear hto
 have q:=HS1.out.al
 go_wp2_with fail
 refine (take_yes b s (i) 61 _ hs hlt HC.out HS1.out.to.rd).mono ?_
 rintro e w2 ⟨rfl,hto⟩
 have HS2:Hid _:=HS1.out.call hto
 clear q
 clear hto
 have q:=HS2.out.al
 go_wp2
 go_step3
 simp only [Exit.then,Exit.inBlock]
 refine HG.out _ _ _ _ _ rfl ?_
 go_wp2_with fail
 refine (take_no b s (i+1) 115 _ hs (by omega) HN.out HS2.out.to.rd).mono ?_
 rintro e w3 ⟨rfl,hto⟩
 have HS3:Hid _:=HS2.out.call hto
 clear q
 clear hto
 have q:=HS3.out.al
 go_wp2
 go_step3
 simp only [Exit.then,Exit.inBlock]
 refine HG.out _ _ _ _ _ rfl ?_
 go_wp2
 have d0:=HS3.out.to.rd.c0
 have d1:=HS3.out.to.rd.c1
 have hq1:(0:Int)≤(i:Int):=by omega
 have hq2:(i:Int)≤(i:Int)+1:=by omega
 have hq3:(i:Int)+1≤s.size:=by omega
 refine wp_region_noPanic ?_
 refine wp_region_held_drew (S:=(fun w'=>w'.cell? ⟨b,0,none⟩=some (.string s)∧w'.cell? ⟨b,1,none⟩=some (.int .i64 ((i+1:Nat):Int)))) (by kernel_rfl) (by go_keep) (fun hHeld=>?_)
 refine tkH 0 ?_
 refine tkH 1 ?_
 refine tkH 2 ?_
 refine tkH 3 ?_
 refine tkH 4 ?_
 refine tkH 5 ?_
 refine tkH 6 ?_
 refine tkH 7 ?_
 refine tkH 8 ?_
 refine tkL 9 ?_
 refine rdH 10 fun Kmac hKmac=>?_
 go_simp
 refine (plainKind_any (s.extract i (i+1)) _ HSZ.out (P1.out.to (HS3.out).drew.to hg1 hbw)).mono ?_;rintro e w4 ⟨rfl,hb⟩;rw [HPK.out];have HS4:Hid _:=(HS3.out).drew.below hb;clear q;clear d0 d1 hb;have z0:=HS4.out.hz.c0;have z1:=HS4.out.hz.c1;have z2:=HS4.out.hz.c2;have z3:=HS4.out.hz.c3;have z4:=HS4.out.hz.c4;have z5:=HS4.out.hz.c5;have zf:=HS4.out.hz.f;have u0:=HS4.out.hu.c0;have u1:=HS4.out.hu.c1;have u2:=HS4.out.hu.c2;have u3:=HS4.out.hu.c3;have u4:=HS4.out.hu.c4;have u5:=HS4.out.hu.c5;have uf:=HS4.out.hu.f;have d0:=HS4.out.to.rd.c0;have d1:=HS4.out.to.rd.c1
 try go_wp2_with fail
 refine hKmac.go fun hHeld=>?_
 clear hKmac Kmac
 try refine lyH ?_
 refine tkL 11 ?_
 refine rdH 12 fun Kmac hKmac=>?_
 go_simp
 refine hKmac.go fun hHeld=>?_
 clear hKmac Kmac
 try refine lyH ?_
 refine wpAnyH_done (by kernel_rfl) ?_ _
 refine NoPanic.normal ?_
 go_wp2
 refine HR.out _ _ _ ?_
 refine bodyPost_ret (results_word Tryz.results76 _ _ _ _ _ rfl (HS4.out.hz.set5 _ _ _ _ _)) rfl ?_
 exact ⟨rfl,HS4.out.to.set5 hbw (Nat.le_refl _) _ _ _ _ _⟩
theorem word_minus (b:Nat) (s:ByteArray) (i:Nat) (w:World) (hs:s.size≤140737488355328) (hlt:i < s.size) (hg1:2 < b) (hg2:1 < b) (hT1:HasPlains w) (hT2:HasHeads w) (hc:s[i].toNat=45) (he:atEndB (bl s) (i+1)=true) (h:RdAt w b s i) :
 Calls Tryz.prog 76 #[.pointer (some ⟨b,0,none⟩)] w fun e w'=>e=.returned (.agg #[.int .i64 7,.int .i64 0,.string ⟨#[]⟩,.string ⟨#[]⟩,.string ⟨#[]⟩,.pointer none])∧RTo w w' b s (i+1):=by
 have hbw:=h.lt
 have hbz:b≠w.heap.size:=by omega
 have hzb:w.heap.size≠b:=by omega
 have c1:=((h.alloc (.cells #[.int .i64 0,.int .i64 0,.string ⟨#[]⟩,.string ⟨#[]⟩,.string ⟨#[]⟩,.pointer none] 146)).alloc (.cells #[.int .i64 0,.int .i64 0,.string ⟨#[]⟩,.string ⟨#[]⟩,.string ⟨#[]⟩,.pointer none] 146)).c1
 have HS0:Hid _:=st_two h
 have P1:Hid (HasPlains w):=hT1
 have P2:Hid (HasHeads w):=hT2
 clear hT1 hT2 h
 have HC:Hid _:=hc
 have HPK:Hid (plainK (bl (s.extract i (i+1)))=7):=plain_one hlt (c:=45) hc rfl
 have HSZ:Hid ((s.extract i (i+1)).size≤140737488355328):=ext_le hs _ _
 clear hc
 have HE:Hid _:=he
 clear he
 go_enter Tryz.func76,Tryz.ntmps76
 go_wp2
 refine wp_scope_walk 3 fun G HR HG=>?_
 go_wp2_with fail
 refine (take_yes b s (i) 45 _ hs hlt HC.out HS0.out.to.rd).mono ?_
 rintro e w1 ⟨rfl,hto⟩
 have HS1:Hid _:=HS0.out.call hto
 clear hto
 have q:=HS1.out.al
 go_wp2
 go_step3
 simp only [Exit.then,Exit.inBlock]
 refine HG.out _ _ _ _ _ rfl ?_
 go_wp2_with fail
 refine (atEnd_any b s (i+1) _ hs (by omega) HS1.out.to.rd).mono ?_
 rintro e w2 ⟨rfl,hto⟩
 rw [HE.out]
 have HS2:Hid _:=HS1.out.call hto
 clear q
 clear hto
 have q:=HS2.out.al
 go_wp2
 go_step3
 simp only [Exit.then,Exit.inBlock]
 refine HG.out _ _ _ _ _ rfl ?_
 go_wp2
 have d0:=HS2.out.to.rd.c0
 have d1:=HS2.out.to.rd.c1
 have hq1:(0:Int)≤(i:Int):=by omega
 have hq2:(i:Int)≤(i:Int)+1:=by omega
 have hq3:(i:Int)+1≤s.size:=by omega
 refine wp_region_noPanic ?_
 refine wp_region_held_drew (S:=(fun w'=>w'.cell? ⟨b,0,none⟩=some (.string s)∧w'.cell? ⟨b,1,none⟩=some (.int .i64 ((i+1:Nat):Int)))) (by kernel_rfl) (by go_keep) (fun hHeld=>?_)
 refine tkH 0 ?_
 refine tkH 1 ?_
 refine tkH 2 ?_
 refine tkH 3 ?_
 refine tkH 4 ?_
 refine tkH 5 ?_
 refine tkH 6 ?_
 refine tkH 7 ?_
 refine tkH 8 ?_
 refine tkL 9 ?_
 refine rdH 10 fun Kmac hKmac=>?_
 go_simp
 refine (plainKind_any (s.extract i (i+1)) _ HSZ.out (P1.out.to (HS2.out).drew.to hg1 hbw)).mono ?_;rintro e w3 ⟨rfl,hb⟩;rw [HPK.out];have HS3:Hid _:=(HS2.out).drew.below hb;clear q;clear d0 d1 hb;have z0:=HS3.out.hz.c0;have z1:=HS3.out.hz.c1;have z2:=HS3.out.hz.c2;have z3:=HS3.out.hz.c3;have z4:=HS3.out.hz.c4;have z5:=HS3.out.hz.c5;have zf:=HS3.out.hz.f;have u0:=HS3.out.hu.c0;have u1:=HS3.out.hu.c1;have u2:=HS3.out.hu.c2;have u3:=HS3.out.hu.c3;have u4:=HS3.out.hu.c4;have u5:=HS3.out.hu.c5;have uf:=HS3.out.hu.f;have d0:=HS3.out.to.rd.c0;have d1:=HS3.out.to.rd.c1
 try go_wp2_with fail
 refine hKmac.go fun hHeld=>?_
 clear hKmac Kmac
 try refine lyH ?_
 refine tkL 11 ?_
 refine rdH 12 fun Kmac hKmac=>?_
 go_simp
 refine hKmac.go fun hHeld=>?_
 clear hKmac Kmac
 try refine lyH ?_
 refine wpAnyH_done (by kernel_rfl) ?_ _
 refine NoPanic.normal ?_
 go_wp2
 refine HR.out _ _ _ ?_
 refine bodyPost_ret (results_word Tryz.results76 _ _ _ _ _ rfl (HS3.out.hz.set5 _ _ _ _ _)) rfl ?_
 exact ⟨rfl,HS3.out.to.set5 hbw (Nat.le_refl _) _ _ _ _ _⟩
theorem word_store (b:Nat) (s:ByteArray) (i:Nat) (o:Option (W×Nat)) (w:World) (hs:s.size≤140737488355328) (hlt:i < s.size) (hg1:2 < b) (hg2:1 < b) (hT1:HasPlains w) (hT2:HasHeads w) (hc:s[i].toNat=61) (hlt1:i+1 < s.size) (hn:s[i+1].toNat=115) (ho:kNum 112 isDig 1 2 ((bl s).drop (i+1+1))=o) (h:RdAt w b s i) :
 Calls Tryz.prog 76 #[.pointer (some ⟨b,0,none⟩)] w fun e w'=>e=.returned (encK o)∧Got w w' b s i o:=by
 have hbw:=h.lt
 have hbz:b≠w.heap.size:=by omega
 have hzb:w.heap.size≠b:=by omega
 have c1:=((h.alloc (.cells #[.int .i64 0,.int .i64 0,.string ⟨#[]⟩,.string ⟨#[]⟩,.string ⟨#[]⟩,.pointer none] 146)).alloc (.cells #[.int .i64 0,.int .i64 0,.string ⟨#[]⟩,.string ⟨#[]⟩,.string ⟨#[]⟩,.pointer none] 146)).c1
 have HS0:Hid _:=st_two h
 have P1:Hid (HasPlains w):=hT1
 have P2:Hid (HasHeads w):=hT2
 clear hT1 hT2 h
 have HC:Hid _:=hc
 clear hc
 have HN:Hid _:=hn
 clear hn
 have HO:Hid _:=ho
 clear ho
 obtain ⟨k0,n0,t2,t3,t4,hv⟩:=encK_agg o
 have HV:Hid _:=hv
 clear hv
 go_enter Tryz.func76,Tryz.ntmps76
 go_wp2
 refine wp_scope_walk 3 fun G HR HG=>?_
 go_wp2_with fail
 refine (take_no b s (i) 45 _ hs (by omega) (fun _=>by have:=HC.out;omega) HS0.out.to.rd).mono ?_
 rintro e w1 ⟨rfl,hto⟩
 have HS1:Hid _:=HS0.out.call hto
 clear hto
 have q:=HS1.out.al
 go_wp2_with fail
 refine (take_yes b s (i) 61 _ hs hlt HC.out HS1.out.to.rd).mono ?_
 rintro e w2 ⟨rfl,hto⟩
 have HS2:Hid _:=HS1.out.call hto
 clear q
 clear hto
 have q:=HS2.out.al
 go_wp2
 go_step3
 simp only [Exit.then,Exit.inBlock]
 refine HG.out _ _ _ _ _ rfl ?_
 go_wp2_with fail
 refine (take_yes b s (i+1) 115 _ hs hlt1 HN.out HS2.out.to.rd).mono ?_
 rintro e w3 ⟨rfl,hto⟩
 have HS3:Hid _:=HS2.out.call hto
 clear q
 clear hto
 have q:=HS3.out.al
 go_wp2_with fail
 refine (numbered_c b s (i+1+1) i (2) 112 5 57 1 isDig o _ hs (by omega) (by omega) (by omega) rfl rfl (fun c h=>h) HO.out HV.out HS3.out.to.rd).mono ?_
 rintro e w4 ⟨rfl,j,hj,hto,hjn⟩
 have HS4:Hid _:=HS3.out.call hto
 clear q
 clear hto
 have q:=HS4.out.al
 have HJ:Hid _:=hjn
 clear hjn
 go_wp2
 refine HR.out _ _ _ ?_
 refine bodyPost_ret (results_word Tryz.results76 _ _ _ _ _ rfl (HS4.out.hz.set5 _ _ _ _ _)) rfl ?_
 exact ⟨congrArg _ HV.out.symm,j,hj,HS4.out.to.set5 hbw (Nat.le_refl _) _ _ _ _ _,HJ.out⟩
theorem word_go (b:Nat) (s:ByteArray) (i:Nat) (o:Option (W×Nat)) (w:World) (hs:s.size≤140737488355328) (hlt:i < s.size) (hg1:2 < b) (hg2:1 < b) (hT1:HasPlains w) (hT2:HasHeads w) (hc:s[i].toNat=62) (ho:kNum 62 isDig 2 1 ((bl s).drop (i+1))=o) (h:RdAt w b s i) :
 Calls Tryz.prog 76 #[.pointer (some ⟨b,0,none⟩)] w fun e w'=>e=.returned (encK o)∧Got w w' b s i o:=by
 have hbw:=h.lt
 have hbz:b≠w.heap.size:=by omega
 have hzb:w.heap.size≠b:=by omega
 have c1:=((h.alloc (.cells #[.int .i64 0,.int .i64 0,.string ⟨#[]⟩,.string ⟨#[]⟩,.string ⟨#[]⟩,.pointer none] 146)).alloc (.cells #[.int .i64 0,.int .i64 0,.string ⟨#[]⟩,.string ⟨#[]⟩,.string ⟨#[]⟩,.pointer none] 146)).c1
 have HS0:Hid _:=st_two h
 have P1:Hid (HasPlains w):=hT1
 have P2:Hid (HasHeads w):=hT2
 clear hT1 hT2 h
 have HC:Hid _:=hc
 clear hc
 have HO:Hid _:=ho
 clear ho
 obtain ⟨k0,n0,t2,t3,t4,hv⟩:=encK_agg o
 have HV:Hid _:=hv
 clear hv
 go_enter Tryz.func76,Tryz.ntmps76
 go_wp2
 refine wp_scope_walk 3 fun G HR HG=>?_
 go_wp2_with fail
 refine (take_no b s (i) 45 _ hs (by omega) (fun _=>by have:=HC.out;omega) HS0.out.to.rd).mono ?_
 rintro e w1 ⟨rfl,hto⟩
 have HS1:Hid _:=HS0.out.call hto
 clear hto
 have q:=HS1.out.al
 go_wp2_with fail
 refine (take_no b s (i) 61 _ hs (by omega) (fun _=>by have:=HC.out;omega) HS1.out.to.rd).mono ?_
 rintro e w2 ⟨rfl,hto⟩
 have HS2:Hid _:=HS1.out.call hto
 clear q
 clear hto
 have q:=HS2.out.al
 go_wp2_with fail
 refine (take_no b s (i) 94 _ hs (by omega) (fun _=>by have:=HC.out;omega) HS2.out.to.rd).mono ?_
 rintro e w3 ⟨rfl,hto⟩
 have HS3:Hid _:=HS2.out.call hto
 clear q
 clear hto
 have q:=HS3.out.al
 go_wp2_with fail
 refine (take_yes b s (i) 62 _ hs hlt HC.out HS3.out.to.rd).mono ?_
 rintro e w4 ⟨rfl,hto⟩
 have HS4:Hid _:=HS3.out.call hto
 clear q
 clear hto
 have q:=HS4.out.al
 go_wp2_with fail
 refine (numbered_c b s (i+1) i (1) 62 13 57 2 isDig o _ hs (by omega) (by omega) (by omega) rfl rfl (fun c h=>h) HO.out HV.out HS4.out.to.rd).mono ?_
 rintro e w5 ⟨rfl,j,hj,hto,hjn⟩
 have HS5:Hid _:=HS4.out.call hto
 clear q
 clear hto
 have q:=HS5.out.al
 have HJ:Hid _:=hjn
 clear hjn
 go_wp2
 refine HR.out _ _ _ ?_
 refine bodyPost_ret (results_word Tryz.results76 _ _ _ _ _ rfl (HS5.out.hz.set5 _ _ _ _ _)) rfl ?_
 exact ⟨congrArg _ HV.out.symm,j,hj,HS5.out.to.set5 hbw (Nat.le_refl _) _ _ _ _ _,HJ.out⟩
theorem word_goz (b:Nat) (s:ByteArray) (i:Nat) (o:Option (W×Nat)) (w:World) (hs:s.size≤140737488355328) (hlt:i < s.size) (hg1:2 < b) (hg2:1 < b) (hT1:HasPlains w) (hT2:HasHeads w) (hc:s[i].toNat=63) (ho:kNum 63 isDig 2 1 ((bl s).drop (i+1))=o) (h:RdAt w b s i) :
 Calls Tryz.prog 76 #[.pointer (some ⟨b,0,none⟩)] w fun e w'=>e=.returned (encK o)∧Got w w' b s i o:=by
 have hbw:=h.lt
 have hbz:b≠w.heap.size:=by omega
 have hzb:w.heap.size≠b:=by omega
 have c1:=((h.alloc (.cells #[.int .i64 0,.int .i64 0,.string ⟨#[]⟩,.string ⟨#[]⟩,.string ⟨#[]⟩,.pointer none] 146)).alloc (.cells #[.int .i64 0,.int .i64 0,.string ⟨#[]⟩,.string ⟨#[]⟩,.string ⟨#[]⟩,.pointer none] 146)).c1
 have HS0:Hid _:=st_two h
 have P1:Hid (HasPlains w):=hT1
 have P2:Hid (HasHeads w):=hT2
 clear hT1 hT2 h
 have HC:Hid _:=hc
 clear hc
 have HO:Hid _:=ho
 clear ho
 obtain ⟨k0,n0,t2,t3,t4,hv⟩:=encK_agg o
 have HV:Hid _:=hv
 clear hv
 go_enter Tryz.func76,Tryz.ntmps76
 go_wp2
 refine wp_scope_walk 3 fun G HR HG=>?_
 go_wp2_with fail
 refine (take_no b s (i) 45 _ hs (by omega) (fun _=>by have:=HC.out;omega) HS0.out.to.rd).mono ?_
 rintro e w1 ⟨rfl,hto⟩
 have HS1:Hid _:=HS0.out.call hto
 clear hto
 have q:=HS1.out.al
 go_wp2_with fail
 refine (take_no b s (i) 61 _ hs (by omega) (fun _=>by have:=HC.out;omega) HS1.out.to.rd).mono ?_
 rintro e w2 ⟨rfl,hto⟩
 have HS2:Hid _:=HS1.out.call hto
 clear q
 clear hto
 have q:=HS2.out.al
 go_wp2_with fail
 refine (take_no b s (i) 94 _ hs (by omega) (fun _=>by have:=HC.out;omega) HS2.out.to.rd).mono ?_
 rintro e w3 ⟨rfl,hto⟩
 have HS3:Hid _:=HS2.out.call hto
 clear q
 clear hto
 have q:=HS3.out.al
 go_wp2_with fail
 refine (take_no b s (i) 62 _ hs (by omega) (fun _=>by have:=HC.out;omega) HS3.out.to.rd).mono ?_
 rintro e w4 ⟨rfl,hto⟩
 have HS4:Hid _:=HS3.out.call hto
 clear q
 clear hto
 have q:=HS4.out.al
 go_wp2_with fail
 refine (take_yes b s (i) 63 _ hs hlt HC.out HS4.out.to.rd).mono ?_
 rintro e w5 ⟨rfl,hto⟩
 have HS5:Hid _:=HS4.out.call hto
 clear q
 clear hto
 have q:=HS5.out.al
 go_wp2_with fail
 refine (numbered_c b s (i+1) i (1) 63 14 57 2 isDig o _ hs (by omega) (by omega) (by omega) rfl rfl (fun c h=>h) HO.out HV.out HS5.out.to.rd).mono ?_
 rintro e w6 ⟨rfl,j,hj,hto,hjn⟩
 have HS6:Hid _:=HS5.out.call hto
 clear q
 clear hto
 have q:=HS6.out.al
 have HJ:Hid _:=hjn
 clear hjn
 go_wp2
 refine HR.out _ _ _ ?_
 refine bodyPost_ret (results_word Tryz.results76 _ _ _ _ _ rfl (HS6.out.hz.set5 _ _ _ _ _)) rfl ?_
 exact ⟨congrArg _ HV.out.symm,j,hj,HS6.out.to.set5 hbw (Nat.le_refl _) _ _ _ _ _,HJ.out⟩
theorem word_above (b:Nat) (s:ByteArray) (i:Nat) (o:Option (W×Nat)) (w:World) (hs:s.size≤140737488355328) (hlt:i < s.size) (hg1:2 < b) (hg2:1 < b) (hT1:HasPlains w) (hT2:HasHeads w) (hc:s[i].toNat=94) (ho:kSend 94 1 ((bl s).drop (i+1))=o) (h:RdAt w b s i) :
 Calls Tryz.prog 76 #[.pointer (some ⟨b,0,none⟩)] w fun e w'=>e=.returned (encK o)∧Got w w' b s i o:=by
 have hbw:=h.lt
 have hbz:b≠w.heap.size:=by omega
 have hzb:w.heap.size≠b:=by omega
 have c1:=((h.alloc (.cells #[.int .i64 0,.int .i64 0,.string ⟨#[]⟩,.string ⟨#[]⟩,.string ⟨#[]⟩,.pointer none] 146)).alloc (.cells #[.int .i64 0,.int .i64 0,.string ⟨#[]⟩,.string ⟨#[]⟩,.string ⟨#[]⟩,.pointer none] 146)).c1
 have HS0:Hid _:=st_two h
 have P1:Hid (HasPlains w):=hT1
 have P2:Hid (HasHeads w):=hT2
 clear hT1 hT2 h
 have HC:Hid _:=hc
 clear hc
 have HO:Hid _:=ho
 clear ho
 obtain ⟨k0,n0,t2,t3,t4,hv⟩:=encK_agg o
 have HV:Hid _:=hv
 clear hv
 go_enter Tryz.func76,Tryz.ntmps76
 go_wp2
 refine wp_scope_walk 3 fun G HR HG=>?_
 go_wp2_with fail
 refine (take_no b s (i) 45 _ hs (by omega) (fun _=>by have:=HC.out;omega) HS0.out.to.rd).mono ?_
 rintro e w1 ⟨rfl,hto⟩
 have HS1:Hid _:=HS0.out.call hto
 clear hto
 have q:=HS1.out.al
 go_wp2_with fail
 refine (take_no b s (i) 61 _ hs (by omega) (fun _=>by have:=HC.out;omega) HS1.out.to.rd).mono ?_
 rintro e w2 ⟨rfl,hto⟩
 have HS2:Hid _:=HS1.out.call hto
 clear q
 clear hto
 have q:=HS2.out.al
 go_wp2_with fail
 refine (take_yes b s (i) 94 _ hs hlt HC.out HS2.out.to.rd).mono ?_
 rintro e w3 ⟨rfl,hto⟩
 have HS3:Hid _:=HS2.out.call hto
 clear q
 clear hto
 have q:=HS3.out.al
 go_wp2_with fail
 refine (send_c b s (i+1) i 1 94 16 o _ hs (by omega) (by omega) rfl HO.out HV.out HS3.out.to.rd).mono ?_
 rintro e w4 ⟨rfl,j,hj,hto,hjn⟩
 have HS4:Hid _:=HS3.out.call hto
 clear q
 clear hto
 have q:=HS4.out.al
 have HJ:Hid _:=hjn
 clear hjn
 go_wp2
 refine HR.out _ _ _ ?_
 refine bodyPost_ret (results_word Tryz.results76 _ _ _ _ _ rfl (HS4.out.hz.set5 _ _ _ _ _)) rfl ?_
 exact ⟨congrArg _ HV.out.symm,j,hj,HS4.out.to.set5 hbw (Nat.le_refl _) _ _ _ _ _,HJ.out⟩
theorem word_negative (b:Nat) (s:ByteArray) (i:Nat) (o:Option (W×Nat)) (w:World) (hs:s.size≤140737488355328) (hlt:i < s.size) (hg1:2 < b) (hg2:1 < b) (hT1:HasPlains w) (hT2:HasHeads w) (hc:s[i].toNat=45) (he:atEndB (bl s) (i+1)=false) (ho:kNum 110 isDig 4 1 ((bl s).drop (i+1))=o) (h:RdAt w b s i) :
 Calls Tryz.prog 76 #[.pointer (some ⟨b,0,none⟩)] w fun e w'=>e=.returned (encK (o.map negW))∧Got w w' b s i (o.map negW):=by
 have hbw:=h.lt
 have hbz:b≠w.heap.size:=by omega
 have hzb:w.heap.size≠b:=by omega
 have c1:=((h.alloc (.cells #[.int .i64 0,.int .i64 0,.string ⟨#[]⟩,.string ⟨#[]⟩,.string ⟨#[]⟩,.pointer none] 146)).alloc (.cells #[.int .i64 0,.int .i64 0,.string ⟨#[]⟩,.string ⟨#[]⟩,.string ⟨#[]⟩,.pointer none] 146)).c1
 have HS0:Hid _:=st_two h
 have P1:Hid (HasPlains w):=hT1
 have P2:Hid (HasHeads w):=hT2
 clear hT1 hT2 h
 have HC:Hid _:=hc
 clear hc
 have HE:Hid _:=he
 clear he
 have HO:Hid _:=ho
 obtain ⟨k0,n,t2,t3,t4,hv,hn0,hn1,hv2⟩:=encK_num (fun c h=>h) (by omega) ho
 have HV:Hid _:=hv
 have HV2:Hid _:=hv2
 have zne:w.heap.size≠w.heap.size+1:=by omega
 clear hv hv2 ho
 go_enter Tryz.func76,Tryz.ntmps76
 go_wp2
 refine wp_scope_walk 3 fun G HR HG=>?_
 go_wp2_with fail
 refine (take_yes b s (i) 45 _ hs hlt HC.out HS0.out.to.rd).mono ?_
 rintro e w1 ⟨rfl,hto⟩
 have HS1:Hid _:=HS0.out.call hto
 clear hto
 have q:=HS1.out.al
 go_wp2
 go_step3
 simp only [Exit.then,Exit.inBlock]
 refine HG.out _ _ _ _ _ rfl ?_
 go_wp2_with fail
 refine (atEnd_any b s (i+1) _ hs (by omega) HS1.out.to.rd).mono ?_
 rintro e w2 ⟨rfl,hto⟩
 rw [HE.out]
 have HS2:Hid _:=HS1.out.call hto
 clear q
 clear hto
 have q:=HS2.out.al
 go_wp2_with fail
 refine (numbered_c b s (i+1) i 1 110 1 57 4 isDig o _ hs (by omega) (by omega) (by omega) rfl rfl (fun c h=>h) HO.out HV.out HS2.out.to.rd).mono ?_
 rintro e w3 ⟨rfl,j,hj,hto,hjn⟩
 have HS3:Hid _:=HS2.out.call hto
 clear q
 clear hto
 have q:=HS3.out.al
 have HJ:Hid _:=hjn
 clear hjn
 have zu1:w.heap.size≤w.heap.size+1:=by omega
 have zne2:w.heap.size+1≠w.heap.size:=by omega
 clear HS0
 generalize w.heap.size+1=u at *
 go_upto_region 20 with fail
 have hst:Wst w ((((((w3.setCell ⟨u,0,none⟩ (.int .i64 k0)).setCell ⟨u,1,none⟩ (.int .i64 n)).setCell ⟨u,2,none⟩ (.string t2)).setCell ⟨u,3,none⟩ (.string t3)).setCell ⟨u,4,none⟩ (.string t4)).setCell ⟨u,5,none⟩ (.pointer none)) b s j w.heap.size u (.int .i64 k0) (.int .i64 n) (.string t2) (.string t3) (.string t4):=HS3.out.setU _ _ _ _ _
 revert hst
 generalize ((((((w3.setCell ⟨u,0,none⟩ (.int .i64 k0)).setCell ⟨u,1,none⟩ (.int .i64 n)).setCell ⟨u,2,none⟩ (.string t2)).setCell ⟨u,3,none⟩ (.string t3)).setCell ⟨u,4,none⟩ (.string t4)).setCell ⟨u,5,none⟩ (.pointer none))=W4
 intro hst
 have HX4:Hid _:=hst
 clear hst
 clear q
 have q:=HX4.out.al
 go_upto_region 21 with fail
 have hst:Wst w (W4.setCell ⟨u,1,none⟩ (.int .i64 (-n))) b s j w.heap.size u (.int .i64 k0) (.int .i64 (-n)) (.string t2) (.string t3) (.string t4):=HX4.out.set1 _
 revert hst
 generalize (W4.setCell ⟨u,1,none⟩ (.int .i64 (-n)))=W5
 intro hst
 have HX5:Hid _:=hst
 clear hst
 clear q
 have q:=HX5.out.al
 go_wp2
 refine HR.out _ _ _ ?_
 refine bodyPost_ret (results_word Tryz.results76 _ _ _ _ _ rfl (HX5.out.hz.set5 _ _ _ _ _)) rfl ?_
 exact ⟨congrArg _ HV2.out.symm,j,hj,HX5.out.to.set5 hbw (Nat.le_refl _) _ _ _ _ _,got_neg HJ.out⟩
theorem word_number (b:Nat) (s:ByteArray) (i:Nat) (o:Option (W×Nat)) (w:World) (hs:s.size≤140737488355328) (hlt:i < s.size) (hg1:2 < b) (hg2:1 < b) (hT1:HasPlains w) (hT2:HasHeads w) (hc:s[i].toNat≠45∧s[i].toNat≠61∧s[i].toNat≠94∧s[i].toNat≠62∧s[i].toNat≠63∧s[i].toNat≠43∧s[i].toNat≠42∧s[i].toNat≠60) (hl:spanL isSmall 6 ((bl s).drop i)=[]) (ho:kNum 110 isDig 4 0 ((bl s).drop i)=o) (h:RdAt w b s i) :
 Calls Tryz.prog 76 #[.pointer (some ⟨b,0,none⟩)] w fun e w'=>e=.returned (encK o)∧Got w w' b s i o:=by
 have hbw:=h.lt
 have hbz:b≠w.heap.size:=by omega
 have hzb:w.heap.size≠b:=by omega
 have c1:=((h.alloc (.cells #[.int .i64 0,.int .i64 0,.string ⟨#[]⟩,.string ⟨#[]⟩,.string ⟨#[]⟩,.pointer none] 146)).alloc (.cells #[.int .i64 0,.int .i64 0,.string ⟨#[]⟩,.string ⟨#[]⟩,.string ⟨#[]⟩,.pointer none] 146)).c1
 have HS0:Hid _:=st_two h
 have P1:Hid (HasPlains w):=hT1
 have P2:Hid (HasHeads w):=hT2
 clear hT1 hT2 h
 have HC:Hid _:=hc
 clear hc
 have NL:Hid _:=hl
 clear hl
 have HO:Hid _:=ho
 clear ho
 obtain ⟨k0,n0,t2,t3,t4,hv⟩:=encK_agg o
 have HV:Hid _:=hv
 clear hv
 go_enter Tryz.func76,Tryz.ntmps76
 go_wp2
 refine wp_scope_walk 3 fun G HR HG=>?_
 go_wp2_with fail
 refine (take_no b s (i) 45 _ hs (by omega) (fun _=>by have:=HC.out;omega) HS0.out.to.rd).mono ?_
 rintro e w1 ⟨rfl,hto⟩
 have HS1:Hid _:=HS0.out.call hto
 clear hto
 have q:=HS1.out.al
 go_wp2_with fail
 refine (take_no b s (i) 61 _ hs (by omega) (fun _=>by have:=HC.out;omega) HS1.out.to.rd).mono ?_
 rintro e w2 ⟨rfl,hto⟩
 have HS2:Hid _:=HS1.out.call hto
 clear q
 clear hto
 have q:=HS2.out.al
 go_wp2_with fail
 refine (take_no b s (i) 94 _ hs (by omega) (fun _=>by have:=HC.out;omega) HS2.out.to.rd).mono ?_
 rintro e w3 ⟨rfl,hto⟩
 have HS3:Hid _:=HS2.out.call hto
 clear q
 clear hto
 have q:=HS3.out.al
 go_wp2_with fail
 refine (take_no b s (i) 62 _ hs (by omega) (fun _=>by have:=HC.out;omega) HS3.out.to.rd).mono ?_
 rintro e w4 ⟨rfl,hto⟩
 have HS4:Hid _:=HS3.out.call hto
 clear q
 clear hto
 have q:=HS4.out.al
 go_wp2_with fail
 refine (take_no b s (i) 63 _ hs (by omega) (fun _=>by have:=HC.out;omega) HS4.out.to.rd).mono ?_
 rintro e w5 ⟨rfl,hto⟩
 have HS5:Hid _:=HS4.out.call hto
 clear q
 clear hto
 have q:=HS5.out.al
 go_wp2_with fail
 refine (take_no b s (i) 43 _ hs (by omega) (fun _=>by have:=HC.out;omega) HS5.out.to.rd).mono ?_
 rintro e w6 ⟨rfl,hto⟩
 have HS6:Hid _:=HS5.out.call hto
 clear q
 clear hto
 have q:=HS6.out.al
 go_wp2_with fail
 refine (take_no b s (i) 42 _ hs (by omega) (fun _=>by have:=HC.out;omega) HS6.out.to.rd).mono ?_
 rintro e w7 ⟨rfl,hto⟩
 have HS7:Hid _:=HS6.out.call hto
 clear q
 clear hto
 have q:=HS7.out.al
 go_wp2_with fail
 refine (take_no b s (i) 60 _ hs (by omega) (fun _=>by have:=HC.out;omega) HS7.out.to.rd).mono ?_
 rintro e w8 ⟨rfl,hto⟩
 have HS8:Hid _:=HS7.out.call hto
 clear q
 clear hto
 have q:=HS8.out.al
 go_wp2_with fail
 refine (span_c b s i 97 122 6 isSmall [] _ hs (by omega) (by omega) HS8.out.to.rd rfl NL.out).mono ?_
 rintro e w9 ⟨rfl,hto⟩
 have HS9:Hid _:=HS8.out.call hto
 clear q
 clear hto
 have q:=HS9.out.al
 go_wp2_with fail
 refine (numbered_c b s (i) i (0) 110 1 57 4 isDig o _ hs (by omega) (by omega) (by omega) rfl rfl (fun c h=>h) HO.out HV.out HS9.out.to.rd).mono ?_
 rintro e w10 ⟨rfl,j,hj,hto,hjn⟩
 have HS10:Hid _:=HS9.out.call hto
 clear q
 clear hto
 have q:=HS10.out.al
 have HJ:Hid _:=hjn
 clear hjn
 go_wp2
 refine HR.out _ _ _ ?_
 refine bodyPost_ret (results_word Tryz.results76 _ _ _ _ _ rfl (HS10.out.hz.set5 _ _ _ _ _)) rfl ?_
 exact ⟨congrArg _ HV.out.symm,j,hj,HS10.out.to.set5 hbw (Nat.le_refl _) _ _ _ _ _,HJ.out⟩
theorem word_class (b:Nat) (s:ByteArray) (i:Nat) (lt:List UInt8) (o:Option (W×Nat)) (w:World) (hs:s.size≤140737488355328) (hlt:i < s.size) (hg1:2 < b) (hg2:1 < b) (hT1:HasPlains w) (hT2:HasHeads w) (hc:s[i].toNat≠45∧s[i].toNat≠61∧s[i].toNat≠94∧s[i].toNat≠62∧s[i].toNat≠63∧s[i].toNat≠43∧s[i].toNat≠42∧s[i].toNat≠60) (hl:spanL isSmall 6 ((bl s).drop i)=lt) (hle:lt≠[]) (hlt1:i+lt.length < s.size) (hn:s[i+lt.length].toNat=58) (ho:kClass (kHead lt) (lt.length+1) ((bl s).drop (i+lt.length+1))=o) (h:RdAt w b s i) :
 Calls Tryz.prog 76 #[.pointer (some ⟨b,0,none⟩)] w fun e w'=>e=.returned (encK o)∧Got w w' b s i o:=by
 have hbw:=h.lt
 have hbz:b≠w.heap.size:=by omega
 have hzb:w.heap.size≠b:=by omega
 have c1:=((h.alloc (.cells #[.int .i64 0,.int .i64 0,.string ⟨#[]⟩,.string ⟨#[]⟩,.string ⟨#[]⟩,.pointer none] 146)).alloc (.cells #[.int .i64 0,.int .i64 0,.string ⟨#[]⟩,.string ⟨#[]⟩,.string ⟨#[]⟩,.pointer none] 146)).c1
 have HS0:Hid _:=st_two h
 have P1:Hid (HasPlains w):=hT1
 have P2:Hid (HasHeads w):=hT2
 clear hT1 hT2 h
 have HC:Hid _:=hc
 clear hc
 have HSZ:Hid ((ofL lt).size≤140737488355328):=span_sz hs hl
 have NL:Hid _:=hl
 have tl:=ofL_ne hle
 have ltl:i+lt.length≤s.size:=span_ok hl hle
 clear hl hle
 have HN:Hid _:=hn
 clear hn
 have HO:Hid _:=ho
 clear ho
 obtain ⟨k0,n0,t2,t3,t4,hv⟩:=encK_agg o
 have HV:Hid _:=hv
 clear hv
 go_enter Tryz.func76,Tryz.ntmps76
 go_wp2
 refine wp_scope_walk 3 fun G HR HG=>?_
 go_wp2_with fail
 refine (take_no b s (i) 45 _ hs (by omega) (fun _=>by have:=HC.out;omega) HS0.out.to.rd).mono ?_
 rintro e w1 ⟨rfl,hto⟩
 have HS1:Hid _:=HS0.out.call hto
 clear hto
 have q:=HS1.out.al
 go_wp2_with fail
 refine (take_no b s (i) 61 _ hs (by omega) (fun _=>by have:=HC.out;omega) HS1.out.to.rd).mono ?_
 rintro e w2 ⟨rfl,hto⟩
 have HS2:Hid _:=HS1.out.call hto
 clear q
 clear hto
 have q:=HS2.out.al
 go_wp2_with fail
 refine (take_no b s (i) 94 _ hs (by omega) (fun _=>by have:=HC.out;omega) HS2.out.to.rd).mono ?_
 rintro e w3 ⟨rfl,hto⟩
 have HS3:Hid _:=HS2.out.call hto
 clear q
 clear hto
 have q:=HS3.out.al
 go_wp2_with fail
 refine (take_no b s (i) 62 _ hs (by omega) (fun _=>by have:=HC.out;omega) HS3.out.to.rd).mono ?_
 rintro e w4 ⟨rfl,hto⟩
 have HS4:Hid _:=HS3.out.call hto
 clear q
 clear hto
 have q:=HS4.out.al
 go_wp2_with fail
 refine (take_no b s (i) 63 _ hs (by omega) (fun _=>by have:=HC.out;omega) HS4.out.to.rd).mono ?_
 rintro e w5 ⟨rfl,hto⟩
 have HS5:Hid _:=HS4.out.call hto
 clear q
 clear hto
 have q:=HS5.out.al
 go_wp2_with fail
 refine (take_no b s (i) 43 _ hs (by omega) (fun _=>by have:=HC.out;omega) HS5.out.to.rd).mono ?_
 rintro e w6 ⟨rfl,hto⟩
 have HS6:Hid _:=HS5.out.call hto
 clear q
 clear hto
 have q:=HS6.out.al
 go_wp2_with fail
 refine (take_no b s (i) 42 _ hs (by omega) (fun _=>by have:=HC.out;omega) HS6.out.to.rd).mono ?_
 rintro e w7 ⟨rfl,hto⟩
 have HS7:Hid _:=HS6.out.call hto
 clear q
 clear hto
 have q:=HS7.out.al
 go_wp2_with fail
 refine (take_no b s (i) 60 _ hs (by omega) (fun _=>by have:=HC.out;omega) HS7.out.to.rd).mono ?_
 rintro e w8 ⟨rfl,hto⟩
 have HS8:Hid _:=HS7.out.call hto
 clear q
 clear hto
 have q:=HS8.out.al
 go_wp2_with fail
 refine (span_c b s i 97 122 6 isSmall lt _ hs (by omega) (by omega) HS8.out.to.rd rfl NL.out).mono ?_
 rintro e w9 ⟨rfl,hto⟩
 have HS9:Hid _:=HS8.out.call hto
 clear q
 clear hto
 have q:=HS9.out.al
 go_wp2
 go_step3
 simp only [Exit.then,Exit.inBlock]
 refine HG.out _ _ _ _ _ rfl ?_
 go_wp2_with fail
 refine (take_yes b s (i+lt.length) 58 _ hs hlt1 HN.out HS9.out.to.rd).mono ?_
 rintro e w10 ⟨rfl,hto⟩
 have HS10:Hid _:=HS9.out.call hto
 clear q
 clear hto
 have q:=HS10.out.al
 go_wp2_with fail
 refine (classKind_any (ofL lt) _ HSZ.out (P2.out.to HS10.out.to hg2 hbw)).mono ?_
 rintro e w11 ⟨rfl,hb⟩
 rw [bl_ofL]
 have HS11:Hid _:=HS10.out.below hb
 clear q
 clear hb
 have q:=HS11.out.al
 go_wp2_with fail
 refine (classWord_c b s (i+lt.length+1) i (lt.length+1) (kHead lt) (headK lt) o _ hs (by omega) (by omega) (head_kinds lt) HO.out HV.out HS11.out.to.rd).mono ?_
 rintro e w12 ⟨rfl,j,hj,hto,hjn⟩
 have HS12:Hid _:=HS11.out.call hto
 clear q
 clear hto
 have q:=HS12.out.al
 have HJ:Hid _:=hjn
 clear hjn
 go_wp2
 refine HR.out _ _ _ ?_
 refine bodyPost_ret (results_word Tryz.results76 _ _ _ _ _ rfl (HS12.out.hz.set5 _ _ _ _ _)) rfl ?_
 exact ⟨congrArg _ HV.out.symm,j,hj,HS12.out.to.set5 hbw (Nat.le_refl _) _ _ _ _ _,HJ.out⟩
theorem word_send (b:Nat) (s:ByteArray) (i:Nat) (lt:List UInt8) (o:Option (W×Nat)) (w:World) (hs:s.size≤140737488355328) (hlt:i < s.size) (hg1:2 < b) (hg2:1 < b) (hT1:HasPlains w) (hT2:HasHeads w) (hc:s[i].toNat≠45∧s[i].toNat≠61∧s[i].toNat≠94∧s[i].toNat≠62∧s[i].toNat≠63∧s[i].toNat≠43∧s[i].toNat≠42∧s[i].toNat≠60) (hl:spanL isSmall 6 ((bl s).drop i)=lt) (hle:lt≠[]) (hn:∀ hlt:i+lt.length < s.size,s[i+lt.length].toNat≠58) (hlt1:i+lt.length < s.size) (hn2:s[i+lt.length].toNat=47) (ho:kSend 115 0 ((bl s).drop i)=o) (h:RdAt w b s i) :
 Calls Tryz.prog 76 #[.pointer (some ⟨b,0,none⟩)] w fun e w'=>e=.returned (encK o)∧Got w w' b s i o:=by
 have hbw:=h.lt
 have hbz:b≠w.heap.size:=by omega
 have hzb:w.heap.size≠b:=by omega
 have c1:=((h.alloc (.cells #[.int .i64 0,.int .i64 0,.string ⟨#[]⟩,.string ⟨#[]⟩,.string ⟨#[]⟩,.pointer none] 146)).alloc (.cells #[.int .i64 0,.int .i64 0,.string ⟨#[]⟩,.string ⟨#[]⟩,.string ⟨#[]⟩,.pointer none] 146)).c1
 have HS0:Hid _:=st_two h
 have P1:Hid (HasPlains w):=hT1
 have P2:Hid (HasHeads w):=hT2
 clear hT1 hT2 h
 have HC:Hid _:=hc
 clear hc
 have NL:Hid _:=hl
 have tl:=ofL_ne hle
 have ltl:i+lt.length≤s.size:=span_ok hl hle
 clear hl hle
 have HN:Hid _:=hn
 have HN2:Hid _:=hn2
 clear hn hn2
 have HO:Hid _:=ho
 clear ho
 obtain ⟨k0,n0,t2,t3,t4,hv⟩:=encK_agg o
 have HV:Hid _:=hv
 clear hv
 go_enter Tryz.func76,Tryz.ntmps76
 go_wp2
 refine wp_scope_walk 3 fun G HR HG=>?_
 go_wp2_with fail
 refine (take_no b s (i) 45 _ hs (by omega) (fun _=>by have:=HC.out;omega) HS0.out.to.rd).mono ?_
 rintro e w1 ⟨rfl,hto⟩
 have HS1:Hid _:=HS0.out.call hto
 clear hto
 have q:=HS1.out.al
 go_wp2_with fail
 refine (take_no b s (i) 61 _ hs (by omega) (fun _=>by have:=HC.out;omega) HS1.out.to.rd).mono ?_
 rintro e w2 ⟨rfl,hto⟩
 have HS2:Hid _:=HS1.out.call hto
 clear q
 clear hto
 have q:=HS2.out.al
 go_wp2_with fail
 refine (take_no b s (i) 94 _ hs (by omega) (fun _=>by have:=HC.out;omega) HS2.out.to.rd).mono ?_
 rintro e w3 ⟨rfl,hto⟩
 have HS3:Hid _:=HS2.out.call hto
 clear q
 clear hto
 have q:=HS3.out.al
 go_wp2_with fail
 refine (take_no b s (i) 62 _ hs (by omega) (fun _=>by have:=HC.out;omega) HS3.out.to.rd).mono ?_
 rintro e w4 ⟨rfl,hto⟩
 have HS4:Hid _:=HS3.out.call hto
 clear q
 clear hto
 have q:=HS4.out.al
 go_wp2_with fail
 refine (take_no b s (i) 63 _ hs (by omega) (fun _=>by have:=HC.out;omega) HS4.out.to.rd).mono ?_
 rintro e w5 ⟨rfl,hto⟩
 have HS5:Hid _:=HS4.out.call hto
 clear q
 clear hto
 have q:=HS5.out.al
 go_wp2_with fail
 refine (take_no b s (i) 43 _ hs (by omega) (fun _=>by have:=HC.out;omega) HS5.out.to.rd).mono ?_
 rintro e w6 ⟨rfl,hto⟩
 have HS6:Hid _:=HS5.out.call hto
 clear q
 clear hto
 have q:=HS6.out.al
 go_wp2_with fail
 refine (take_no b s (i) 42 _ hs (by omega) (fun _=>by have:=HC.out;omega) HS6.out.to.rd).mono ?_
 rintro e w7 ⟨rfl,hto⟩
 have HS7:Hid _:=HS6.out.call hto
 clear q
 clear hto
 have q:=HS7.out.al
 go_wp2_with fail
 refine (take_no b s (i) 60 _ hs (by omega) (fun _=>by have:=HC.out;omega) HS7.out.to.rd).mono ?_
 rintro e w8 ⟨rfl,hto⟩
 have HS8:Hid _:=HS7.out.call hto
 clear q
 clear hto
 have q:=HS8.out.al
 go_wp2_with fail
 refine (span_c b s i 97 122 6 isSmall lt _ hs (by omega) (by omega) HS8.out.to.rd rfl NL.out).mono ?_
 rintro e w9 ⟨rfl,hto⟩
 have HS9:Hid _:=HS8.out.call hto
 clear q
 clear hto
 have q:=HS9.out.al
 go_wp2
 go_step3
 simp only [Exit.then,Exit.inBlock]
 refine HG.out _ _ _ _ _ rfl ?_
 go_wp2_with fail
 refine (take_no b s (i+lt.length) 58 _ hs (by omega) HN.out HS9.out.to.rd).mono ?_
 rintro e w10 ⟨rfl,hto⟩
 have HS10:Hid _:=HS9.out.call hto
 clear q
 clear hto
 have q:=HS10.out.al
 go_wp2_with fail
 refine (take_yes b s (i+lt.length) 47 _ hs hlt1 HN2.out HS10.out.to.rd).mono ?_
 rintro e w11 ⟨rfl,hto⟩
 have HS11:Hid _:=HS10.out.call hto
 clear q
 clear hto
 have q:=HS11.out.al
 have d1:=HS11.out.to.rd.c1
 have f1:=HS11.out.to.rd.f1
 go_wp2_with fail
 have HX:Hid _:=HS11.out.rset i
 clear d1 f1
 refine (send_c b s i i 0 115 15 o _ hs (by omega) (by omega) rfl HO.out HV.out HX.out.to.rd).mono ?_
 rintro e w12 ⟨rfl,j,hj,hto,hjn⟩
 have HS12:Hid _:=HX.out.call hto
 clear q
 clear hto
 have q:=HS12.out.al
 have HJ:Hid _:=hjn
 clear hjn
 go_wp2
 refine HR.out _ _ _ ?_
 refine bodyPost_ret (results_word Tryz.results76 _ _ _ _ _ rfl (HS12.out.hz.set5 _ _ _ _ _)) rfl ?_
 exact ⟨congrArg _ HV.out.symm,j,hj,HS12.out.to.set5 hbw (Nat.le_refl _) _ _ _ _ _,HJ.out⟩
theorem word_arg (b:Nat) (s:ByteArray) (i:Nat) (o:Option (W×Nat)) (w:World) (hs:s.size≤140737488355328) (hlt:i < s.size) (hg1:2 < b) (hg2:1 < b) (hT1:HasPlains w) (hT2:HasHeads w) (hc:s[i].toNat≠45∧s[i].toNat≠61∧s[i].toNat≠94∧s[i].toNat≠62∧s[i].toNat≠63∧s[i].toNat≠43∧s[i].toNat≠42∧s[i].toNat≠60) (hl:spanL isSmall 6 ((bl s).drop i)=[97]) (hn:∀ hlt:i+1 < s.size,s[i+1].toNat≠58) (hn2:∀ hlt:i+1 < s.size,s[i+1].toNat≠47) (ho:kNum 97 isD2 1 1 ((bl s).drop (i+1))=o) (h:RdAt w b s i) :
 Calls Tryz.prog 76 #[.pointer (some ⟨b,0,none⟩)] w fun e w'=>e=.returned (encK o)∧Got w w' b s i o:=by
 have hbw:=h.lt
 have hbz:b≠w.heap.size:=by omega
 have hzb:w.heap.size≠b:=by omega
 have c1:=((h.alloc (.cells #[.int .i64 0,.int .i64 0,.string ⟨#[]⟩,.string ⟨#[]⟩,.string ⟨#[]⟩,.pointer none] 146)).alloc (.cells #[.int .i64 0,.int .i64 0,.string ⟨#[]⟩,.string ⟨#[]⟩,.string ⟨#[]⟩,.pointer none] 146)).c1
 have HS0:Hid _:=st_two h
 have P1:Hid (HasPlains w):=hT1
 have P2:Hid (HasHeads w):=hT2
 clear hT1 hT2 h
 have HC:Hid _:=hc
 clear hc
 have NL:Hid _:=hl
 have ltl:i+([97]:List UInt8).length≤s.size:=span_ok hl (by simp)
 clear hl
 have HN:Hid _:=hn
 have HN2:Hid _:=hn2
 clear hn hn2
 have HO:Hid _:=ho
 clear ho
 obtain ⟨k0,n0,t2,t3,t4,hv⟩:=encK_agg o
 have HV:Hid _:=hv
 clear hv
 go_enter Tryz.func76,Tryz.ntmps76
 go_wp2
 refine wp_scope_walk 3 fun G HR HG=>?_
 go_wp2_with fail
 refine (take_no b s (i) 45 _ hs (by omega) (fun _=>by have:=HC.out;omega) HS0.out.to.rd).mono ?_
 rintro e w1 ⟨rfl,hto⟩
 have HS1:Hid _:=HS0.out.call hto
 clear hto
 have q:=HS1.out.al
 go_wp2_with fail
 refine (take_no b s (i) 61 _ hs (by omega) (fun _=>by have:=HC.out;omega) HS1.out.to.rd).mono ?_
 rintro e w2 ⟨rfl,hto⟩
 have HS2:Hid _:=HS1.out.call hto
 clear q
 clear hto
 have q:=HS2.out.al
 go_wp2_with fail
 refine (take_no b s (i) 94 _ hs (by omega) (fun _=>by have:=HC.out;omega) HS2.out.to.rd).mono ?_
 rintro e w3 ⟨rfl,hto⟩
 have HS3:Hid _:=HS2.out.call hto
 clear q
 clear hto
 have q:=HS3.out.al
 go_wp2_with fail
 refine (take_no b s (i) 62 _ hs (by omega) (fun _=>by have:=HC.out;omega) HS3.out.to.rd).mono ?_
 rintro e w4 ⟨rfl,hto⟩
 have HS4:Hid _:=HS3.out.call hto
 clear q
 clear hto
 have q:=HS4.out.al
 go_wp2_with fail
 refine (take_no b s (i) 63 _ hs (by omega) (fun _=>by have:=HC.out;omega) HS4.out.to.rd).mono ?_
 rintro e w5 ⟨rfl,hto⟩
 have HS5:Hid _:=HS4.out.call hto
 clear q
 clear hto
 have q:=HS5.out.al
 go_wp2_with fail
 refine (take_no b s (i) 43 _ hs (by omega) (fun _=>by have:=HC.out;omega) HS5.out.to.rd).mono ?_
 rintro e w6 ⟨rfl,hto⟩
 have HS6:Hid _:=HS5.out.call hto
 clear q
 clear hto
 have q:=HS6.out.al
 go_wp2_with fail
 refine (take_no b s (i) 42 _ hs (by omega) (fun _=>by have:=HC.out;omega) HS6.out.to.rd).mono ?_
 rintro e w7 ⟨rfl,hto⟩
 have HS7:Hid _:=HS6.out.call hto
 clear q
 clear hto
 have q:=HS7.out.al
 go_wp2_with fail
 refine (take_no b s (i) 60 _ hs (by omega) (fun _=>by have:=HC.out;omega) HS7.out.to.rd).mono ?_
 rintro e w8 ⟨rfl,hto⟩
 have HS8:Hid _:=HS7.out.call hto
 clear q
 clear hto
 have q:=HS8.out.al
 go_wp2_with fail
 refine (span_c b s i 97 122 6 isSmall [97] _ hs (by omega) (by omega) HS8.out.to.rd rfl NL.out).mono ?_
 rintro e w9 ⟨rfl,hto⟩
 have HS9:Hid _:=HS8.out.call hto
 clear q
 clear hto
 have q:=HS9.out.al
 go_wp2
 go_step3
 simp only [Exit.then,Exit.inBlock]
 refine HG.out _ _ _ _ _ rfl ?_
 go_wp2_with fail
 refine (take_no b s (i+([97]:List UInt8).length) 58 _ hs (by omega) HN.out HS9.out.to.rd).mono ?_
 rintro e w10 ⟨rfl,hto⟩
 have HS10:Hid _:=HS9.out.call hto
 clear q
 clear hto
 have q:=HS10.out.al
 go_wp2_with fail
 refine (take_no b s (i+([97]:List UInt8).length) 47 _ hs (by omega) HN2.out HS10.out.to.rd).mono ?_
 rintro e w11 ⟨rfl,hto⟩
 have HS11:Hid _:=HS10.out.call hto
 clear q
 clear hto
 have q:=HS11.out.al
 go_wp2_with fail
 refine (numbered_c b s (i+1) i (1) 97 3 50 1 isD2 o _ hs (by omega) (by omega) (by omega) rfl rfl d2_dig HO.out HV.out HS11.out.to.rd).mono ?_
 rintro e w12 ⟨rfl,j,hj,hto,hjn⟩
 have HS12:Hid _:=HS11.out.call hto
 clear q
 clear hto
 have q:=HS12.out.al
 have HJ:Hid _:=hjn
 clear hjn
 go_wp2
 refine HR.out _ _ _ ?_
 refine bodyPost_ret (results_word Tryz.results76 _ _ _ _ _ rfl (HS12.out.hz.set5 _ _ _ _ _)) rfl ?_
 exact ⟨congrArg _ HV.out.symm,j,hj,HS12.out.to.set5 hbw (Nat.le_refl _) _ _ _ _ _,HJ.out⟩
theorem word_slot (b:Nat) (s:ByteArray) (i:Nat) (o:Option (W×Nat)) (w:World) (hs:s.size≤140737488355328) (hlt:i < s.size) (hg1:2 < b) (hg2:1 < b) (hT1:HasPlains w) (hT2:HasHeads w) (hc:s[i].toNat≠45∧s[i].toNat≠61∧s[i].toNat≠94∧s[i].toNat≠62∧s[i].toNat≠63∧s[i].toNat≠43∧s[i].toNat≠42∧s[i].toNat≠60) (hl:spanL isSmall 6 ((bl s).drop i)=[115]) (hn:∀ hlt:i+1 < s.size,s[i+1].toNat≠58) (hn2:∀ hlt:i+1 < s.size,s[i+1].toNat≠47) (ho:kNum 103 isDig 1 1 ((bl s).drop (i+1))=o) (h:RdAt w b s i) :
 Calls Tryz.prog 76 #[.pointer (some ⟨b,0,none⟩)] w fun e w'=>e=.returned (encK o)∧Got w w' b s i o:=by
 have hbw:=h.lt
 have hbz:b≠w.heap.size:=by omega
 have hzb:w.heap.size≠b:=by omega
 have c1:=((h.alloc (.cells #[.int .i64 0,.int .i64 0,.string ⟨#[]⟩,.string ⟨#[]⟩,.string ⟨#[]⟩,.pointer none] 146)).alloc (.cells #[.int .i64 0,.int .i64 0,.string ⟨#[]⟩,.string ⟨#[]⟩,.string ⟨#[]⟩,.pointer none] 146)).c1
 have HS0:Hid _:=st_two h
 have P1:Hid (HasPlains w):=hT1
 have P2:Hid (HasHeads w):=hT2
 clear hT1 hT2 h
 have HC:Hid _:=hc
 clear hc
 have NL:Hid _:=hl
 have ltl:i+([115]:List UInt8).length≤s.size:=span_ok hl (by simp)
 clear hl
 have HN:Hid _:=hn
 have HN2:Hid _:=hn2
 clear hn hn2
 have HO:Hid _:=ho
 clear ho
 obtain ⟨k0,n0,t2,t3,t4,hv⟩:=encK_agg o
 have HV:Hid _:=hv
 clear hv
 go_enter Tryz.func76,Tryz.ntmps76
 go_wp2
 refine wp_scope_walk 3 fun G HR HG=>?_
 go_wp2_with fail
 refine (take_no b s (i) 45 _ hs (by omega) (fun _=>by have:=HC.out;omega) HS0.out.to.rd).mono ?_
 rintro e w1 ⟨rfl,hto⟩
 have HS1:Hid _:=HS0.out.call hto
 clear hto
 have q:=HS1.out.al
 go_wp2_with fail
 refine (take_no b s (i) 61 _ hs (by omega) (fun _=>by have:=HC.out;omega) HS1.out.to.rd).mono ?_
 rintro e w2 ⟨rfl,hto⟩
 have HS2:Hid _:=HS1.out.call hto
 clear q
 clear hto
 have q:=HS2.out.al
 go_wp2_with fail
 refine (take_no b s (i) 94 _ hs (by omega) (fun _=>by have:=HC.out;omega) HS2.out.to.rd).mono ?_
 rintro e w3 ⟨rfl,hto⟩
 have HS3:Hid _:=HS2.out.call hto
 clear q
 clear hto
 have q:=HS3.out.al
 go_wp2_with fail
 refine (take_no b s (i) 62 _ hs (by omega) (fun _=>by have:=HC.out;omega) HS3.out.to.rd).mono ?_
 rintro e w4 ⟨rfl,hto⟩
 have HS4:Hid _:=HS3.out.call hto
 clear q
 clear hto
 have q:=HS4.out.al
 go_wp2_with fail
 refine (take_no b s (i) 63 _ hs (by omega) (fun _=>by have:=HC.out;omega) HS4.out.to.rd).mono ?_
 rintro e w5 ⟨rfl,hto⟩
 have HS5:Hid _:=HS4.out.call hto
 clear q
 clear hto
 have q:=HS5.out.al
 go_wp2_with fail
 refine (take_no b s (i) 43 _ hs (by omega) (fun _=>by have:=HC.out;omega) HS5.out.to.rd).mono ?_
 rintro e w6 ⟨rfl,hto⟩
 have HS6:Hid _:=HS5.out.call hto
 clear q
 clear hto
 have q:=HS6.out.al
 go_wp2_with fail
 refine (take_no b s (i) 42 _ hs (by omega) (fun _=>by have:=HC.out;omega) HS6.out.to.rd).mono ?_
 rintro e w7 ⟨rfl,hto⟩
 have HS7:Hid _:=HS6.out.call hto
 clear q
 clear hto
 have q:=HS7.out.al
 go_wp2_with fail
 refine (take_no b s (i) 60 _ hs (by omega) (fun _=>by have:=HC.out;omega) HS7.out.to.rd).mono ?_
 rintro e w8 ⟨rfl,hto⟩
 have HS8:Hid _:=HS7.out.call hto
 clear q
 clear hto
 have q:=HS8.out.al
 go_wp2_with fail
 refine (span_c b s i 97 122 6 isSmall [115] _ hs (by omega) (by omega) HS8.out.to.rd rfl NL.out).mono ?_
 rintro e w9 ⟨rfl,hto⟩
 have HS9:Hid _:=HS8.out.call hto
 clear q
 clear hto
 have q:=HS9.out.al
 go_wp2
 go_step3
 simp only [Exit.then,Exit.inBlock]
 refine HG.out _ _ _ _ _ rfl ?_
 go_wp2_with fail
 refine (take_no b s (i+([115]:List UInt8).length) 58 _ hs (by omega) HN.out HS9.out.to.rd).mono ?_
 rintro e w10 ⟨rfl,hto⟩
 have HS10:Hid _:=HS9.out.call hto
 clear q
 clear hto
 have q:=HS10.out.al
 go_wp2_with fail
 refine (take_no b s (i+([115]:List UInt8).length) 47 _ hs (by omega) HN2.out HS10.out.to.rd).mono ?_
 rintro e w11 ⟨rfl,hto⟩
 have HS11:Hid _:=HS10.out.call hto
 clear q
 clear hto
 have q:=HS11.out.al
 go_wp2_with fail
 refine (numbered_c b s (i+1) i (1) 103 4 57 1 isDig o _ hs (by omega) (by omega) (by omega) rfl rfl (fun c h=>h) HO.out HV.out HS11.out.to.rd).mono ?_
 rintro e w12 ⟨rfl,j,hj,hto,hjn⟩
 have HS12:Hid _:=HS11.out.call hto
 clear q
 clear hto
 have q:=HS12.out.al
 have HJ:Hid _:=hjn
 clear hjn
 go_wp2
 refine HR.out _ _ _ ?_
 refine bodyPost_ret (results_word Tryz.results76 _ _ _ _ _ rfl (HS12.out.hz.set5 _ _ _ _ _)) rfl ?_
 exact ⟨congrArg _ HV.out.symm,j,hj,HS12.out.to.set5 hbw (Nat.le_refl _) _ _ _ _ _,HJ.out⟩
theorem word_plain (b:Nat) (s:ByteArray) (i:Nat) (lt:List UInt8) (kk:Nat) (w:World) (hs:s.size≤140737488355328) (hlt:i < s.size) (hg1:2 < b) (hg2:1 < b) (hT1:HasPlains w) (hT2:HasHeads w) (hc:s[i].toNat≠45∧s[i].toNat≠61∧s[i].toNat≠94∧s[i].toNat≠62∧s[i].toNat≠63∧s[i].toNat≠43∧s[i].toNat≠42∧s[i].toNat≠60) (hl:spanL isSmall 6 ((bl s).drop i)=lt) (hle:lt≠[]) (hn:∀ hlt:i+lt.length < s.size,s[i+lt.length].toNat≠58) (hn2:∀ hlt:i+lt.length < s.size,s[i+lt.length].toNat≠47) (ha:lt≠[97]) (hs2:lt≠[115]) (hkk:plainK lt=kk) (h:RdAt w b s i) :
 Calls Tryz.prog 76 #[.pointer (some ⟨b,0,none⟩)] w fun e w'=>e=.returned (.agg #[.int .i64 kk,.int .i64 0,.string ⟨#[]⟩,.string ⟨#[]⟩,.string ⟨#[]⟩,.pointer none])∧RTo w w' b s (i+lt.length):=by
 have hbw:=h.lt
 have hbz:b≠w.heap.size:=by omega
 have hzb:w.heap.size≠b:=by omega
 have c1:=((h.alloc (.cells #[.int .i64 0,.int .i64 0,.string ⟨#[]⟩,.string ⟨#[]⟩,.string ⟨#[]⟩,.pointer none] 146)).alloc (.cells #[.int .i64 0,.int .i64 0,.string ⟨#[]⟩,.string ⟨#[]⟩,.string ⟨#[]⟩,.pointer none] 146)).c1
 have HS0:Hid _:=st_two h
 have P1:Hid (HasPlains w):=hT1
 have P2:Hid (HasHeads w):=hT2
 clear hT1 hT2 h
 have HC:Hid _:=hc
 clear hc
 have HPK:Hid (plainK (bl (s.extract i (i+lt.length)))=kk):=plain_lt hl hkk
 have HSZ:Hid ((s.extract i (i+lt.length)).size≤140737488355328):=ext_le hs _ _
 have NL:Hid _:=hl
 have tl:=ofL_ne hle
 have ltl:i+lt.length≤s.size:=span_ok hl hle
 clear hl hle
 have HN:Hid _:=hn
 have HN2:Hid _:=hn2
 have ta:(lt==[97])=false:=beq_eq_false_iff_ne.2 ha
 have ts:(lt==[115])=false:=beq_eq_false_iff_ne.2 hs2
 clear hn hn2 ha hs2 hkk
 go_enter Tryz.func76,Tryz.ntmps76
 go_wp2
 refine wp_scope_walk 3 fun G HR HG=>?_
 go_wp2_with fail
 refine (take_no b s (i) 45 _ hs (by omega) (fun _=>by have:=HC.out;omega) HS0.out.to.rd).mono ?_
 rintro e w1 ⟨rfl,hto⟩
 have HS1:Hid _:=HS0.out.call hto
 clear hto
 have q:=HS1.out.al
 go_wp2_with fail
 refine (take_no b s (i) 61 _ hs (by omega) (fun _=>by have:=HC.out;omega) HS1.out.to.rd).mono ?_
 rintro e w2 ⟨rfl,hto⟩
 have HS2:Hid _:=HS1.out.call hto
 clear q
 clear hto
 have q:=HS2.out.al
 go_wp2_with fail
 refine (take_no b s (i) 94 _ hs (by omega) (fun _=>by have:=HC.out;omega) HS2.out.to.rd).mono ?_
 rintro e w3 ⟨rfl,hto⟩
 have HS3:Hid _:=HS2.out.call hto
 clear q
 clear hto
 have q:=HS3.out.al
 go_wp2_with fail
 refine (take_no b s (i) 62 _ hs (by omega) (fun _=>by have:=HC.out;omega) HS3.out.to.rd).mono ?_
 rintro e w4 ⟨rfl,hto⟩
 have HS4:Hid _:=HS3.out.call hto
 clear q
 clear hto
 have q:=HS4.out.al
 go_wp2_with fail
 refine (take_no b s (i) 63 _ hs (by omega) (fun _=>by have:=HC.out;omega) HS4.out.to.rd).mono ?_
 rintro e w5 ⟨rfl,hto⟩
 have HS5:Hid _:=HS4.out.call hto
 clear q
 clear hto
 have q:=HS5.out.al
 go_wp2_with fail
 refine (take_no b s (i) 43 _ hs (by omega) (fun _=>by have:=HC.out;omega) HS5.out.to.rd).mono ?_
 rintro e w6 ⟨rfl,hto⟩
 have HS6:Hid _:=HS5.out.call hto
 clear q
 clear hto
 have q:=HS6.out.al
 go_wp2_with fail
 refine (take_no b s (i) 42 _ hs (by omega) (fun _=>by have:=HC.out;omega) HS6.out.to.rd).mono ?_
 rintro e w7 ⟨rfl,hto⟩
 have HS7:Hid _:=HS6.out.call hto
 clear q
 clear hto
 have q:=HS7.out.al
 go_wp2_with fail
 refine (take_no b s (i) 60 _ hs (by omega) (fun _=>by have:=HC.out;omega) HS7.out.to.rd).mono ?_
 rintro e w8 ⟨rfl,hto⟩
 have HS8:Hid _:=HS7.out.call hto
 clear q
 clear hto
 have q:=HS8.out.al
 go_wp2_with fail
 refine (span_c b s i 97 122 6 isSmall lt _ hs (by omega) (by omega) HS8.out.to.rd rfl NL.out).mono ?_
 rintro e w9 ⟨rfl,hto⟩
 have HS9:Hid _:=HS8.out.call hto
 clear q
 clear hto
 have q:=HS9.out.al
 go_wp2
 go_step3
 simp only [Exit.then,Exit.inBlock]
 refine HG.out _ _ _ _ _ rfl ?_
 go_wp2_with fail
 refine (take_no b s (i+lt.length) 58 _ hs (by omega) HN.out HS9.out.to.rd).mono ?_
 rintro e w10 ⟨rfl,hto⟩
 have HS10:Hid _:=HS9.out.call hto
 clear q
 clear hto
 have q:=HS10.out.al
 go_wp2_with fail
 refine (take_no b s (i+lt.length) 47 _ hs (by omega) HN2.out HS10.out.to.rd).mono ?_
 rintro e w11 ⟨rfl,hto⟩
 have HS11:Hid _:=HS10.out.call hto
 clear q
 clear hto
 have q:=HS11.out.al
 go_wp2
 go_step3
 go_wp2
 have d0:=HS11.out.to.rd.c0
 have d1:=HS11.out.to.rd.c1
 have hq1:(0:Int)≤(i:Int):=by omega
 have hq2:(i:Int)≤(i:Int)+lt.length:=by omega
 have hq3:(i:Int)+lt.length≤s.size:=by omega
 refine wp_region_noPanic ?_
 refine wp_region_held_drew (S:=(fun w'=>w'.cell? ⟨b,0,none⟩=some (.string s)∧w'.cell? ⟨b,1,none⟩=some (.int .i64 ((i+lt.length:Nat):Int)))) (by kernel_rfl) (by go_keep) (fun hHeld=>?_)
 refine tkH 0 ?_
 refine tkH 1 ?_
 refine tkH 2 ?_
 refine tkH 3 ?_
 refine tkH 4 ?_
 refine tkH 5 ?_
 refine tkH 6 ?_
 refine tkH 7 ?_
 refine tkH 8 ?_
 refine tkL 9 ?_
 refine rdH 10 fun Kmac hKmac=>?_
 go_simp
 refine (plainKind_any (s.extract i (i+lt.length)) _ HSZ.out (P1.out.to (HS11.out).drew.to hg1 hbw)).mono ?_;rintro e w12 ⟨rfl,hb⟩;rw [HPK.out];have HS12:Hid _:=(HS11.out).drew.below hb;clear q;clear d0 d1 hb;have z0:=HS12.out.hz.c0;have z1:=HS12.out.hz.c1;have z2:=HS12.out.hz.c2;have z3:=HS12.out.hz.c3;have z4:=HS12.out.hz.c4;have z5:=HS12.out.hz.c5;have zf:=HS12.out.hz.f;have u0:=HS12.out.hu.c0;have u1:=HS12.out.hu.c1;have u2:=HS12.out.hu.c2;have u3:=HS12.out.hu.c3;have u4:=HS12.out.hu.c4;have u5:=HS12.out.hu.c5;have uf:=HS12.out.hu.f;have d0:=HS12.out.to.rd.c0;have d1:=HS12.out.to.rd.c1
 try go_wp2_with fail
 refine hKmac.go fun hHeld=>?_
 clear hKmac Kmac
 try refine lyH ?_
 refine tkL 11 ?_
 refine rdH 12 fun Kmac hKmac=>?_
 go_simp
 refine hKmac.go fun hHeld=>?_
 clear hKmac Kmac
 try refine lyH ?_
 refine wpAnyH_done (by kernel_rfl) ?_ _
 refine NoPanic.normal ?_
 go_wp2
 refine HR.out _ _ _ ?_
 refine bodyPost_ret (results_word Tryz.results76 _ _ _ _ _ rfl (HS12.out.hz.set5 _ _ _ _ _)) rfl ?_
 exact ⟨rfl,HS12.out.to.set5 hbw (Nat.le_refl _) _ _ _ _ _⟩
end Go.Proofs.YtkghmgoefiepeaaGreatDoor.reads
