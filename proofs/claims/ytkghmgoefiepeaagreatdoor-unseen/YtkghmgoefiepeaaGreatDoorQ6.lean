import Derived.Test.YtkghmgoefiepeaaGreatDoorQ0
import Derived.Test.YtkghmgoefiepeaaGreatDoorQ5
set_option linter.unusedSimpArgs false
set_option linter.unusedVariables false
set_option maxHeartbeats 4000000
set_option maxRecDepth 100000
namespace Go.Proofs.YtkghmgoefiepeaaGreatDoor.reads
open Go.ChangeShapes Go.WideShapes Go.ChangeAt Go.RowKit Kn
def kindOf (k:Nat):Nat :=
 if k=110 then 1 else if k=109 then 2 else if k=97 then 3 else if k=103 then 4 else if k=112 then 5 else if k=43 then 6 else if k=45 then 7 else if k=42 then 8 else if k=60 then 9
 else if k=61 then 10 else if k=111 then 11 else if k=100 then 12 else if k=62 then 13 else if k=63 then 14 else if k=115 then 15 else if k=94 then 16 else if k=119 then 17
 else if k=98 then 18 else if k=120 then 19 else if k=118 then 20 else if k=99 then 21 else if k=114 then 22 else 0
def kcells (x:W):List Value:=[.int .i64 (kindOf x.k:Nat),.int .i64 x.n,.string (ofL x.a),.string (ofL x.sel),.string (ofL x.b),.pointer none]
def encK:Option (W×Nat)→Value
 | some (x,_)=>.agg #[.int .i64 (kindOf x.k:Nat),.int .i64 x.n,.string (ofL x.a),.string (ofL x.sel),.string (ofL x.b),.pointer none]
 | none=>.agg #[.int .i64 0,.int .i64 0,.string (ofL []),.string (ofL []),.string (ofL []),.pointer none]
def Got (w w':World) (b:Nat) (s:ByteArray) (i0:Nat) (o:Option (W×Nat)):Prop:=∃ j,j≤s.size∧RTo w w' b s j∧∀ x n,o=some (x,n)→j=i0+n
variable {w : World}
theorem RdAt.lt {b:Nat}{s:ByteArray}{i:Nat} (h:RdAt w b s i):b < w.heap.size:=(Array.getElem?_eq_some_iff.1 h).1
variable {w1 w2 : World}
theorem RTo.below {b:Nat}{s:ByteArray}{i:Nat} (h:RTo w w1 b s i) (hb:Below w1.heap.size w1 w2):RTo w w2 b s i :=
 ⟨(hb.block b h.rd.lt).trans h.rd,h.grown.trans ⟨hb.os,hb.tape,hb.output,hb.size,fun k hk _=>hb.block k hk⟩⟩
theorem RdAt.alloc {b:Nat}{s:ByteArray}{i:Nat} (h:RdAt w b s i) (o:Obj):RdAt (w.alloc o) b s i:=(Below.heap_alloc w o b h.lt).trans h
variable {w' : World}
theorem RTo.unalloc {b:Nat}{s:ByteArray}{i:Nat}{o:Obj} (h:RTo (w.alloc o) w' b s i):RTo w w' b s i:=⟨h.rd,(World.grownBy_alloc w o _).trans h.grown⟩
def ZAt (w:World) (z:Nat) (v0 v1 v2 v3 v4:Value):Prop:=w.heap[z]?=some (.cells #[v0,v1,v2,v3,v4,.pointer none] 146)
theorem ZAt.c0 {z:Nat}{v0 v1 v2 v3 v4:Value} (h:ZAt w z v0 v1 v2 v3 v4):w.cell? ⟨z,0,none⟩=some v0:=by unfold ZAt at h;simp only [World.cell?,h];rfl
theorem ZAt.c1 {z:Nat}{v0 v1 v2 v3 v4:Value} (h:ZAt w z v0 v1 v2 v3 v4):w.cell? ⟨z,1,none⟩=some v1:=by unfold ZAt at h;simp only [World.cell?,h];rfl
theorem ZAt.c2 {z:Nat}{v0 v1 v2 v3 v4:Value} (h:ZAt w z v0 v1 v2 v3 v4):w.cell? ⟨z,2,none⟩=some v2:=by unfold ZAt at h;simp only [World.cell?,h];rfl
theorem ZAt.c3 {z:Nat}{v0 v1 v2 v3 v4:Value} (h:ZAt w z v0 v1 v2 v3 v4):w.cell? ⟨z,3,none⟩=some v3:=by unfold ZAt at h;simp only [World.cell?,h];rfl
theorem ZAt.c4 {z:Nat}{v0 v1 v2 v3 v4:Value} (h:ZAt w z v0 v1 v2 v3 v4):w.cell? ⟨z,4,none⟩=some v4:=by unfold ZAt at h;simp only [World.cell?,h];rfl
theorem ZAt.c5 {z:Nat}{v0 v1 v2 v3 v4:Value} (h:ZAt w z v0 v1 v2 v3 v4):w.cell? ⟨z,5,none⟩=some (.pointer none):=by unfold ZAt at h;simp only [World.cell?,h];rfl
theorem ZAt.f {z:Nat}{v0 v1 v2 v3 v4:Value} (h:ZAt w z v0 v1 v2 v3 v4) (k:Nat):w.frozen? ⟨z,k,none⟩=false:=by unfold ZAt at h;simp only [World.frozen?,h];simp
theorem ZAt.all {z:Nat}{v0 v1 v2 v3 v4:Value} (h:ZAt w z v0 v1 v2 v3 v4):w.cell? ⟨z,0,none⟩=some v0∧w.cell? ⟨z,1,none⟩=some v1∧w.cell? ⟨z,2,none⟩=some v2∧w.cell? ⟨z,3,none⟩=some v3∧w.cell? ⟨z,4,none⟩=some v4∧w.cell? ⟨z,5,none⟩=some (.pointer none)∧∀ k,w.frozen? ⟨z,k,none⟩=false:=⟨h.c0,h.c1,h.c2,h.c3,h.c4,h.c5,h.f⟩
theorem zat_new (w:World) (v0 v1 v2 v3 v4:Value):ZAt (w.alloc (.cells #[v0,v1,v2,v3,v4,.pointer none] 146)) w.heap.size v0 v1 v2 v3 v4:=(MapKept.heap_alloc w _).1
theorem ZAt.lt {z:Nat}{v0 v1 v2 v3 v4:Value} (h:ZAt w z v0 v1 v2 v3 v4):z < w.heap.size:=(Array.getElem?_eq_some_iff.1 h).1
theorem ZAt.to {z b:Nat}{v0 v1 v2 v3 v4:Value}{s:ByteArray}{i:Nat} (h:ZAt w z v0 v1 v2 v3 v4) (ht:RTo w w' b s i) (hne:z≠b):ZAt w' z v0 v1 v2 v3 v4 :=
 (ht.grown.block z h.lt (fun e=>hne (by injection e))).trans h
theorem ZAt.below {z:Nat}{v0 v1 v2 v3 v4:Value} (h:ZAt w z v0 v1 v2 v3 v4) (hb:Below w.heap.size w w'):ZAt w' z v0 v1 v2 v3 v4:=(hb.block z h.lt).trans h
theorem RTo.setNew {b:Nat}{s:ByteArray}{i:Nat} (h:RTo w w1 b s i) {z k:Nat} (hb:b < w.heap.size) (hz:w.heap.size≤z) (v:Value):RTo w (w1.setCell ⟨z,k,none⟩ v) b s i :=
 ⟨(Below.heap_setCell w1 ⟨z,k,none⟩ v b (by show b≠z;omega)).trans h.rd,⟨h.grown.os,h.grown.tape,h.grown.output,by simp only [World.setCell,Array.size_modify];exact h.grown.size,fun j hj hne=>(Below.heap_setCell w1 ⟨z,k,none⟩ v j (by show j≠z;omega)).trans (h.grown.block j hj hne)⟩⟩
theorem RTo.set5 {b:Nat}{s:ByteArray}{i:Nat} (h:RTo w w1 b s i) {z:Nat} (hb:b < w.heap.size) (hz:w.heap.size≤z) (v0 v1 v2 v3 v4:Value) :
 RTo w ((((((w1.setCell ⟨z,0,none⟩ v0).setCell ⟨z,1,none⟩ v1).setCell ⟨z,2,none⟩ v2).setCell ⟨z,3,none⟩ v3).setCell ⟨z,4,none⟩ v4).setCell ⟨z,5,none⟩ (.pointer none)) b s i :=
 (((((h.setNew hb hz v0).setNew hb hz v1).setNew hb hz v2).setNew hb hz v3).setNew hb hz v4).setNew hb hz _
theorem numbered_any (b:Nat) (s:ByteArray) (i i0 a k kk hi m:Nat) (p:UInt8→Bool) (w:World) (hs:s.size≤140737488355328) (hi':i≤s.size) (ha:i=i0+a) (hm:m≤4) (hp:inR 48 hi=p) (hkk:kindOf k=kk)
 (hpd:∀ c,p c=true→isDig c=true) (h:RdAt w b s i) :
 Calls Tryz.prog 108 #[.pointer (some ⟨b,0,none⟩),.int .i64 kk,.int .u8 hi,.int .i64 m] w fun e w' =>
  e=.returned (encK (kNum k p m a ((bl s).drop i)))∧Got w w' b s i0 (kNum k p m a ((bl s).drop i)):=by
 have HH:Hid (RdAt w b s i):=h
 have HA:Hid _:=ha
 have HKK:Hid _:=hkk
 clear h ha hkk
 obtain ⟨sp,hsp⟩:∃ sp,spanL p m ((bl s).drop i)=sp:=⟨_,rfl⟩
 have hle:=span_le_size s p m i
 rw [hsp] at hle
 have HS:Hid _:=hsp
 by_cases hne:sp=[]
 · subst hne
   have HK:Hid (kNum k p m a ((bl s).drop i)=none):=by
    have hx:kNum k p m a ((bl s).drop i)=none:=by unfold kNum;rw [if_pos hsp]
    exact hx
   clear hsp hle
   go_enter Tryz.func108,Tryz.ntmps108
   go_wp2_with fail
   refine (span_c b s i 48 hi m p [] _ hs hi' (by omega) (HH.out.alloc _) hp HS.out).mono ?_
   rintro e w1 ⟨rfl,hto⟩
   have HT:Hid (RTo w w1 b s (i+([]:List UInt8).length)):=hto.unalloc
   have hz:=(zat_new w _ _ _ _ _).to hto (by have:=HH.out.lt;omega)
   have z0:=hz.c0
   have z1:=hz.c1
   have z2:=hz.c2
   have z3:=hz.c3
   have z4:=hz.c4
   have z5:=hz.c5
   have zf:=hz.f
   clear hto hz
   go_wp2
   refine bodyPost_ret (v:=.agg #[.int .i64 0,.int .i64 0,.string ⟨#[]⟩,.string ⟨#[]⟩,.string ⟨#[]⟩,.pointer none]) (by simp [results,Tryz.results108,go_sem,z0,z1,z2,z3,z4,z5]) rfl ?_
   exact ⟨by rw [HK.out];rfl,⟨_,by simpa using hi',HT.out.set5 HH.out.lt (Nat.le_refl _) _ _ _ _ _,fun x n hx=>by rw [HK.out] at hx;cases hx⟩⟩
 · have HK:Hid (kNum k p m a ((bl s).drop i)=some (⟨k,(numOf sp:Nat),[],[],[]⟩,a+sp.length)):=by
    have hx:kNum k p m a ((bl s).drop i)=some (⟨k,(numOf sp:Nat),[],[],[]⟩,a+sp.length):=by unfold kNum;rw [hsp,if_neg hne]
    exact hx
   have HL:Hid ((ofL sp).size≤4):=by
    have hx:(ofL sp).size≤4:=by
     rw [← bl_length,bl_ofL,← hsp]
     exact Nat.le_trans (spanL_le _ _ _) hm
    exact hx
   have HD:Hid (∀ c∈bl (ofL sp),isDig c=true):=by
    have hx:∀ c∈bl (ofL sp),isDig c=true:=fun c hc=>hpd c (by rw [bl_ofL,← hsp] at hc;exact spanL_all _ _ _ c hc)
    exact hx
   have tne:=ofL_ne hne
   clear hsp hne hpd
   go_enter Tryz.func108,Tryz.ntmps108
   go_wp2_with fail
   refine (span_c b s i 48 hi m p sp _ hs hi' (by omega) (HH.out.alloc _) hp HS.out).mono ?_
   rintro e w1 ⟨rfl,hto⟩
   have HT:Hid (RTo w w1 b s (i+sp.length)):=hto.unalloc
   have hz:=(zat_new w _ _ _ _ _).to hto (by have:=HH.out.lt;omega)
   have HZ:Hid (ZAt w1 w.heap.size _ _ _ _ _):=hz
   clear hto hz
   go_wp2_with fail
   refine (decimal_any (ofL sp) _ HL.out HD.out).mono ?_
   rintro e w2 ⟨rfl,hb⟩
   have HT2:Hid _:=HT.out.below hb
   have hz:=HZ.out.below hb
   have z0:=hz.c0
   have z1:=hz.c1
   have z2:=hz.c2
   have z3:=hz.c3
   have z4:=hz.c4
   have z5:=hz.c5
   have zf:=hz.f
   clear hb hz
   go_wp2
   refine bodyPost_ret (v:=.agg #[.int .i64 kk,.int .i64 (numOf sp:Nat),.string ⟨#[]⟩,.string ⟨#[]⟩,.string ⟨#[]⟩,.pointer none]) (by simp [results,Tryz.results108,go_sem,z0,z1,z2,z3,z4,z5]) rfl ?_
   refine ⟨by rw [HK.out,← HKK.out];rfl,⟨_,by omega,HT2.out.set5 HH.out.lt (Nat.le_refl _) _ _ _ _ _,fun x n hx=>?_⟩⟩
   rw [HK.out] at hx
   injection hx with hx
   injection hx with _ hx
   rw [← hx,HA.out]
   omega
theorem send_any (b:Nat) (s:ByteArray) (i i0 a k kk:Nat) (w:World) (hs:s.size≤140737488355328) (hi':i≤s.size) (ha:i=i0+a) (hkk:kindOf k=kk) (h:RdAt w b s i) :
 Calls Tryz.prog 107 #[.pointer (some ⟨b,0,none⟩),.int .i64 kk] w fun e w' =>
  e=.returned (encK (kSend k a ((bl s).drop i)))∧Got w w' b s i0 (kSend k a ((bl s).drop i)):=by
 have HH:Hid (RdAt w b s i):=h
 have HA:Hid _:=ha
 have HKK:Hid _:=hkk
 clear h ha hkk
 obtain ⟨sp,hsp⟩:∃ sp,kSel ((bl s).drop i)=sp:=⟨_,rfl⟩
 by_cases hne:sp=[]
 · subst hne
   have HK:Hid (kSend k a ((bl s).drop i)=none):=by
    have hx:kSend k a ((bl s).drop i)=none:=by unfold kSend;rw [if_pos hsp]
    exact hx
   have HS:Hid _:=hsp
   clear hsp
   go_enter Tryz.func107,Tryz.ntmps107
   go_wp2_with fail
   refine (kselector_any b s i _ hs hi' (HH.out.alloc _)).mono ?_
   rintro e w1 ⟨rfl,j,hj,hto,hjl⟩
   rw [HS.out]
   have HT:Hid (RTo w w1 b s j):=hto.unalloc
   have hz:=(zat_new w _ _ _ _ _).to hto (by have:=HH.out.lt;omega)
   have z0:=hz.c0
   have z1:=hz.c1
   have z2:=hz.c2
   have z3:=hz.c3
   have z4:=hz.c4
   have z5:=hz.c5
   have zf:=hz.f
   clear hto hjl hz
   go_wp2
   refine bodyPost_ret (v:=.agg #[.int .i64 0,.int .i64 0,.string ⟨#[]⟩,.string ⟨#[]⟩,.string ⟨#[]⟩,.pointer none]) (by simp [results,Tryz.results107,go_sem,z0,z1,z2,z3,z4,z5]) rfl ?_
   exact ⟨by rw [HK.out];rfl,⟨_,hj,HT.out.set5 HH.out.lt (Nat.le_refl _) _ _ _ _ _,fun x n hx=>by rw [HK.out] at hx;cases hx⟩⟩
 · have HK:Hid (kSend k a ((bl s).drop i)=some (⟨k,(argsOf sp:Nat),sp,[],[]⟩,a+sp.length)):=by
    have hx:kSend k a ((bl s).drop i)=some (⟨k,(argsOf sp:Nat),sp,[],[]⟩,a+sp.length):=by unfold kSend;rw [hsp,if_neg hne]
    exact hx
   have HSel:Hid (selector (bl (ofL sp))=true):=by
    have hx:selector (bl (ofL sp))=true:=by
     have:=(kSel_sound (r:=(bl s).drop i) (by rw [hsp];exact hne)).1
     rw [hsp] at this
     exact this
    exact hx
   have HS:Hid _:=hsp
   have HN:Hid (sp≠[]):=hne
   have tne:=ofL_ne hne
   clear hsp hne
   go_enter Tryz.func107,Tryz.ntmps107
   go_wp2_with fail
   refine (kselector_any b s i _ hs hi' (HH.out.alloc _)).mono ?_
   rintro e w1 ⟨rfl,j,hj,hto,hjl⟩
   rw [HS.out] at hjl ⊢
   obtain rfl:=hjl HN.out
   have HT:Hid (RTo w w1 b s (i+sp.length)):=hto.unalloc
   have hz:=(zat_new w _ _ _ _ _).to hto (by have:=HH.out.lt;omega)
   have HZ:Hid (ZAt w1 w.heap.size _ _ _ _ _):=hz
   clear hto hjl hz
   go_wp2_with fail
   refine (argumentsOf_any (ofL sp) _ HSel.out).mono ?_
   rintro e w2 ⟨rfl,hb⟩
   have HT2:Hid _:=HT.out.below hb
   have hz:=HZ.out.below hb
   have z0:=hz.c0
   have z1:=hz.c1
   have z2:=hz.c2
   have z3:=hz.c3
   have z4:=hz.c4
   have z5:=hz.c5
   have zf:=hz.f
   clear hb hz
   go_wp2
   refine bodyPost_ret (v:=.agg #[.int .i64 kk,.int .i64 (argsOf sp:Nat),.string ⟨#[]⟩,.string (ofL sp),.string ⟨#[]⟩,.pointer none]) (by simp [results,Tryz.results107,go_sem,z0,z1,z2,z3,z4,z5]) rfl ?_
   refine ⟨by rw [HK.out,← HKK.out];rfl,⟨_,hj,HT2.out.set5 HH.out.lt (Nat.le_refl _) _ _ _ _ _,fun x n hx=>?_⟩⟩
   rw [HK.out] at hx
   injection hx with hx
   injection hx with _ hx
   rw [← hx,HA.out]
   omega
end Go.Proofs.YtkghmgoefiepeaaGreatDoor.reads
