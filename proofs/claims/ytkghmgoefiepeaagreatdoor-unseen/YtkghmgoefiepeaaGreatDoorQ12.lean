import Derived.Deep.RegionHeld3
import Derived.Deep.DrawnRows
import Derived.Test.YtkghmgoefiepeaaGreatDoorQ0
import Derived.Test.YtkghmgoefiepeaaGreatDoorQ11
set_option linter.unusedSimpArgs false
set_option linter.unusedVariables false
set_option maxHeartbeats 4000000
set_option maxRecDepth 100000
namespace Go.Proofs.YtkghmgoefiepeaaGreatDoor.reads
open Go.ChangeShapes Go.WideShapes Go.ChangeAt Go.RowKit Kn
structure Spot (w:World) (F Z:Nat) (a h K:Nat) (n:Int) (s2 s3 s4:ByteArray):Prop where
 flt:F < w.heap.size
 zlt:Z < w.heap.size
 f0:w.cell? ⟨F,0,none⟩=some (.int .i64 (a:Nat))
 f1:w.cell? ⟨F,1,none⟩=some (.int .i64 (h:Nat))
 z0:w.cell? ⟨Z,0,none⟩=some (.int .i64 (K:Nat))
 z1:w.cell? ⟨Z,1,none⟩=some (.int .i64 n)
 z2:w.cell? ⟨Z,2,none⟩=some (.string s2)
 z3:w.cell? ⟨Z,3,none⟩=some (.string s3)
 z4:w.cell? ⟨Z,4,none⟩=some (.string s4)
 z5:w.cell? ⟨Z,5,none⟩=some (.pointer none)
variable {w w' : World}
theorem Spot.same {F Z a h K:Nat}{n:Int}{s2 s3 s4:ByteArray} (hs:Spot w F Z a h K n s2 s3 s4) (hF:w'.heap[F]?=w.heap[F]?) (hZ:w'.heap[Z]?=w.heap[Z]?) (hsz:w.heap.size≤w'.heap.size):Spot w' F Z a h K n s2 s3 s4 :=
 ⟨Nat.lt_of_lt_of_le hs.flt hsz, Nat.lt_of_lt_of_le hs.zlt hsz, (World.cell?_of_block hF).trans hs.f0, (World.cell?_of_block hF).trans hs.f1, (World.cell?_of_block hZ).trans hs.z0, (World.cell?_of_block hZ).trans hs.z1,
  (World.cell?_of_block hZ).trans hs.z2,(World.cell?_of_block hZ).trans hs.z3,(World.cell?_of_block hZ).trans hs.z4,(World.cell?_of_block hZ).trans hs.z5⟩
theorem Spot.below {F Z a h K:Nat}{n:Int}{s2 s3 s4:ByteArray} (hs:Spot w F Z a h K n s2 s3 s4) (hb:Below w.heap.size w w'):Spot w' F Z a h K n s2 s3 s4:=hs.same (hb.block F hs.flt) (hb.block Z hs.zlt) hb.size
theorem spot_new (w:World) (a h K:Nat) (n:Int) (s2 s3 s4:ByteArray) (t1 t2:TypeId):Spot ((w.alloc (.cells #[.int .i64 (a:Nat),.int .i64 (h:Nat)] t1)).alloc (.cells #[.int .i64 (K:Nat),.int .i64 n,.string s2,.string s3,.string s4,.pointer none] t2)) w.heap.size (w.heap.size+1) a h K n s2 s3 s4:=by
 have h1:=(MapKept.heap_alloc w (.cells #[.int .i64 (a:Nat),.int .i64 (h:Nat)] t1)).1
 have h2:=(MapKept.heap_alloc (w.alloc (.cells #[.int .i64 (a:Nat),.int .i64 (h:Nat)] t1)) (.cells #[.int .i64 (K:Nat),.int .i64 n,.string s2,.string s3,.string s4,.pointer none] t2)).1
 rw [World.size_alloc] at h2
 have h3:=(Below.heap_alloc (w.alloc (.cells #[.int .i64 (a:Nat),.int .i64 (h:Nat)] t1)) (.cells #[.int .i64 (K:Nat),.int .i64 n,.string s2,.string s3,.string s4,.pointer none] t2) w.heap.size (by simp)).trans h1
 refine ⟨by simp;omega,by simp,?_,?_,?_,?_,?_,?_,?_,?_⟩
 all_goals (simp only [World.cell?,h2,h3];rfl)
variable {w0 : World}
theorem wi_done {ws:List (W×Nat)}{vw va:Value}{b a k:Nat}{H:Nat→Nat}{Fd:Nat→Bool}{A:List (Nat×Nat)} (h:Wi w0 w ws vw b H Fd va A (fun i j=>i=a∧j=k)) (hok:okAt ws a k) (ht:∀ t∈tg ws a,mks ws H t (nx ws a k)=true):Wi w0 w ws vw b H Fd va A (fun _ _=>False) :=
 ⟨h.wk,h.lo,h.below,h.own,h.hH,h.reach,h.bad,h.inA,fun i j hi hj=>by
  rcases h.gone i j hi hj with ⟨rfl,rfl⟩ | hm | hg
  · exact .inr (.inr fun _=>⟨fun _ t htg=>ht t htg,fun ho=>absurd hok ho⟩)
  · exact .inr (.inl hm)
  · exact .inr (.inr hg)⟩
theorem wi_bad {ws:List (W×Nat)}{vw va:Value}{b a k:Nat}{H:Nat→Nat}{Fd:Nat→Bool}{A:List (Nat×Nat)} (h:Wi w0 w ws vw b H Fd va A (fun i j=>i=a∧j=k)) (ha:a < 40) (hr:Kn.Reach ws a k) (ho:¬ okAt ws a k):Wi w0 (w.setCell ⟨b,41+a,none⟩ (.bool true)) ws vw b H (markB Fd a) va A (fun _ _=>False) :=
 ⟨h.wk.setF ha, h.lo, h.below.setCell (by show w0.heap.size ≤ b; exact h.lo) _,
  h.own.kept (row:=some b) ⟨rfl,rfl,rfl,by simp [World.setCell],fun k hk hne=>Below.heap_setCell _ _ _ _ (by intro e;exact hne (by rw [e]))⟩ (.inr (fun e=>by have:=(h.own.lt b e).1;omega)),
  h.hH,h.reach,fun i hi=>by
   by_cases e:i=a
   · subst e;exact ⟨k,hr,ho⟩
   · simp [markB,e] at hi;exact h.bad i hi,h.inA,fun i j hi hj=>by
   rcases h.gone i j hi hj with ⟨rfl,rfl⟩ | hm | hg
   · exact .inr (.inr fun _=>⟨fun h'=>absurd h' ho,fun _=>by simp [markB]⟩)
   · exact .inr (.inl hm)
   · exact .inr (.inr (gone_bad hg))⟩
theorem arrive_at (ws:List (W×Nat)) (p:Option Addr) (cap b a h:Nat) (x:Int) (H:Nat→Nat) (Fd:Nat→Bool) (va:Value) (A:List (Nat×Nat)) (X:Nat→Nat→Prop) (w0 w:World) (hx:x=(a:Int)) (hn:ws.length≤40) (ha:a≤ws.length) (hh:h≤16) (hr:Kn.Reach ws a h) (hA:A.length≤5000)
 (hi:Wi w0 w ws (.slice p ws.length cap) b H Fd va A X) :
 Calls Tryz.prog 80 #[.pointer (some ⟨b,0,none⟩),.int .i64 x,.int .i64 h] w fun e w'=>e=.returned (.tuple #[])∧∃ (H':Nat→Nat) (va':Value) (A':List (Nat×Nat)),Wi w0 w' ws (.slice p ws.length cap) b H' Fd va' A' X ∧
  mks ws H' a h=true∧(∀ i k,mks ws H i k=true→mks ws H' i k=true)∧A'.length+2*unm ws.length (mks ws H')≤A.length+2*unm ws.length (mks ws H) ∧
  w.heap.size≤w'.heap.size∧∀ k,k < w.heap.size→k≠b→va.ownBlock≠some k→w'.heap[k]?=w.heap[k]?:=by
 subst hx
 exact arrive_any ws p cap b a h H Fd va A X w0 w hn ha hh hr hA hi
theorem EffAt.drew {k t l:Nat}{sd jp st:Bool} (h:EffAt w k t l sd jp st):EffAt w.drew k t l sd jp st:=⟨h.c0,h.c1,h.c2,h.c3,h.c4⟩
theorem undrew (h:Below w.drew.heap.size w.drew w'):Below w.heap.size w w':=⟨h.os,h.tape,h.output,h.size,h.block⟩
theorem step_any (ws:List (W×Nat)) (p:Option Addr) (g cap b a h:Nat) (H:Nat→Nat) (Fd:Nat→Bool) (va:Value) (A:List (Nat×Nat)) (w0 w:World) (hn:ws.length≤40) (ha:a < ws.length) (hh:h≤16) (hbit:(H a).testBit h=true) (hA:A.length+2*unm ws.length (mks ws H)≤5000)
 (hw:KAt w0 p g ws) (hf:∀ (i:Nat) (x:W×Nat),ws[i]?=some x→Fine x.1 ws.length) (hge:0 < w0.heap.size) (hE:HasEff w0)
 (hi:Wi w0 w ws (.slice p ws.length cap) b H Fd va A (fun i k=>i=a∧k=h)) :
 Calls Tryz.prog 81 #[.pointer (some ⟨b,0,none⟩),.agg #[.int .i64 a,.int .i64 h]] w fun e w'=>e=.returned (.tuple #[])∧∃ (H':Nat→Nat) (Fd':Nat→Bool) (va':Value) (A':List (Nat×Nat)),Wi w0 w' ws (.slice p ws.length cap) b H' Fd' va' A' (fun _ _=>False) ∧
  (∀ i k,mks ws H i k=true→mks ws H' i k=true)∧A'.length+2*unm ws.length (mks ws H')≤A.length+2*unm ws.length (mks ws H):=by
 obtain ⟨x,hx⟩:∃ x,ws[a]?=some x:=⟨_,List.getElem?_eq_getElem ha⟩
 have hwx:wAt ws a=x.1:=by unfold wAt;rw [hx];rfl
 have hfx:=hf a x hx
 obtain rfl:p=some ⟨g,0,none⟩:=hw.head (by omega)
 have hat:=hw.below (Nat.le_refl _) hi.below
 have hgl:g < w.heap.size:=Nat.lt_of_lt_of_le (hw.lt (by omega)) hi.below.size
 have d0:=hat.c0 a x hx
 have d1:=hat.c1 a x hx
 have d2:=hat.c2 a x hx
 have d3:=hat.c3 a x hx
 have d4:=hat.c4 a x hx
 have d5:=hat.c5 a x hx
 have c0:=hi.wk.c0
 have hbl:=hi.wk.lt
 have hlo:=hfx.lo
 have hhi:=hfx.hi
 obtain ⟨t,l,sd,jp,st,he⟩:=eff_of x.1.k x.1.n hfx.kind
 have HEF:Hid _:=he
 have HFX:Hid _:=hfx
 have HX:Hid _:=hwx
 have HI:Hid _:=hi
 have HEW:Hid (HasEff w0):=hE
 have hkk:=he.lt
 have ht2:=he.ht
 have hl2:=he.hl
 clear hx hwx hfx he hat hw hf hi hE
 obtain ⟨⟨xk,xn,xs,xa,xb⟩,xi⟩:=x
 simp only at d0 d1 d2 d3 d4 hlo hhi hkk HEF HFX HX
 obtain ⟨kk,hKe⟩:∃ kk,kindOf xk=kk:=⟨_,rfl⟩
 have HER:Hid (effTab[kk]?=some (t,l,sd,jp,st)):=by
  have hx1:effTab[kk]?=some (t,l,sd,jp,st):=by rw [← hKe];exact HEF.out.row
  exact hx1
 rw [hKe] at d0 hkk
 clear hKe
 have hKi:(kk:Int) < 23:=by omega
 go_enter Tryz.func81,Tryz.ntmps81
 go_wp2
 go_region
 have hsp:Spot ((w.alloc (.cells #[.int .i64 (a:Nat),.int .i64 (h:Nat)] 160)).alloc (.cells #[.int .i64 (kk:Nat),.int .i64 xn,.string (ofL xa),.string (ofL xs),.string (ofL xb),.pointer none] 146)).drew w.heap.size (w.heap.size+1) a h kk xn (ofL xa) (ofL xs) (ofL xb):=(spot_new w a h kk xn (ofL xa) (ofL xs) (ofL xb) _ _).same rfl rfl (Nat.le_refl _)
 have hw1:Below w.heap.size w ((w.alloc (.cells #[.int .i64 (a:Nat),.int .i64 (h:Nat)] 160)).alloc (.cells #[.int .i64 (kk:Nat),.int .i64 xn,.string (ofL xa),.string (ofL xs),.string (ofL xb),.pointer none] 146)).drew:=(((Below.refl _ _).alloc (Nat.le_refl _) _).alloc (by simp) _).drew
 revert hsp hw1
 generalize ((w.alloc (.cells #[.int .i64 (a:Nat),.int .i64 (h:Nat)] 160)).alloc (.cells #[.int .i64 (kk:Nat),.int .i64 xn,.string (ofL xa),.string (ofL xs),.string (ofL xb),.pointer none] 146)).drew=W1
 intro hsp hw1
 have hi1:Hid (Wi w0 W1 ws (.slice (some ⟨g,0,none⟩) ws.length cap) b H Fd va A (fun i k=>i=a∧k=h)):=HI.out.mono hw1
 have hFv:Hid (va.ownBlock≠some w.heap.size∧va.ownBlock≠some (w.heap.size+1)):=by
  have hx1:va.ownBlock≠some w.heap.size∧va.ownBlock≠some (w.heap.size+1):=⟨fun e=>by have:=(HI.out.own.lt _ e).2;omega,fun e=>by have:=(HI.out.own.lt _ e).2;omega⟩
  exact hx1
 have hFb:b≠w.heap.size:=by omega
 have hZb:b≠w.heap.size+1:=by omega
 clear d0 d1 d2 d3 d4 d5 c0 hbl hgl hw1
 clear HI
 revert hsp hFv hFb hZb
 generalize w.heap.size+1=Z
 generalize w.heap.size=F
 intro hsp hFv hFb hZb
 have HSP:Hid _:=hsp
 clear hsp
 have hE1:=(HEW.out.below hge hi1.out.below) kk t l sd jp st HER.out
 have HE1:Hid _:=hE1
 have hge1:0 < W1.heap.size:=Nat.lt_of_lt_of_le hge hi1.out.below.size
 clear hE1
 obtain ⟨tn,htn⟩:∃ tn:Nat,effTakes t sd xn=(tn:Int):=by
  have:=(fine_takes HFX.out).1
  simp only at this
  rw [HEF.out.takes] at this
  exact ⟨_,(Int.toNat_of_nonneg this).symm⟩
 have htn4:tn≤4:=by
  have:=(fine_takes HFX.out).2.1
  simp only at this
  rw [HEF.out.takes,htn] at this
  omega
 have HTN:Hid _:=htn
 clear htn
 have f1:=HSP.out.f1
 have z0:=HSP.out.z0
 have z1:=HSP.out.z1
 have z2:=HSP.out.z2
 have z3:=HSP.out.z3
 have z4:=HSP.out.z4
 have z5:=HSP.out.z5
 have e1:=HE1.out.c1
 go_wp2_with fail
 refine wp_region_noPanic ?_
 refine wp_region_held_drew (S:=(fun w'=>w'.cell? ⟨F,1,none⟩=some (.int .i64 (h:Nat))∧w'.cell? ⟨Z,0,none⟩=some (.int .i64 (kk:Nat))∧w'.cell? ⟨Z,1,none⟩=some (.int .i64 xn)∧w'.cell? ⟨Z,2,none⟩=some (.string (ofL xa))∧w'.cell? ⟨Z,3,none⟩=some (.string (ofL xs))∧w'.cell? ⟨Z,4,none⟩=some (.string (ofL xb))∧w'.cell? ⟨Z,5,none⟩=some (.pointer none)∧w'.cell? ⟨0,kk*5+1,none⟩=some (.int .i64 (l:Nat)))) (by kernel_rfl) (by go_keep) (fun hHeld=>?_)
 refine tkH 0 ?_
 refine tkH 1 ?_
 refine tkH 2 ?_
 refine tkH 5 ?_
 refine tkH 6 ?_
 refine tkH 7 ?_
 refine tkH 8 ?_
 refine tkL 9 ?_
 refine rdH 3 fun Kmac hKmac=>?_
 go_simp
 refine (ktakes_any kk t l sd jp st xn _ _ _ _ hkk ht2 hlo hhi (show 0 < W1.drew.heap.size from hge1) HE1.out.drew).mono ?_;rintro e W2 ⟨rfl,hb⟩;rw [HTN.out];have hb2:Below W1.heap.size W1 W2:=undrew hb;have HSP2:Hid (Spot W2 F Z a h kk xn (ofL xa) (ofL xs) (ofL xb)):=HSP.out.below hb2;have hi2:Hid (Wi w0 W2 ws (.slice (some ⟨g,0,none⟩) ws.length cap) b H Fd va A (fun i k=>i=a∧k=h)):=hi1.out.mono hb2;have HE2:Hid (EffAt W2 kk t l sd jp st):=(HEW.out.below hge hi2.out.below) kk t l sd jp st HER.out;have hge2:0 < W2.heap.size:=Nat.lt_of_lt_of_le hge1 hb2.size;clear f1 z0 z1 z2 z3 z4 z5 e1 hb hb2;have f1:=HSP2.out.f1;have z0:=HSP2.out.z0;have z1:=HSP2.out.z1;have z2:=HSP2.out.z2;have z3:=HSP2.out.z3;have z4:=HSP2.out.z4;have z5:=HSP2.out.z5;have e1:=HE2.out.c1
 try go_wp2_with fail
 refine hKmac.go fun hHeld=>?_
 clear hKmac Kmac
 try refine lyH ?_
 refine tkH 4 ?_
 refine tkH 10 ?_
 refine tkL 11 ?_
 refine wpAnyH_done (by kernel_rfl) ?_ _
 refine NoPanic.normal ?_
 have hwr1:IntKind.i64.wrap ((h:Int) - (tn:Int))=(h:Int) - tn:=by rw [IntKind.wrap_i64];omega
 have hwr2:IntKind.i64.wrap ((h:Int) - (tn:Int)+(l:Int))=(h:Int) - tn+l:=by rw [IntKind.wrap_i64];omega
 simp only [hwr1,hwr2]
 clear hwr1 hwr2 hi1 HSP HE1 hge1 hHeld
 clear hHeld
 have HTK:Hid (tk ws a=tn∧ly ws a=l∧tg ws a=((if st then [] else [(a:Int)+1])++(if jp then [xn] else [])).map Int.toNat):=by
  have hx1:tk ws a=tn∧ly ws a=l∧tg ws a=((if st then [] else [(a:Int)+1])++(if jp then [xn] else [])).map Int.toNat:=by
   unfold tk ly tg
   rw [HX.out]
   simp only
   rw [HEF.out.takes,HEF.out.lays,HEF.out.goes,HTN.out]
   exact ⟨Int.toNat_natCast _,Int.toNat_natCast _,rfl⟩
  exact hx1
 have hm1:mks ws H a h=true:=by rw [mks_in ha];exact hbit
 have HM:Hid _:=hm1
 clear hm1
 by_cases hok:tn≤h∧h - tn+l≤16
 · obtain ⟨hok1,hok2⟩:=hok
   obtain ⟨m,hm⟩:∃ m:Nat,(h:Int) - (tn:Int)+(l:Int)=(m:Int):=⟨h - tn+l,by omega⟩
   have hm16:m≤16:=by omega
   have HO:Hid (okAt ws a h∧nx ws a h=m):=by
    have hx1:okAt ws a h∧nx ws a h=m:=by
     unfold okAt nx;rw [HTK.out.1,HTK.out.2.1];omega
    exact hx1
   rw [hm]
   have t1:decide (h < tn)=false:=by simp;omega
   have t2:decide (16 < m)=false:=by simp;omega
   clear hm hok1 hok2
   have HR:Hid (Kn.Reach ws a h):=hi2.out.reach _ _ HM.out
   go_wp2_with fail
   refine wp_region_noPanic ?_
   refine wp_region_held_drew (S:=(fun w'=>w'.cell? ⟨F,1,none⟩=some (.int .i64 (h:Nat))∧w'.cell? ⟨Z,0,none⟩=some (.int .i64 (kk:Nat))∧w'.cell? ⟨Z,1,none⟩=some (.int .i64 xn)∧w'.cell? ⟨Z,2,none⟩=some (.string (ofL xa))∧w'.cell? ⟨Z,3,none⟩=some (.string (ofL xs))∧w'.cell? ⟨Z,4,none⟩=some (.string (ofL xb))∧w'.cell? ⟨Z,5,none⟩=some (.pointer none)∧w'.cell? ⟨0,kk*5+1,none⟩=some (.int .i64 (l:Nat)))) (by kernel_rfl) (by go_keep) (fun hHeld=>?_)
   refine tkH 0 ?_
   refine tkH 1 ?_
   refine tkL 2 ?_
   refine rdH 3 fun Kmac hKmac=>?_
   go_simp
   refine (ktakes_any kk t l sd jp st xn _ _ _ _ hkk ht2 hlo hhi (show 0 < W2.drew.heap.size from hge2) HE2.out.drew).mono ?_;rintro e W3 ⟨rfl,hb⟩;rw [HTN.out];have hb3:Below W2.heap.size W2 W3:=undrew hb;have HSP3:Hid (Spot W3 F Z a h kk xn (ofL xa) (ofL xs) (ofL xb)):=HSP2.out.below hb3;have hi3:Hid (Wi w0 W3 ws (.slice (some ⟨g,0,none⟩) ws.length cap) b H Fd va A (fun i k=>i=a∧k=h)):=hi2.out.mono hb3;have HE3:Hid (EffAt W3 kk t l sd jp st):=(HEW.out.below hge hi3.out.below) kk t l sd jp st HER.out;have hge3:0 < W3.heap.size:=Nat.lt_of_lt_of_le hge2 hb3.size;clear f1 z0 z1 z2 z3 z4 z5 e1 hb hb3;have f1:=HSP3.out.f1;have z0:=HSP3.out.z0;have z1:=HSP3.out.z1;have z2:=HSP3.out.z2;have z3:=HSP3.out.z3;have z4:=HSP3.out.z4;have z5:=HSP3.out.z5;have e1:=HE3.out.c1
   try go_wp2_with fail
   refine hKmac.go fun hHeld=>?_
   clear hKmac Kmac
   try refine lyH ?_
   refine tkH 4 ?_
   refine tkL 5 ?_
   try simp only [t1]
   refine tkH 6 ?_
   refine tkL 7 ?_
   try simp only [t2]
   refine tkL 8 ?_
   refine wpAnyH_done (by kernel_rfl) ?_ _
   refine NoPanic.normal ?_
   clear hHeld
   clear hHeld
   have e3:=HE3.out.c3
   have f0:=HSP3.out.f0
   have hpos:∀ q:Nat,q∈tg ws a→Kn.Reach ws q m:=fun q hq=>by
    have:=reach_step ha HR.out HO.out.1 hq
    rw [HO.out.2] at this
    exact this
   have HP:Hid _:=hpos
   clear hpos HE2 HSP2 hi2 hge2
   have hA5:A.length≤5000:=by omega
   cases jp
   · cases st
     · have e4:=HE3.out.c4
       have HTG:Hid (tg ws a=[a+1]):=by
        have hx1:tg ws a=[a+1]:=by rw [HTK.out.2.2];simp
        exact hx1
       go_wp2_with fail
       refine (arrive_at ws _ cap b (a+1) m _ H Fd va A _ w0 W3 (by omega) hn (by omega) hm16 (HP.out _ (by rw [HTG.out];simp)) hA5 hi3.out).mono ?_
       rintro e W4 ⟨rfl,H4,va4,A4,hwi,hmk,hmono,hms,_,_⟩
       go_wp2
       go_end0
       exact ⟨rfl,H4,Fd,va4,A4,wi_done hwi HO.out.1 (fun t ht=>by rw [HTG.out] at ht;simp at ht;subst ht;rw [HO.out.2];exact hmk),hmono,hms⟩
     · have e4:=HE3.out.c4
       have HTG:Hid (tg ws a=[]):=by
        have hx1:tg ws a=[]:=by rw [HTK.out.2.2];simp
        exact hx1
       go_wp2
       go_end0
       exact ⟨rfl,H,Fd,va,A,wi_done hi3.out HO.out.1 (fun t ht=>by rw [HTG.out] at ht;cases ht),fun _ _ h=>h,Nat.le_refl _⟩
   · have hgo:=HFX.out.goto (HEF.out.jumps.1 rfl)
     simp only at hgo
     obtain ⟨q,rfl⟩:=Int.eq_ofNat_of_zero_le hgo.1
     have hqn:q≤ws.length:=by omega
     clear hgo
     have HTG:Hid (tg ws a=(if st then [] else [a+1])++[q]):=by
      have hx1:tg ws a=(if st then [] else [a+1])++[q]:=by rw [HTK.out.2.2];cases st <;> simp <;> omega
      exact hx1
     go_wp2_with fail
     refine (arrive_at ws _ cap b q m _ H Fd va A _ w0 W3 rfl hn hqn hm16 (HP.out _ (by rw [HTG.out];simp)) hA5 hi3.out).mono ?_
     rintro e W4 ⟨rfl,H4,va4,A4,hwi,hmk,hmono,hms,hsz,hfr⟩
     have HSP4:Hid (Spot W4 F Z a h kk (q:Int) (ofL xa) (ofL xs) (ofL xb)):=HSP3.out.same (hfr F HSP3.out.flt (Ne.symm hFb) hFv.out.1) (hfr Z HSP3.out.zlt (Ne.symm hZb) hFv.out.2) hsz
     have HI4:Hid _:=hwi
     have HE4:Hid (EffAt W4 kk t l sd true st):=(HEW.out.below hge HI4.out.below) kk t l sd true st HER.out
     have HMK:Hid (mks ws H4 q m=true∧(∀ i k,mks ws H i k=true→mks ws H4 i k=true)∧A4.length+2*unm ws.length (mks ws H4)≤A.length+2*unm ws.length (mks ws H)):=⟨hmk,hmono,hms⟩
     have hA6:A4.length≤5000:=by omega
     clear f1 z0 z1 z2 z3 z4 z5 e1 e3 f0 hfr hwi hmk hmono hms
     have z0:=HSP4.out.z0
     have f0:=HSP4.out.f0
     have e4:=HE4.out.c4
     cases st
     · go_wp2_with fail
       refine (arrive_at ws _ cap b (a+1) m _ H4 Fd va4 A4 _ w0 W4 (by omega) hn (by omega) hm16 (HP.out _ (by rw [HTG.out];simp)) hA6 HI4.out).mono ?_
       rintro e W5 ⟨rfl,H5,va5,A5,hwi,hmk,hmono,hms,_,_⟩
       go_wp2
       go_end0
       refine ⟨rfl,H5,Fd,va5,A5,wi_done hwi HO.out.1 (fun t ht=>?_),fun i k hik=>hmono i k (HMK.out.2.1 i k hik),Nat.le_trans hms HMK.out.2.2⟩
       rw [HTG.out] at ht
       simp at ht
       rw [HO.out.2]
       rcases ht with rfl | rfl
       · exact hmk
       · exact hmono _ _ HMK.out.1
     · go_wp2
       go_end0
       refine ⟨rfl,H4,Fd,va4,A4,wi_done HI4.out HO.out.1 (fun t ht=>?_),HMK.out.2.1,HMK.out.2.2⟩
       rw [HTG.out] at ht
       simp at ht
       subst ht
       rw [HO.out.2]
       exact HMK.out.1
 · have HO:Hid (¬ okAt ws a h):=by
    have hx1:¬ okAt ws a h:=by unfold okAt;rw [HTK.out.1,HTK.out.2.1];exact hok
    exact hx1
   have HR:Hid (Kn.Reach ws a h):=hi2.out.reach _ _ HM.out
   have h40:(a:Int) < 40:=by omega
   by_cases hlt:h < tn
   · have t1:decide (h < tn)=true:=by simp;omega
     clear hok
     go_wp2_with fail
     refine wp_region_noPanic ?_
     refine wp_region_held_drew (S:=(fun w'=>w'.cell? ⟨F,1,none⟩=some (.int .i64 (h:Nat))∧w'.cell? ⟨Z,0,none⟩=some (.int .i64 (kk:Nat))∧w'.cell? ⟨Z,1,none⟩=some (.int .i64 xn)∧w'.cell? ⟨Z,2,none⟩=some (.string (ofL xa))∧w'.cell? ⟨Z,3,none⟩=some (.string (ofL xs))∧w'.cell? ⟨Z,4,none⟩=some (.string (ofL xb))∧w'.cell? ⟨Z,5,none⟩=some (.pointer none)∧w'.cell? ⟨0,kk*5+1,none⟩=some (.int .i64 (l:Nat)))) (by kernel_rfl) (by go_keep) (fun hHeld=>?_)
     refine tkH 0 ?_
     refine tkH 1 ?_
     refine tkL 2 ?_
     refine rdH 3 fun Kmac hKmac=>?_
     go_simp
     refine (ktakes_any kk t l sd jp st xn _ _ _ _ hkk ht2 hlo hhi (show 0 < W2.drew.heap.size from hge2) HE2.out.drew).mono ?_;rintro e W3 ⟨rfl,hb⟩;rw [HTN.out];have hb3:Below W2.heap.size W2 W3:=undrew hb;have HSP3:Hid (Spot W3 F Z a h kk xn (ofL xa) (ofL xs) (ofL xb)):=HSP2.out.below hb3;have hi3:Hid (Wi w0 W3 ws (.slice (some ⟨g,0,none⟩) ws.length cap) b H Fd va A (fun i k=>i=a∧k=h)):=hi2.out.mono hb3;have HE3:Hid (EffAt W3 kk t l sd jp st):=(HEW.out.below hge hi3.out.below) kk t l sd jp st HER.out;have hge3:0 < W3.heap.size:=Nat.lt_of_lt_of_le hge2 hb3.size;clear f1 z0 z1 z2 z3 z4 z5 e1 hb hb3;have f1:=HSP3.out.f1;have z0:=HSP3.out.z0;have z1:=HSP3.out.z1;have z2:=HSP3.out.z2;have z3:=HSP3.out.z3;have z4:=HSP3.out.z4;have z5:=HSP3.out.z5;have e1:=HE3.out.c1
     try go_wp2_with fail
     refine hKmac.go fun hHeld=>?_
     clear hKmac Kmac
     try refine lyH ?_
     refine tkH 4 ?_
     refine tkL 5 ?_
     try simp only [t1]
     refine wpAnyH_take (i:=6) (oi:=_) (v:=_) rfl (by kernel_rfl) (by kernel_rfl) (by kernel_rfl) (fun _ _ _ h=>h) (Or.inr ⟨by rfl,rfl⟩) (by assumption) ?_
     simp only [Act.put,List.getElem_toArray,List.getElem_cons_zero,List.getElem_cons_succ,List.setIfInBounds_toArray,List.set_cons_zero,List.set_cons_succ]
     refine wpAnyH_take (i:=7) (oi:=_) (v:=_) rfl (by kernel_rfl) (by kernel_rfl) (by kernel_rfl) (fun _ _ _ h=>h) (Or.inr ⟨by rfl,rfl⟩) (by assumption) ?_
     simp only [Act.put,List.getElem_toArray,List.getElem_cons_zero,List.getElem_cons_succ,List.setIfInBounds_toArray,List.set_cons_zero,List.set_cons_succ]
     refine tkL 8 ?_
     refine wpAnyH_done (by kernel_rfl) ?_ _
     refine NoPanic.normal ?_
     clear hHeld
     clear hHeld
     have f0:=HSP3.out.f0
     have k1:=hi3.out.wk.cf a (by omega)
     have k2:=hi3.out.wk.free (41+a)
     go_wp2_with fail
     go_region
     go_wp2
     refine bodyPost_ret (results_none rfl _ _ _) rfl ?_
     exact ⟨rfl,H,_,va,A,((wi_bad hi3.out (by omega) HR.out HO.out).mono ⟨rfl,rfl,rfl,Nat.le_refl _,fun _ _=>rfl⟩),fun _ _ h=>h,Nat.le_refl _⟩
   · obtain ⟨m,hm⟩:∃ m:Nat,(h:Int) - (tn:Int)+(l:Int)=(m:Int):=⟨h - tn+l,by omega⟩
     rw [hm]
     have t1:decide (h < tn)=false:=by simp;omega
     have t2:decide (16 < m)=true:=by simp;omega
     have t3:16 < m:=by omega
     clear hok hm hlt
     go_wp2_with fail
     refine wp_region_noPanic ?_
     refine wp_region_held_drew (S:=(fun w'=>w'.cell? ⟨F,1,none⟩=some (.int .i64 (h:Nat))∧w'.cell? ⟨Z,0,none⟩=some (.int .i64 (kk:Nat))∧w'.cell? ⟨Z,1,none⟩=some (.int .i64 xn)∧w'.cell? ⟨Z,2,none⟩=some (.string (ofL xa))∧w'.cell? ⟨Z,3,none⟩=some (.string (ofL xs))∧w'.cell? ⟨Z,4,none⟩=some (.string (ofL xb))∧w'.cell? ⟨Z,5,none⟩=some (.pointer none)∧w'.cell? ⟨0,kk*5+1,none⟩=some (.int .i64 (l:Nat)))) (by kernel_rfl) (by go_keep) (fun hHeld=>?_)
     refine tkH 0 ?_
     refine tkH 1 ?_
     refine tkL 2 ?_
     refine rdH 3 fun Kmac hKmac=>?_
     go_simp
     refine (ktakes_any kk t l sd jp st xn _ _ _ _ hkk ht2 hlo hhi (show 0 < W2.drew.heap.size from hge2) HE2.out.drew).mono ?_;rintro e W3 ⟨rfl,hb⟩;rw [HTN.out];have hb3:Below W2.heap.size W2 W3:=undrew hb;have HSP3:Hid (Spot W3 F Z a h kk xn (ofL xa) (ofL xs) (ofL xb)):=HSP2.out.below hb3;have hi3:Hid (Wi w0 W3 ws (.slice (some ⟨g,0,none⟩) ws.length cap) b H Fd va A (fun i k=>i=a∧k=h)):=hi2.out.mono hb3;have HE3:Hid (EffAt W3 kk t l sd jp st):=(HEW.out.below hge hi3.out.below) kk t l sd jp st HER.out;have hge3:0 < W3.heap.size:=Nat.lt_of_lt_of_le hge2 hb3.size;clear f1 z0 z1 z2 z3 z4 z5 e1 hb hb3;have f1:=HSP3.out.f1;have z0:=HSP3.out.z0;have z1:=HSP3.out.z1;have z2:=HSP3.out.z2;have z3:=HSP3.out.z3;have z4:=HSP3.out.z4;have z5:=HSP3.out.z5;have e1:=HE3.out.c1
     try go_wp2_with fail
     refine hKmac.go fun hHeld=>?_
     clear hKmac Kmac
     try refine lyH ?_
     refine tkH 4 ?_
     refine tkL 5 ?_
     try simp only [t1]
     refine tkH 6 ?_
     refine tkL 7 ?_
     try simp only [t2]
     refine tkL 8 ?_
     refine wpAnyH_done (by kernel_rfl) ?_ _
     refine NoPanic.normal ?_
     clear hHeld
     clear hHeld
     have f0:=HSP3.out.f0
     have k1:=hi3.out.wk.cf a (by omega)
     have k2:=hi3.out.wk.free (41+a)
     go_wp2_with fail
     go_region
     go_wp2
     refine bodyPost_ret (results_none rfl _ _ _) rfl ?_
     exact ⟨rfl,H,_,va,A,((wi_bad hi3.out (by omega) HR.out HO.out).mono ⟨rfl,rfl,rfl,Nat.le_refl _,fun _ _=>rfl⟩),fun _ _ h=>h,Nat.le_refl _⟩
end Go.Proofs.YtkghmgoefiepeaaGreatDoor.reads
