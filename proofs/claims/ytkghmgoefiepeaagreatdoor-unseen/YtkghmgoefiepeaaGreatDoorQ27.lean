import Derived.Test.YtkghmgoefiepeaaGreatDoorRows
import Derived.ProofKit
import Derived.LaidMore
import Derived.OpenShut
import Derived.Stop.Joined
import Derived.Test.YtkghmgoefiepeaaGreatDoorQ0
import Derived.Test.YtkghmgoefiepeaaGreatDoorQ15
import Derived.Test.YtkghmgoefiepeaaGreatDoorQ23
import Derived.Test.YtkghmgoefiepeaaGreatDoorQ24
import Derived.Test.YtkghmgoefiepeaaGreatDoorQ26
set_option linter.unusedSimpArgs false
set_option linter.unusedVariables false
set_option maxHeartbeats 4000000
set_option maxRecDepth 100000
namespace Go.Proofs.YtkghmgoefiepeaaGreatDoor.reads
open Go.ChangeShapes Go.WideShapes Go.ChangeAt Go.RowKit Kn Go.Proofs.YtkghmgoefiepeaaGreatDoor.img
variable {w : World}
theorem starts_at {B:Nat}{e:TypeId}{v:Value}{ws:List (W×Nat)} (h:w.ownsRow B e 1 v ws.length (startsOf ws)):∃ p g cap,v=.slice p ws.length cap∧∀ j x,ws[j]?=some x→p=some ⟨g,0,none⟩∧w.cell? ⟨g,j,none⟩=some (.int .i64 (x.2:Nat)):=by
 have hc:=fun g hg=>h.cells (g:=g) hg
 rcases h.2 with ⟨rfl,h0⟩ | ⟨g,cap,cur,rfl,hb,hg,hn,_⟩
 · refine ⟨none,0,0,by rw [h0],fun j x hx=>?_⟩
   have:=(List.getElem?_eq_some_iff.1 hx).1
   omega
 · refine ⟨some ⟨g,0,none⟩,g,cap,rfl,fun j x hx=>⟨rfl,?_⟩⟩
   have:=hc g rfl j (.int .i64 (x.2:Nat)) (by simp [startsOf,hx])
   have hadd:(⟨g,0,none⟩:Addr).add j=⟨g,j,none⟩:=by unfold Addr.add;split <;> simp_all
   rw [hadd] at this
   exact this
theorem numIs_fits {ws:List (W×Nat)}{args slots:Nat}{e i:Int} (h:NumIs ws args slots e i):(∃ j,j < ws.length∧i=(j:Int)∧(e=1∨e=7)∧FitsIs ws args slots e i)∨((∀ j,j < ws.length→¬ NumBad ws args slots j)∧e=0∧i=0):=by
 rcases h with ⟨j,hj,rfl,hb,hn,h1,h7⟩ | h
 · left
   refine ⟨j,hj,rfl,?_,.inl ⟨j,hj,rfl,hb,hn,h1,h7⟩⟩
   by_cases ha:argBad ws args j
   · exact .inl (h1 ha)
   · exact .inr (h7 ha)
 · exact .inr h
structure NewM (w w':World) (m g cap:Nat) (p:Option Addr) (ws:List (W×Nat)) (pl:Nat→Nat):Prop where
 below:Below w.heap.size w w'
 mm:w'.heap[m]?=some (.cells #[.slice p ws.length cap,.int .i64 0] 165)
 lo:w.heap.size≤m
 glo:1≤ws.length→w.heap.size≤g
 gm:1≤ws.length→g≠m
 at_:MAt w' p g ws pl ws.length
 np:NewPl w w' ws pl ws.length
theorem meth_none (cn sel src:ByteArray) (b mb:Nat) (w:World) (c0:w.cell? ⟨b,0,none⟩=some (.map (some mb))) (lk:(Instr.lookup 55 (.map (some mb)) (.string cn) false).run Tryz.prog w=.ok (.pointer none) w) :
 Calls Tryz.prog 17 #[.pointer (some ⟨b,0,none⟩),.string cn,.string sel,.string src] w fun e w'=>e=.returned (.tuple #[.int .i64 2,.int .i64 0])∧w'=w:=by
 go_enter Tryz.func17,Tryz.ntmps17
 go_wp2
 go_ret2
 exact ⟨rfl,rfl⟩
theorem meth_any (n:Nat) (cn sel src:ByteArray) (w:World) (b mb c:Nat) (R:World→Prop) (hn:n≤10) (hs1:sel.size≤140737488355328) (hs2:src.size≤140737488355328)
 (c0:w.cell? ⟨b,0,none⟩=some (.map (some mb))) (lk:(Instr.lookup 55 (.map (some mb)) (.string cn) false).run Tryz.prog w=.ok (.pointer (some ⟨c,0,none⟩)) w) (hcs:w.cell? ⟨c,3,none⟩=some (.int .i64 (n:Nat)))
 (hg0:0 < w.heap.size) (hg1:2 < w.heap.size) (hg2:1 < w.heap.size) (hE:HasEff w) (hT1:HasPlains w) (hT2:HasHeads w)
 (give:∀ (w':World) (m g cap:Nat) (p:Option Addr) (ws:List (W×Nat)) (pl:Nat→Nat),(wordsAll (bl src)).1=ws→MethodIs (bl sel) (bl src) n 0 0→NewM w w' m g cap p ws pl →
  Calls Tryz.prog 44 #[.pointer (some ⟨b,0,none⟩),.pointer (some ⟨c,0,none⟩),.string sel,.pointer (some ⟨m,0,none⟩)] w' fun e w''=>e=.returned (.tuple #[])∧R w'') :
 Calls Tryz.prog 17 #[.pointer (some ⟨b,0,none⟩),.string cn,.string sel,.string src] w fun e w'=>∃ r a:Int,e=.returned (.tuple #[.int .i64 r,.int .i64 a])∧MethodIs (bl sel) (bl src) n r a∧((r≠0∧Below w.heap.size w w')∨(r=0∧R w')):=by
 have HG:Hid (HasEff w∧HasPlains w∧HasHeads w):=⟨hE,hT1,hT2⟩
 have hcl:=World.block_lt_of_cell? w ⟨c,3,none⟩ hcs
 clear hE hT1 hT2
 go_enter Tryz.func17,Tryz.ntmps17
 go_wp2_with fail
 refine (isSelector_any sel w hs1).mono ?_
 rintro e w1 ⟨rfl,hb1⟩
 clear c0 lk
 cases hsel:selector (bl sel)
 · go_wp2
   go_ret2
   exact ⟨1,0,rfl,.inl ⟨hsel,rfl,rfl⟩,.inl ⟨by omega,hb1⟩⟩
 · by_cases hlong:120 < src.size
   · go_wp2
     go_ret2
     exact ⟨5,0,rfl,.inr (.inl ⟨hsel,by rw [bl_length];exact hlong,rfl,rfl⟩),.inl ⟨by omega,hb1⟩⟩
   · go_wp2_with fail
     refine (clone_any src _ hs2).mono ?_
     rintro e w2 ⟨rfl,hb2⟩
     have hbW:Below w.heap.size w w2:=hb1.trans (hb2.mono hb1.size)
     go_wp2_with fail
     refine (readWords_any src w2 (by omega) (Nat.lt_of_lt_of_le hg1 hbW.size) (Nat.lt_of_lt_of_le hg2 hbW.size) ?_ ?_).mono ?_
     · exact HG.out.2.1.below hg1 hbW
     · exact HG.out.2.2.below hg2 hbW
     rintro e w3 ⟨vw,vs,rfl,hown,hb3⟩
     have hbW3:Below w.heap.size w w3:=hbW.trans (hb3.mono hbW.size)
     have hge3:0 < w3.heap.size:=Nat.lt_of_lt_of_le hg0 hbW3.size
     have HE3:Hid (HasEff w3):=HG.out.1.below hg0 hbW3
     have hz2:w.heap.size≤w2.heap.size:=hbW.size
     clear hb2 hb3 hbW
     rcases words_bad (bl src) with hw | ⟨j,hj,hw⟩
     · rw [hw]
       have hown':=hown hw
       have hwl:=words_le (bl src)
       have HFW:Hid (∀ (i:Nat) (x:W×Nat),(wordsAll (bl src)).1[i]?=some x→Fine0 x.1):=words_fine (bl src)
       have HSL:Hid (src.size≤120):=(by omega:src.size≤120)
       have HWB:Hid _:=hw
       obtain ⟨ws,hws⟩:∃ ws,(wordsAll (bl src)).1=ws:=⟨_,rfl⟩
       have HWS:Hid _:=hws
       rw [hws] at hown' hwl HFW
       clear hws hw hown hlong
       obtain ⟨p,g,cap,rfl,hat,hgc⟩:=kAt_cel hown'.1
       have hst:=hown'.2
       have HST:Hid (w3.ownsRow _ 3 1 vs ws.length (startsOf ws)):=hst
       have HK:Hid _:=hat
       have HGC:Hid (1≤ws.length→Cel w3 g∧w.heap.size≤g):=by
        have hx1:1≤ws.length→Cel w3 g∧w.heap.size≤g:=fun h=>⟨(hgc h).1,Nat.le_trans hz2 (hgc h).2⟩
        exact hx1
       clear hgc
       obtain ⟨ps,gs,cs,rfl,hsr⟩:=starts_at hst
       have HSR:Hid _:=hsr
       clear hsr
       clear hst hat hown'
       obtain ⟨q3,q8,q48,qa⟩:=sel_parts hsel
       obtain ⟨ar,har⟩:∃ ar,argsOf (bl sel)=ar:=⟨_,rfl⟩
       have HAR:Hid _:=har
       rw [har] at qa
       have HB3:Hid _:=hbW3
       have k2:=(hbW3.cell (p:=⟨c,3,none⟩) hcl).trans hcs
       have hcl3:c < w3.heap.size:=Nat.lt_of_lt_of_le hcl hbW3.size
       have HK2:Hid _:=k2
       clear hcs hbW3
       go_wp2_with fail
       refine wp_region_noPanic ?_
       refine wp_region_held_drew (S:=(fun w'=>w'.cell? ⟨c,3,none⟩=some (.int .i64 (n:Nat)))) (by kernel_rfl) (by go_keep) (fun hHeld=>?_)
       refine tkH 0 ?_
       refine tkH 1 ?_
       refine tkH 3 ?_
       refine tkH 4 ?_
       refine tkH 5 ?_
       refine tkL 6 ?_
       refine rdH 2 fun Kmac hKmac=>?_
       go_simp
       refine (argumentsOf_any sel _ hsel).mono ?_;rintro e w4 ⟨rfl,hb⟩;rw [har];have hb4:Below w3.heap.size w3 w4:=undrew hb;clear k2 hb;have k2:=(hb4.cell (p:=⟨c,3,none⟩) hcl3).trans HK2.out
       try go_wp2_with fail
       refine hKmac.go fun hHeld=>?_
       clear hKmac Kmac
       try refine lyH ?_
       refine rdH 7 fun Kmac hKmac=>?_
       go_simp
       refine (checkNumbers_any ws p g cap ar n w4 hwl qa hn (HK.out.below (Nat.le_refl _) hb4) HFW.out (Nat.lt_of_lt_of_le hge3 hb4.size) (HE3.out.below hge3 hb4)).mono ?_;rintro e w5 ⟨er,i,rfl,hnum,hb⟩;have hb5:Below w3.heap.size w3 w5:=hb4.trans (hb.mono hb4.size);clear k2 hb;have k2:=(hb5.cell (p:=⟨c,3,none⟩) hcl3).trans HK2.out
       try go_wp2_with fail
       refine hKmac.go fun hHeld=>?_
       clear hKmac Kmac
       try refine lyH ?_
       refine tkH 8 ?_
       refine tkH 9 ?_
       refine tkH 10 ?_
       refine tkH 11 ?_
       refine tkL 12 ?_
       refine wpAnyH_done (by kernel_rfl) ?_ _
       refine NoPanic.normal ?_
       clear hHeld
       clear hHeld
       clear hHeld
       have HB5:Hid (Below w.heap.size w w5):=HB3.out.trans (hb5.mono HB3.out.size)
       have HM:Hid (∀ e' i' er' a',FitsIs ws ar n er' i'→((∃ j x,i'=((j:Nat):Int)∧ws[j]?=some x∧e'=er'∧a'=((x.2:Nat):Int))∨(i'=-1∧e'=0∧a'=0))→MethodIs (bl sel) (bl src) n e' a'):=by
        have hx1:∀ e' i' er' a',FitsIs ws ar n er' i'→((∃ j x,i'=((j:Nat):Int)∧ws[j]?=some x∧e'=er'∧a'=((x.2:Nat):Int))∨(i'=-1∧e'=0∧a'=0))→MethodIs (bl sel) (bl src) n e' a':=fun e' i' er' a' hf hh =>
         .inr (.inr (.inr ⟨hsel,by rw [bl_length];exact HSL.out,HWB.out,er',i',by rw [HWS.out,HAR.out];exact hf,by rw [HWS.out];exact hh⟩))
        exact hx1
       rcases numIs_fits hnum with ⟨j,hj,rfl,he17,hfit⟩ | ⟨hno,rfl,rfl⟩
       · obtain ⟨x,hx⟩:∃ x,ws[j]?=some x:=⟨_,List.getElem?_eq_getElem hj⟩
         obtain ⟨rfl,hcs⟩:=HSR.out j x hx
         have hgs:gs < w3.heap.size:=(HST.out.lt gs rfl).2
         have k5:=(hb5.cell (p:=⟨gs,j,none⟩) hgs).trans hcs
         have te:(er==0)=false:=beq_eq_false_iff_ne.2 (by omega)
         have tn:(er != 0)=true:=by simp;omega
         have hji:(j:Int) < (ws.length:Int):=by omega
         have HFT:Hid (FitsIs ws ar n er (j:Int)):=hfit
         have HX:Hid _:=hx
         clear hnum hfit hx hcs
         go_wp2_with fail
         go_quiet (fail)
         go_wp2
         go_ret2
         exact ⟨er,x.2,rfl,HM.out er j er x.2 HFT.out (.inl ⟨j,x,rfl,HX.out,rfl,rfl⟩),.inl ⟨by omega,HB5.out.drewN' _⟩⟩
       · have HNo:Hid (∀ j,j < ws.length→¬ NumBad ws ar n j):=hno
         clear hnum hno
         go_wp2_with fail
         refine (checkStack_any ws p g cap w5 hwl (HK.out.below (Nat.le_refl _) hb5) (fine_of HFW.out HNo.out) (Nat.lt_of_lt_of_le hge3 hb5.size) (HE3.out.below hge3 hb5)).mono ?_
         rintro e w6 ⟨r,rfl,hfirst,hb⟩
         have hb6:Below w3.heap.size w3 w6:=hb5.trans (hb.mono hb5.size)
         have HB6:Hid (Below w.heap.size w w6):=HB3.out.trans (hb6.mono HB3.out.size)
         have HFT:Hid (FitsIs ws ar n 6 r):=.inr ⟨HNo.out,rfl,hfirst⟩
         clear hb hfirst k2
         rcases fits_num HFT.out with rfl | ⟨j,hj,rfl⟩
         · go_wp2_with fail
           refine (clone_any sel _ hs1).mono ?_
           rintro e w7 ⟨rfl,hb7⟩
           have hb37:Below w3.heap.size w3 w7:=hb6.trans (hb7.mono hb6.size)
           have HB7:Hid (Below w.heap.size w w7):=HB3.out.trans (hb37.mono HB3.out.size)
           have HK7:Hid (KAt w7 p g ws):=HK.out.below (Nat.le_refl _) hb37
           have HC7:Hid (1≤ws.length→Cel w7 g∧w.heap.size≤g):=by
            have hx1:1≤ws.length→Cel w7 g∧w.heap.size≤g:=fun h=>⟨(HGC.out h).1.same (hb37.block g (HGC.out h).1.lt),(HGC.out h).2⟩
            exact hx1
           have HE7:Hid (HasEff w7):=HE3.out.below hge3 hb37
           have hge7:0 < w7.heap.size:=Nat.lt_of_lt_of_le hge3 hb37.size
           clear hb7 hb37 hb6 hb5 hb4
           go_wp2_with fail
           refine (newMethod_any ws p g cap w7 hwl HK7.out (fun h=>(HC7.out h).1) HFW.out hge7 (fun h e=>by have:=(HC7.out h).2;omega) HE7.out).mono ?_
           rintro e w8 ⟨m,pl,rfl,hm8,hml8,hat8,hnp8,hch8⟩
           have hz7:=HB7.out.size
           have HN:Hid (NewM w w8 m g cap p ws pl):=by
            have hx1:NewM w w8 m g cap p ws pl:=⟨HB7.out.trans (hch8.below hz7 (fun k _ h=>by rw [h.1];exact (HC7.out h.2).2)),hm8,Nat.le_trans hz7 hml8,fun h=>(HC7.out h).2,fun h e=>by have:=(HC7.out h).1.lt;omega,hat8,⟨fun i x hi hx hs=>⟨(hnp8.mem i x hi hx hs).1,Nat.le_trans hz7 (hnp8.mem i x hi hx hs).2⟩,hnp8.inj⟩⟩
            exact hx1
           have HZ:Hid (MethodIs (bl sel) (bl src) n 0 0):=HM.out 0 (-1) 6 0 HFT.out (.inr ⟨rfl,rfl,rfl⟩)
           clear hm8 hml8 hat8 hnp8 hch8
           go_wp2_with fail
           refine (give w8 m g cap p ws pl HWS.out HZ.out HN.out).mono ?_
           rintro e w9 ⟨rfl,hR⟩
           go_wp2
           go_ret2
           exact ⟨0,0,rfl,HZ.out,.inr ⟨rfl,hR⟩⟩
         · obtain ⟨x,hx⟩:∃ x,ws[j]?=some x:=⟨_,List.getElem?_eq_getElem hj⟩
           obtain ⟨rfl,hcs⟩:=HSR.out j x hx
           have hgs:gs < w3.heap.size:=(HST.out.lt gs rfl).2
           have k6:=(hb6.cell (p:=⟨gs,j,none⟩) hgs).trans hcs
           have hji:(j:Int) < (ws.length:Int):=by omega
           have HX:Hid _:=hx
           clear hx hcs
           go_wp2_with fail
           go_quiet (fail)
           go_wp2
           go_ret2
           exact ⟨6,x.2,rfl,HM.out 6 j 6 x.2 HFT.out (.inl ⟨j,x,rfl,HX.out,rfl,rfl⟩),.inl ⟨by omega,HB6.out.drewN' _⟩⟩
     · rw [hw]
       clear hown
       go_wp2
       go_ret2
       exact ⟨5,j,rfl,.inr (.inr (.inl ⟨hsel,by rw [bl_length];omega,by rw [hw];omega,rfl,by rw [hw]⟩)),.inl ⟨by omega,hbW3⟩⟩
end Go.Proofs.YtkghmgoefiepeaaGreatDoor.reads
namespace Kn
open Go
theorem climb_congr {α:Type}{ab ab':Nat→Option Nat}{ow ow':Nat→Option α}{n:Nat} (h1:∀ c,c < n→ab' c=ab c) (h2:∀ c,c < n→ow' c=ow c) (h3:∀ c a,c < n→ab c=some a→a < n):∀ (f:Nat) (c:Nat),c < n→climb ab' ow' f (some c)=climb ab ow f (some c)
 | 0,_,_=>rfl
 | f+1,c,hc=>by
  have hu:∀ (a:Nat→Option Nat) (o:Nat→Option α),climb a o (f+1) (some c)=match o c with
   | some x=>some (c,x)
   | none=>climb a o f (a c):=fun _ _=>rfl
  rw [hu ab' ow',hu ab ow,h2 c hc]
  cases ho:ow c with
  | some y=>rfl
  | none =>
   simp only
   rw [h1 c hc]
   cases ha:ab c with
   | none=>cases f <;> rfl
   | some a=>exact climb_congr h1 h2 h3 f a (h3 c a hc ha)
end Kn
namespace Go.Proofs.YtkghmgoefiepeaaGreatDoor.reads
open Go.ChangeShapes Go.WideShapes Go.ChangeAt Go.RowKit Kn Go.Proofs.YtkghmgoefiepeaaGreatDoor.img
variable {m : Im}
theorem up_lt (hm:ImOk m) {c d:Nat} (h:Up m.ab c d):c < m.kl.length→d < m.kl.length:=by
 induction h with
 | refl c=>exact id
 | step ha _ ih=>exact fun _=>ih (ab_lt hm ha)
def Ans (m:Im) (cb:Nat→Nat) (mid:Nat→ByteArray→Option Nat) (r:Rw4):Prop :=
 ∃ c,c < m.kl.length∧r.fr=some ⟨cb c,0,none⟩∧r.hm=cptr ((climb m.ab (fun c=>mid c r.sel) (m.kl.length+1) (some c)).map (fun x=>cb x.1))∧r.mt=cptr ((climb m.ab (fun c=>mid c r.sel) (m.kl.length+1) (some c)).map (·.2))
theorem Ans.rowC {cb:Nat→Nat}{mid:Nat→ByteArray→Option Nat}{r:Rw4} (hm:ImOk m) (h:Ans m cb mid r):RowC m cb r:=by
 obtain ⟨c,hc,h1,h2,_⟩:=h
 refine ⟨⟨c,hc,h1⟩,(climb m.ab (fun c=>mid c r.sel) (m.kl.length+1) (some c)).map (·.1),fun x hx=>?_,by rw [h2,Option.map_map];rfl⟩
 obtain ⟨⟨d,k⟩,e1,e2⟩:=Option.map_eq_some_iff.1 hx
 subst e2
 exact up_lt hm (climb_up _ _ _ _ e1).1 hc
variable {m' : Im}
theorem Ans.ow {cb:Nat→Nat}{mid mid':Nat→ByteArray→Option Nat}{c0:Nat}{sel:ByteArray}{r:Rw4} (hm:ImOk m) (h:Ans m cb mid r) (hl:leanM m cb c0 sel r=false) (hab:m'.ab=m.ab) (hlen:m'.kl.length=m.kl.length) (hmid:∀ c s,¬ (c=c0∧s=sel)→mid' c s=mid c s):Ans m' cb mid' r:=by
 obtain ⟨c,hc,h1,h2,h3⟩:=h
 have key:climb m'.ab (fun c=>mid' c r.sel) (m'.kl.length+1) (some c)=climb m.ab (fun c=>mid c r.sel) (m.kl.length+1) (some c):=by
  rw [hab,hlen]
  by_cases hs:r.sel=sel
  · refine climb_ow (c0:=c0) (fun d hd=>hmid d r.sel (fun e=>hd e.1)) _ _ (fun F _ hcame=>?_)
    have:cameB m cb c0 r:=by
     refine ⟨c,(climb m.ab (fun c=>mid c r.sel) (m.kl.length+1) (some c)).map (·.1),hc,fun x hx=>?_,h1,by rw [h2,Option.map_map];rfl,hcame.1,fun x hx=>?_⟩
     · obtain ⟨⟨d,k⟩,e1,e2⟩:=Option.map_eq_some_iff.1 hx
       subst e2
       exact up_lt hm (climb_up _ _ _ _ e1).1 hc
     · obtain ⟨⟨d,k⟩,e1,e2⟩:=Option.map_eq_some_iff.1 hx
       subst e2
       exact hcame.2 d k e1
    unfold leanM cameD at hl
    rw [show decide (r.sel=sel)=true from by simp [hs],Bool.true_and,@decide_eq_false_iff_not _ (Classical.propDecidable _)] at hl
    exact hl this
  · exact congrArg (fun o=>climb m.ab o (m.kl.length+1) (some c)) (funext fun d=>hmid d r.sel (fun e=>hs e.2))
 exact ⟨c,by rw [hlen];exact hc,h1,by rw [key];exact h2,by rw [key];exact h3⟩
theorem Ans.ab {cb:Nat→Nat}{mid:Nat→ByteArray→Option Nat}{c0:Nat}{r:Rw4} (hm:ImOk m) (h:Ans m cb mid r) (hl:leanV m cb c0 r=false) (hab:∀ c,c≠c0→m'.ab c=m.ab c) (hlen:m'.kl.length=m.kl.length) (hinj:∀ c d,c < m.kl.length→d < m.kl.length→cb c=cb d→c=d) (hc0:c0 < m.kl.length):Ans m' cb mid r:=by
 obtain ⟨c,hc,h1,h2,h3⟩:=h
 have key:climb m'.ab (fun c=>mid c r.sel) (m'.kl.length+1) (some c)=climb m.ab (fun c=>mid c r.sel) (m.kl.length+1) (some c):=by
  rw [hlen]
  refine climb_ab hab _ _ (fun hcame=>?_)
  have hcb:cameB m cb c0 r:=by
   refine ⟨c,(climb m.ab (fun c=>mid c r.sel) (m.kl.length+1) (some c)).map (·.1),hc,fun x hx=>?_,h1,by rw [h2,Option.map_map];rfl,hcame.1.1,fun x hx=>?_⟩
   · obtain ⟨⟨d,k⟩,e1,e2⟩:=Option.map_eq_some_iff.1 hx
     subst e2
     exact up_lt hm (climb_up _ _ _ _ e1).1 hc
   · obtain ⟨⟨d,k⟩,e1,e2⟩:=Option.map_eq_some_iff.1 hx
     subst e2
     exact hcame.1.2 d k e1
  have hne:¬ r.hm=some ⟨cb c0,0,none⟩:=fun e=>by
   rw [h2] at e
   cases hcl:climb m.ab (fun c=>mid c r.sel) (m.kl.length+1) (some c) with
   | none=>rw [hcl] at e;cases e
   | some x =>
    rw [hcl] at e
    injection e with e
    injection e with e _ _
    have hlt:=up_lt hm (climb_up _ _ x.1 x.2 hcl).1 hc
    have he:=hinj x.1 c0 hlt hc0 e
    exact hcame.2 x.2 (by rw [hcl,← he])
  unfold leanV cameD at hl
  have ht:@decide (cameB m cb c0 r) (Classical.propDecidable _)=true:=@decide_eq_true _ (Classical.propDecidable _) hcb
  rw [ht,Bool.true_and,show decide (r.hm=some ⟨cb c0,0,none⟩)=false from decide_eq_false hne] at hl
  cases hl
 exact ⟨c,by rw [hlen];exact hc,h1,by rw [key];exact h2,by rw [key];exact h3⟩
theorem Ans.more {cb cb':Nat→Nat}{mid mid':Nat→ByteArray→Option Nat}{r:Rw4} (hm:ImOk m) (hm':ImOk m') (h:Ans m cb mid r) (hab:∀ c,c < m.kl.length→m'.ab c=m.ab c) (hlen:m.kl.length≤m'.kl.length) (hcb:∀ c,c < m.kl.length→cb' c=cb c) (hmid:∀ c s,c < m.kl.length→mid' c s=mid c s):Ans m' cb' mid' r:=by
 obtain ⟨c,hc,h1,h2,h3⟩:=h
 obtain ⟨rk,hr1,hr2⟩:=rank_ab hm'
 have key:climb m'.ab (fun c=>mid' c r.sel) (m'.kl.length+1) (some c)=climb m.ab (fun c=>mid c r.sel) (m.kl.length+1) (some c):=by
  obtain ⟨rk0,hr01,hr02⟩:=rank_ab hm
  have e1:climb m'.ab (fun c=>mid' c r.sel) (m'.kl.length+1) (some c)=climb m.ab (fun c=>mid c r.sel) (m'.kl.length+1) (some c) :=
   climb_congr (n:=m.kl.length) hab (fun d hd=>hmid d r.sel hd) (fun d a _ ha=>ab_lt hm ha) _ c hc
  rw [e1]
  exact climb_fuel hr02 _ _ c (by have:=hr01 c;omega) (by have:=hr01 c;omega)
 have hcl:(climb m.ab (fun c=>mid c r.sel) (m.kl.length+1) (some c)).map (fun x=>cb' x.1)=(climb m.ab (fun c=>mid c r.sel) (m.kl.length+1) (some c)).map (fun x=>cb x.1):=by
  cases hx:climb m.ab (fun c=>mid c r.sel) (m.kl.length+1) (some c) with
  | none=>rfl
  | some x =>
   have hlt:=up_lt hm (climb_up _ _ x.1 x.2 hx).1 hc
   simp [hcb x.1 hlt]
 exact ⟨c,by omega,by rw [hcb c hc];exact h1,by rw [key,hcl];exact h2,by rw [key];exact h3⟩
def Gl (k:Nat):Prop:=k=0∨k=2∨k=1
structure Glo (w:World):Prop where
 l0:0 < w.heap.size
 l1:2 < w.heap.size
 l2:1 < w.heap.size
 e:HasEff w
 p:HasPlains w
 h:HasHeads w
variable {w : World}
theorem Glo.lt (h:Glo w) {k:Nat} (hk:Gl k):k < w.heap.size:=by
 rcases hk with e | e | e <;> subst e
 · exact h.l0
 · exact h.l1
 · exact h.l2
variable {w' : World}
theorem Glo.same (h:Glo w) (hs:w.heap.size≤w'.heap.size) (hk:∀ k,Gl k→w'.heap[k]?=w.heap[k]?):Glo w':=by
 have he:=hk 0 (.inl rfl)
 have hp:=hk 2 (.inr (.inl rfl))
 have hh:=hk 1 (.inr (.inr rfl))
 refine ⟨Nat.lt_of_lt_of_le h.l0 hs,Nat.lt_of_lt_of_le h.l1 hs,Nat.lt_of_lt_of_le h.l2 hs,fun a b c d e f hx=>?_,fun i v hv=>(World.cell?_of_block (a:=⟨_,i,none⟩) hp).trans (h.p i v hv),fun i v hv=>(World.cell?_of_block (a:=⟨_,i,none⟩) hh).trans (h.h i v hv)⟩
 have h1:=h.e a b c d e f hx
 exact ⟨(World.cell?_of_block he).trans h1.c0,(World.cell?_of_block he).trans h1.c1,(World.cell?_of_block he).trans h1.c2,(World.cell?_of_block he).trans h1.c3,(World.cell?_of_block he).trans h1.c4⟩
theorem Glo.chg {S:Nat→Prop} (h:Glo w) (hc:Chg w w' S) (hS:∀ k,Gl k→¬ S k):Glo w':=h.same hc.size (fun k hk=>hc.block k (h.lt hk) (hS k hk))
def vcs:List Vl→List Value
 | []=>[]
 | v::r=>.bool v.obj::.int .i64 v.n::vcs r
def ocs (cb ob:Nat→Nat):Nat→List Ob→List Value
 | _,[]=>[]
 | i,o::r=>.pointer (some ⟨cb o.cls,0,none⟩)::.slice (some ⟨ob i,0,none⟩) o.slots.length o.slots.length::ocs cb ob (i+1) r
theorem vcs_len (l:List Vl):(vcs l).length=l.length*2:=by
 induction l with
 | nil=>rfl
 | cons v r ih=>simp [vcs,ih];omega
theorem vcs_get:∀ (l:List Vl) (i:Nat) (v:Vl),l[i]?=some v→(vcs l)[i*2]?=some (.bool v.obj)∧(vcs l)[i*2+1]?=some (.int .i64 v.n)
 | [],i,v,h=>by cases h
 | x::r,0,v,h=>by
  simp at h
  subst h
  exact ⟨rfl,rfl⟩
 | x::r,i+1,v,h=>by
  have:=vcs_get r i v (by simpa using h)
  rw [show (i+1)*2=i*2+1+1 from by omega]
  simpa [vcs] using this
theorem vcs_set:∀ (l:List Vl) (i:Nat) (v:Vl),i < l.length→vcs (l.set i v)=((vcs l).set (i*2) (.bool v.obj)).set (i*2+1) (.int .i64 v.n)
 | [],i,v,h=>by simp at h
 | x::r,0,v,h=>rfl
 | x::r,i+1,v,h=>by
  have:=vcs_set r i v (by simpa using h)
  rw [show (i+1)*2=i*2+1+1 from by omega]
  simp [vcs,this]
theorem ocs_get (cb ob:Nat→Nat):∀ (l:List Ob) (k i:Nat) (o:Ob),l[i]?=some o→(ocs cb ob k l)[i*2]?=some (.pointer (some ⟨cb o.cls,0,none⟩))∧(ocs cb ob k l)[i*2+1]?=some (.slice (some ⟨ob (k+i),0,none⟩) o.slots.length o.slots.length)
 | [],k,i,o,h=>by cases h
 | x::r,k,0,o,h=>by
  simp at h
  subst h
  exact ⟨rfl,rfl⟩
 | x::r,k,i+1,o,h=>by
  have:=ocs_get cb ob r (k+1) i o (by simpa using h)
  rw [show (i+1)*2=i*2+1+1 from by omega,show k+(i+1)=k+1+i from by omega]
  simpa [ocs] using this
theorem ocs_congr {cb cb' ob ob':Nat→Nat}:∀ (l l':List Ob) (k:Nat),l'.length=l.length→(∀ i o o',l[i]?=some o→l'[i]?=some o'→cb' o'.cls=cb o.cls∧ob' (k+i)=ob (k+i)∧o'.slots.length=o.slots.length)→ocs cb' ob' k l'=ocs cb ob k l
 | [],[],_,_,_=>rfl
 | [],_::_,_,h,_=>by cases h
 | _::_,[],_,h,_=>by cases h
 | x::r,x'::r',k,h,hx=>by
  obtain ⟨h1,h2,h3⟩:=hx 0 x x' rfl rfl
  have:=ocs_congr (cb:=cb) (cb':=cb') (ob:=ob) (ob':=ob') r r' (k+1) (by simpa using h) (fun i o o' ho ho'=>by
   have:=hx (i+1) o o' (by simpa using ho) (by simpa using ho')
   rw [show k+1+i=k+(i+1) from by omega]
   exact this)
  simp only [Nat.add_zero] at h2
  simp [ocs,h1,h2,h3,this]
theorem ocs_snoc (cb ob:Nat→Nat):∀ (l:List Ob) (k:Nat) (o:Ob),ocs cb ob k (l++[o])=ocs cb ob k l++[.pointer (some ⟨cb o.cls,0,none⟩),.slice (some ⟨ob (k+l.length),0,none⟩) o.slots.length o.slots.length]
 | [],k,o=>rfl
 | x::r,k,o=>by
  have:=ocs_snoc cb ob r (k+1) o
  simp only [List.cons_append,ocs,this,List.length_cons]
  rw [show k+1+r.length=k+(r.length+1) from by omega]
theorem ocs_set (cb ob:Nat→Nat):∀ (l:List Ob) (k i:Nat) (o o':Ob),l[i]?=some o→o'.slots.length=o.slots.length→ocs cb ob k (l.set i o')=(ocs cb ob k l).set (i*2) (.pointer (some ⟨cb o'.cls,0,none⟩))
 | [],_,_,_,_,h,_=>by cases h
 | x::r,k,0,o,o',h,hs=>by
  simp at h
  subst h
  simp [ocs,hs]
 | x::r,k,i+1,o,o',h,hs=>by
  have:=ocs_set cb ob r (k+1) i o o' (by simpa using h) hs
  rw [show (i+1)*2=i*2+1+1 from by omega]
  simp [ocs,this]
structure ObsAt (w:World) (cb ob:Nat→Nat) (v:Value) (obs:List Ob):Prop where
 own:w.ownsRow 0 105 2 v obs.length (ocs cb ob 0 obs)
 at_:∀ i o,obs[i]?=some o→w.heap[ob i]?=some (.cells (vcs o.slots).toArray 33)
 inj:∀ i j,i < obs.length→j < obs.length→ob i=ob j→i=j
 nil:obs=[]→v=.slice none 0 0
def OBlk (ob:Nat→Nat) (v:Value) (n:Nat) (k:Nat):Prop:=v.ownBlock=some k∨∃ i,i < n∧k=ob i
theorem ObsAt.lt {cb ob:Nat→Nat}{v:Value}{obs:List Ob} (h:ObsAt w cb ob v obs) {k:Nat} (hk:OBlk ob v obs.length k):k < w.heap.size:=by
 rcases hk with e | ⟨i,hi,rfl⟩
 · exact (h.own.lt k e).2
 · exact (Array.getElem?_eq_some_iff.1 (h.at_ i _ (List.getElem?_eq_getElem hi))).1
theorem ObsAt.same {cb ob:Nat→Nat}{v:Value}{obs:List Ob} (h:ObsAt w cb ob v obs) (hk:∀ k,OBlk ob v obs.length k→w'.heap[k]?=w.heap[k]?):ObsAt w' cb ob v obs:=by
 refine ⟨⟨h.own.1,?_⟩,fun i o ho=>(hk _ (.inr ⟨i,(List.getElem?_eq_some_iff.1 ho).1,rfl⟩)).trans (h.at_ i o ho),h.inj,h.nil⟩
 rcases h.own.2 with e | ⟨g,cap,cur,e,h1,h2,h3⟩
 · exact .inl e
 · exact .inr ⟨g,cap,cur,e,h1,(hk g (.inl (by rw [e];rfl))).trans h2,h3⟩
theorem ObsAt.kind {cb ob:Nat→Nat}{v:Value}{obs:List Ob} (h:ObsAt w cb ob v obs) {k:Nat} (hk:OBlk ob v obs.length k):∃ cs,w.heap[k]?=some (.cells cs 105)∨w.heap[k]?=some (.cells cs 33):=by
 rcases hk with e | ⟨i,hi,rfl⟩
 · rcases h.own.2 with ⟨e1,_⟩ | ⟨g,cap,cur,e1,h1,h2,h3⟩
   · rw [e1] at e;cases e
   · rw [e1] at e
     simp [Value.ownBlock] at e
     subst e
     exact ⟨cur,.inl h2⟩
 · exact ⟨_,.inr (h.at_ i _ (List.getElem?_eq_getElem hi))⟩
end Go.Proofs.YtkghmgoefiepeaaGreatDoor.reads
namespace Go.Proofs.YtkghmgoefiepeaaGreatDoor.reads
open Go.ChangeShapes Go.WideShapes Go.ChangeAt Go.RowKit Kn
def litV:DataW Unit→Value
 | .lit (.int k n)=>.int k n
 | .lit (.string l)=>.string ⟨l.toArray⟩
 | .lit (.bool b)=>.bool b
 | _=>.pointer none
variable {P : Program} {w : World} {base : Nat} {spare : Nat → Bool} {held : Bool} {fuel : Nat} {t : TypeId} {cs : List Value} {enc : TypeId × Value → Unit} {x : DataW Unit × List MemPlace}
theorem lit_string (ht:P.underlying t=some .string) (h:DataW.trod enc P w base spare held fuel t cs=some x):cs=[litV x.1]:=by
 obtain ⟨s,rfl,rfl,_⟩:=DataW.trod_string ht h
 simp [litV]
theorem lit_int {k:IntKind} (ht:P.underlying t=some (.int k)) (h:DataW.trod enc P w base spare held fuel t cs=some x):cs=[litV x.1]:=by
 obtain ⟨n,rfl,rfl,_⟩:=DataW.trod_int ht h
 rfl
theorem lit_bool (ht:P.underlying t=some .bool) (h:DataW.trod enc P w base spare held fuel t cs=some x):cs=[litV x.1]:=by
 obtain ⟨b,rfl,rfl⟩:=DataW.trod_bool ht h
 rfl
theorem cells_string:Tryz.prog.cellsOf 9=1:=by kernel_rfl
theorem cells_int:Tryz.prog.cellsOf 3=1:=by kernel_rfl
theorem cells_bool:Tryz.prog.cellsOf 4=1:=by kernel_rfl
theorem cells_kind:Tryz.prog.cellsOf 143=1:=by kernel_rfl
theorem cells_spelling:Tryz.prog.cellsOf 220=2:=by kernel_rfl
theorem cells_effect:Tryz.prog.cellsOf 150=5:=by kernel_rfl
theorem spell_row {l:List Value}{y:DataW Unit×List MemPlace} (h:DataW.trod enc Tryz.prog w base spare held fuel 220 l=some y):∃ d0 d1,y.1=.agg [d0,d1]∧l=[litV d0,litV d1]:=by
 obtain ⟨xs,m,rfl,rfl,hlen,hn,hel⟩:=DataW.trod_struct Tryz.underlying220 h
 rw [cells_spelling] at hlen
 match l,hlen with
 | [c0,c1],_ =>
  match xs,hn with
  | [x0,x1],_ =>
   have h0:DataW.trod enc Tryz.prog w base spare held m 9 (([c0,c1].drop 0).take (Tryz.prog.cellsOf 9))=some x0:=hel 0 _ rfl
   have h1:DataW.trod enc Tryz.prog w base spare held m 143 (([c0,c1].drop 1).take (Tryz.prog.cellsOf 143))=some x1:=hel 1 _ rfl
   rw [cells_string] at h0
   rw [cells_kind] at h1
   have e0:=lit_string Tryz.underlying9 h0
   have e1:=lit_int Tryz.underlying143 h1
   simp at e0 e1
   exact ⟨x0.1,x1.1,rfl,by rw [e0,e1]⟩
theorem effect_row {l:List Value}{y:DataW Unit×List MemPlace} (h:DataW.trod enc Tryz.prog w base spare held fuel 150 l=some y):∃ d0 d1 d2 d3 d4,y.1=.agg [d0,d1,d2,d3,d4]∧l=[litV d0,litV d1,litV d2,litV d3,litV d4]:=by
 obtain ⟨xs,m,rfl,rfl,hlen,hn,hel⟩:=DataW.trod_struct Tryz.underlying150 h
 rw [cells_effect] at hlen
 match l,hlen with
 | [c0,c1,c2,c3,c4],_ =>
  match xs,hn with
  | [x0,x1,x2,x3,x4],_ =>
   have h0:DataW.trod enc Tryz.prog w base spare held m 3 (([c0,c1,c2,c3,c4].drop 0).take (Tryz.prog.cellsOf 3))=some x0:=hel 0 _ rfl
   have h1:DataW.trod enc Tryz.prog w base spare held m 3 (([c0,c1,c2,c3,c4].drop 1).take (Tryz.prog.cellsOf 3))=some x1:=hel 1 _ rfl
   have h2:DataW.trod enc Tryz.prog w base spare held m 4 (([c0,c1,c2,c3,c4].drop 2).take (Tryz.prog.cellsOf 4))=some x2:=hel 2 _ rfl
   have h3:DataW.trod enc Tryz.prog w base spare held m 4 (([c0,c1,c2,c3,c4].drop 3).take (Tryz.prog.cellsOf 4))=some x3:=hel 3 _ rfl
   have h4:DataW.trod enc Tryz.prog w base spare held m 4 (([c0,c1,c2,c3,c4].drop 4).take (Tryz.prog.cellsOf 4))=some x4:=hel 4 _ rfl
   rw [cells_int] at h0 h1
   rw [cells_bool] at h2 h3 h4
   have e0:=lit_int Tryz.underlying3 h0
   have e1:=lit_int Tryz.underlying3 h1
   have e2:=lit_bool Tryz.underlying4 h2
   have e3:=lit_bool Tryz.underlying4 h3
   have e4:=lit_bool Tryz.underlying4 h4
   simp at e0 e1 e2 e3 e4
   exact ⟨x0.1,x1.1,x2.1,x3.1,x4.1,rfl,by rw [e0,e1,e2,e3,e4]⟩
theorem at_piece {cs l:List Value}{o k j:Nat} (h:(cs.drop o).take k=l) (hj:j < k):cs[o+j]?=l[j]?:=by
 rw [← h,List.getElem?_take_of_lt hj,List.getElem?_drop]
theorem spell_cells {n:Nat}{T:TypeId}{ds:List (DataW Unit)}{q:List MemPlace} (ht:Tryz.prog.underlying T=some (.array n 220)) (h:DataW.trod enc Tryz.prog w base spare held fuel T cs=some (.agg ds,q)) (hn:ds.length=n) :
 ∀ i d0 d1,ds[i]?=some (.agg [d0,d1])→cs[i*2]?=some (litV d0)∧cs[i*2+1]?=some (litV d1):=by
 obtain ⟨xs,m,rfl,hx,hlen,hxn,hel⟩:=DataW.trod_array ht h
 intro i d0 d1 hi
 simp only [Prod.mk.injEq,DataW.agg.injEq] at hx
 rw [hx.1,List.getElem?_map] at hi
 have hlt:i < n:=by
  cases hxi:xs[i]? with
  | none=>rw [hxi] at hi;cases hi
  | some y=>have:=(List.getElem?_eq_some_iff.1 hxi).1;omega
 have hr:=hel i hlt
 cases hxi:xs[i]? with
 | none=>rw [hxi] at hi;cases hi
 | some y =>
  rw [hxi] at hi hr
  simp at hi
  rw [cells_spelling] at hr
  obtain ⟨e0,e1,hy,hl⟩:=spell_row hr
  rw [hi] at hy
  injection hy with hy
  injection hy with a1 hy
  injection hy with a2 _
  subst a1 a2
  have p0:=at_piece hl (j:=0) (by omega)
  have p1:=at_piece hl (j:=1) (by omega)
  exact ⟨by simpa using p0,by simpa using p1⟩
theorem effect_cells {n:Nat}{T:TypeId}{ds:List (DataW Unit)}{q:List MemPlace} (ht:Tryz.prog.underlying T=some (.array n 150)) (h:DataW.trod enc Tryz.prog w base spare held fuel T cs=some (.agg ds,q)) (hn:ds.length=n) :
 ∀ i d0 d1 d2 d3 d4,ds[i]?=some (.agg [d0,d1,d2,d3,d4])→cs[i*5]?=some (litV d0)∧cs[i*5+1]?=some (litV d1)∧cs[i*5+2]?=some (litV d2)∧cs[i*5+3]?=some (litV d3)∧cs[i*5+4]?=some (litV d4):=by
 obtain ⟨xs,m,rfl,hx,hlen,hxn,hel⟩:=DataW.trod_array ht h
 intro i d0 d1 d2 d3 d4 hi
 simp only [Prod.mk.injEq,DataW.agg.injEq] at hx
 rw [hx.1,List.getElem?_map] at hi
 have hlt:i < n:=by
  cases hxi:xs[i]? with
  | none=>rw [hxi] at hi;cases hi
  | some y=>have:=(List.getElem?_eq_some_iff.1 hxi).1;omega
 have hr:=hel i hlt
 cases hxi:xs[i]? with
 | none=>rw [hxi] at hi;cases hi
 | some y =>
  rw [hxi] at hi hr
  simp at hi
  rw [cells_effect] at hr
  obtain ⟨e0,e1,e2,e3,e4,hy,hl⟩:=effect_row hr
  rw [hi] at hy
  injection hy with hy
  injection hy with a0 hy
  injection hy with a1 hy
  injection hy with a2 hy
  injection hy with a3 hy
  injection hy with a4 _
  subst a0 a1 a2 a3 a4
  have p0:=at_piece hl (j:=0) (by omega)
  have p1:=at_piece hl (j:=1) (by omega)
  have p2:=at_piece hl (j:=2) (by omega)
  have p3:=at_piece hl (j:=3) (by omega)
  have p4:=at_piece hl (j:=4) (by omega)
  exact ⟨by simpa using p0,by simpa using p1,by simpa using p2,by simpa using p3,by simpa using p4⟩
theorem gPlains : Tryz.prog.globalNamed "kin/kin.plainWords" = some 2 := by kernel_rfl
theorem gHeads : Tryz.prog.globalNamed "kin/kin.classHeads" = some 1 := by kernel_rfl
theorem gEffects : Tryz.prog.globalNamed "kin/kin.effects" = some 0 := by kernel_rfl
theorem tPlains:(Tryz.prog.globals[2]?).map (·.type)=some 222:=by kernel_rfl
theorem tHeads:(Tryz.prog.globals[1]?).map (·.type)=some 221:=by kernel_rfl
theorem tEffects:(Tryz.prog.globals[0]?).map (·.type)=some 151:=by kernel_rfl
def effData (x:Nat×Nat×Bool×Bool×Bool):DataW Unit:=.agg [.lit (.int .i64 (x.1:Nat)),.lit (.int .i64 (x.2.1:Nat)),.lit (.bool x.2.2.1),.lit (.bool x.2.2.2.1),.lit (.bool x.2.2.2.2)]
theorem laid_effects:(Rows.laid_kin_kin_effects:DataW Unit)=.agg (effTab.map effData):=rfl
theorem cell_lt {W:World}{g o:Nat}{v:Value} (h:W.cell? ⟨g,o,none⟩=some v):g < W.heap.size:=by
 apply Classical.byContradiction
 intro hn
 have:W.heap[g]?=none:=Array.getElem?_eq_none_iff.2 (by omega)
 simp [World.cell?,this] at h
theorem of_laid {W:World} (h:laidMetH Tryz.prog Rows.deeperRow.laid W):(0 < W.heap.size∧2 < W.heap.size∧1 < W.heap.size)∧HasEff W∧HasPlains W∧HasHeads W:=by
 rw [MakeChecks.laidMetH_plain _ _ _ (by kernel_rfl)] at h
 obtain ⟨ps,⟨g0,t0,cs0,f0,p0,q0,hg0,ht0,hv0,hd0,⟨g1,t1,cs1,f1,p1,q1,hg1,ht1,hv1,hd1,⟨g2,t2,cs2,f2,p2,q2,hg2,ht2,hv2,hd2,_,_⟩,_⟩,_⟩,_,_⟩:=h
 obtain rfl:=Option.some.inj (gPlains.symm.trans hg0)
 obtain rfl:=Option.some.inj (gHeads.symm.trans hg1)
 obtain rfl:=Option.some.inj (gEffects.symm.trans hg2)
 obtain rfl:=Option.some.inj (tPlains.symm.trans ht0)
 obtain rfl:=Option.some.inj (tHeads.symm.trans ht1)
 obtain rfl:=Option.some.inj (tEffects.symm.trans ht2)
 have P0:=spell_cells Tryz.underlying222 hd0 rfl
 have P1:=spell_cells Tryz.underlying221 hd1 rfl
 have P2:=effect_cells Tryz.underlying151 (by rw [laid_effects] at hd2;exact hd2) (by simp [effTab])
 have C0:HasPlains W:=by
  intro i v hv
  rw [World.var?_cell hg0 hv0 i,← Array.getElem?_toList]
  exact (match i,hv with
   | 0,hv=>by simp [PlainsCells] at hv;subst hv;simpa [litV] using (P0 0 _ _ rfl).1
   | 1,hv=>by simp [PlainsCells] at hv;subst hv;simpa [litV] using (P0 0 _ _ rfl).2
   | 2,hv=>by simp [PlainsCells] at hv;subst hv;simpa [litV] using (P0 1 _ _ rfl).1
   | 3,hv=>by simp [PlainsCells] at hv;subst hv;simpa [litV] using (P0 1 _ _ rfl).2
   | 4,hv=>by simp [PlainsCells] at hv;subst hv;simpa [litV] using (P0 2 _ _ rfl).1
   | 5,hv=>by simp [PlainsCells] at hv;subst hv;simpa [litV] using (P0 2 _ _ rfl).2
   | 6,hv=>by simp [PlainsCells] at hv;subst hv;simpa [litV] using (P0 3 _ _ rfl).1
   | 7,hv=>by simp [PlainsCells] at hv;subst hv;simpa [litV] using (P0 3 _ _ rfl).2
   | 8,hv=>by simp [PlainsCells] at hv;subst hv;simpa [litV] using (P0 4 _ _ rfl).1
   | 9,hv=>by simp [PlainsCells] at hv;subst hv;simpa [litV] using (P0 4 _ _ rfl).2
   | 10,hv=>by simp [PlainsCells] at hv;subst hv;simpa [litV] using (P0 5 _ _ rfl).1
   | 11,hv=>by simp [PlainsCells] at hv;subst hv;simpa [litV] using (P0 5 _ _ rfl).2
   | 12,hv=>by simp [PlainsCells] at hv;subst hv;simpa [litV] using (P0 6 _ _ rfl).1
   | 13,hv=>by simp [PlainsCells] at hv;subst hv;simpa [litV] using (P0 6 _ _ rfl).2
   | 14,hv=>by simp [PlainsCells] at hv;subst hv;simpa [litV] using (P0 7 _ _ rfl).1
   | 15,hv=>by simp [PlainsCells] at hv;subst hv;simpa [litV] using (P0 7 _ _ rfl).2
   | 16,hv=>by simp [PlainsCells] at hv;subst hv;simpa [litV] using (P0 8 _ _ rfl).1
   | 17,hv=>by simp [PlainsCells] at hv;subst hv;simpa [litV] using (P0 8 _ _ rfl).2
   | i+18,hv=>by simp [PlainsCells] at hv)
 have C1:HasHeads W:=by
  intro i v hv
  rw [World.var?_cell hg1 hv1 i,← Array.getElem?_toList]
  exact (match i,hv with
   | 0,hv=>by simp [HeadsCells] at hv;subst hv;simpa [litV] using (P1 0 _ _ rfl).1
   | 1,hv=>by simp [HeadsCells] at hv;subst hv;simpa [litV] using (P1 0 _ _ rfl).2
   | 2,hv=>by simp [HeadsCells] at hv;subst hv;simpa [litV] using (P1 1 _ _ rfl).1
   | 3,hv=>by simp [HeadsCells] at hv;subst hv;simpa [litV] using (P1 1 _ _ rfl).2
   | 4,hv=>by simp [HeadsCells] at hv;subst hv;simpa [litV] using (P1 2 _ _ rfl).1
   | 5,hv=>by simp [HeadsCells] at hv;subst hv;simpa [litV] using (P1 2 _ _ rfl).2
   | 6,hv=>by simp [HeadsCells] at hv;subst hv;simpa [litV] using (P1 3 _ _ rfl).1
   | 7,hv=>by simp [HeadsCells] at hv;subst hv;simpa [litV] using (P1 3 _ _ rfl).2
   | 8,hv=>by simp [HeadsCells] at hv;subst hv;simpa [litV] using (P1 4 _ _ rfl).1
   | 9,hv=>by simp [HeadsCells] at hv;subst hv;simpa [litV] using (P1 4 _ _ rfl).2
   | i+10,hv=>by simp [HeadsCells] at hv)
 have C2:HasEff W:=by
  intro k t l sd jp st hk
  have hr:(effTab.map effData)[k]?=some (effData (t,l,sd,jp,st)):=by rw [List.getElem?_map,hk];rfl
  obtain ⟨r0,r1,r2,r3,r4⟩:=P2 k _ _ _ _ _ hr
  refine ⟨?_,?_,?_,?_,?_⟩
  all_goals (rw [World.var?_cell hg2 hv2,← Array.getElem?_toList];first | exact r0 | exact r1 | exact r2 | exact r3 | exact r4)
 exact ⟨⟨cell_lt (C2 0 0 0 false false false rfl).c0,cell_lt (C0 0 _ rfl),cell_lt (C1 0 _ rfl)⟩,C2,C0,C1⟩
end Go.Proofs.YtkghmgoefiepeaaGreatDoor.reads
namespace Go.Proofs.YtkghmgoefiepeaaGreatDoor.reads
open Go.ChangeShapes Go.WideShapes Go.ChangeAt Go.RowKit Kn Go.Proofs.YtkghmgoefiepeaaGreatDoor.img
structure Kd where
 b:Nat
 mb:Nat
 cb:Nat→Nat
 cm:Nat→Nat
 lc:List (ByteArray×Value)
 lm:Nat→List (ByteArray×Value)
 mid:Nat→ByteArray→Option Nat
 climbs:Nat
 k:Kc
 ov:Value
 ob:Nat→Nat
def Kd.np (K:Kd):Nat:=K.k.np
def SdI (m:Im) (K:Kd) (s:ByteArray) (r:Rw4):Prop:=r.sel=s∧Ans m K.cb K.mid r
def SrI (m:Im) (K:Kd) (r:Rw4):Prop:=Ans m K.cb K.mid r∨r=noRow
def Foot (m:Im) (K:Kd) (k:Nat):Prop:=k=K.b∨k=K.mb∨(∃ c,c < m.kl.length∧(k=K.cb c∨k=K.cm c))∨CBlk K.k k∨OBlk K.ob K.ov m.obs.length k∨∃ j,K.k.Mk j∧1≤(K.k.md j).ws.length∧k=(K.k.md j).g
structure Apart (m:Im) (K:Kd):Prop where
 mb_sb:K.mb≠K.k.sb
 mb_ib:∀ s,K.k.l.lookup s≠some (.map (some K.mb))
 cm_mb:∀ c,c < m.kl.length→K.cm c≠K.mb
 cm_sb:∀ c,c < m.kl.length→K.cm c≠K.k.sb
 cm_ib:∀ c s,c < m.kl.length→K.k.l.lookup s≠some (.map (some (K.cm c)))
 cm_inj:∀ c d,c < m.kl.length→d < m.kl.length→K.cm c=K.cm d→c=d
structure Heads (w:World) (m:Im) (K:Kd):Prop where
 c0:w.cell? ⟨K.b,0,none⟩=some (.map (some K.mb))
 c1:w.cell? ⟨K.b,1,none⟩=some K.ov
 c2:w.cell? ⟨K.b,2,none⟩=some (.int .i64 (Go.RowKit.wrap64 (m.looks:Nat)))
 c3:w.cell? ⟨K.b,3,none⟩=some (.int .i64 (Go.RowKit.wrap64 (K.climbs:Nat)))
 c4:w.cell? ⟨K.b,4,none⟩=some (.int .i64 (K.np:Nat))
structure KIm (w:World) (m:Im) (K:Kd):Prop where
 ok:ImOk m
 cor:Cor w K.b K.k (fun _=>False) (SdI m K) (SrI m K)
 hd:Heads w m K
 np6:K.np≤6
 cll:K.climbs≤m.looks
 lc:SMap w K.mb K.lc
 lcl:∀ s,K.lc.lookup s=(m.cls s).map (fun c=>.pointer (some ⟨K.cb c,0,none⟩))
 lcn:K.lc.length=m.kl.length
 cls:Cls w m K.cb K.cm
 lm:∀ c,c < m.kl.length→SMap w (K.cm c) (K.lm c)
 mid:∀ c s,c < m.kl.length→(K.lm c).lookup s=(K.mid c s).map (fun k=>.pointer (some ⟨k,0,none⟩))
 own:∀ c s,m.own c s=(K.mid c s).map (fun k=>(K.k.md k).ws)
 isM:∀ c s k,K.mid c s=some k→K.k.Mk k
 ap:Apart m K
 obs:ObsAt w K.cb K.ob K.ov m.obs
 glo:Glo w
 gl:∀ k,Foot m K k→¬ Gl k
variable {w : World}
variable {m : Im}
variable {K : Kd}
theorem KIm.lt (h:KIm w m K) {k:Nat} (hk:Foot m K k):k < w.heap.size:=by
 rcases hk with e | e | ⟨c,hc,e | e⟩ | e | e | ⟨j,hj,h1,e⟩
 · subst e;exact h.cor.tab.cel.lt
 · subst e;exact h.lc.lt
 · subst e;exact (h.cls.cel hc).lt
 · subst e;exact (h.lm c hc).lt
 · exact h.cor.lt e
 · exact h.obs.lt e
 · subst e;exact ((h.cor.mt j hj).mat.cel h1).lt
variable {w' : World}
theorem Heads.same (h:Heads w m K) (e:w'.heap[K.b]?=w.heap[K.b]?):Heads w' m K :=
 ⟨(World.cell?_of_block e).trans h.c0,(World.cell?_of_block e).trans h.c1,(World.cell?_of_block e).trans h.c2,(World.cell?_of_block e).trans h.c3,(World.cell?_of_block e).trans h.c4⟩
theorem Heads.hd (h:Heads w m K) (e:SameHd w w' K.b):Heads w' m K :=
 ⟨(e.cell 0 (by omega)).trans h.c0,(e.cell 1 (by omega)).trans h.c1,(e.cell 2 (by omega)).trans h.c2,(e.cell 3 (by omega)).trans h.c3,(e.cell 4 (by omega)).trans h.c4⟩
theorem KIm.same (h:KIm w m K) (hk:∀ k,Foot m K k→w'.heap[k]?=w.heap[k]?) (hg:Glo w'):KIm w' m K:=by
 have hb:=hk K.b (.inl rfl)
 exact ⟨h.ok,h.cor.same hb (fun k e=>hk k (.inr (.inr (.inr (.inl e))))) (fun k e h1=>hk _ (.inr (.inr (.inr (.inr (.inr ⟨k,e,h1,rfl⟩)))))),h.hd.same hb,h.np6,h.cll,h.lc.same (hk _ (.inr (.inl rfl))),h.lcl,h.lcn,
  h.cls.same (fun c hc=>hk _ (.inr (.inr (.inl ⟨c,hc,.inl rfl⟩)))),fun c hc=>(h.lm c hc).same (hk _ (.inr (.inr (.inl ⟨c,hc,.inr rfl⟩)))),h.mid,h.own,h.isM,h.ap,h.obs.same (fun k e=>hk k (.inr (.inr (.inr (.inr (.inl e)))))),hg,h.gl⟩
theorem KIm.chg {S:Nat→Prop} (h:KIm w m K) (hc:Chg w w' S) (hS:∀ k,Foot m K k→¬ S k) (hg:∀ k,Gl k→¬ S k):KIm w' m K:=h.same (fun k e=>hc.block k (h.lt e) (hS k e)) (h.glo.chg hc hg)
theorem KIm.below (h:KIm w m K) (hb:Below w.heap.size w w'):KIm w' m K:=h.chg (Chg.of_below hb (fun _=>False)) (fun _ _ e=>e) (fun _ _ e=>e)
theorem KIm.drew (h:KIm w m K):KIm w.drew m K:=h.same (fun _ _=>rfl) (h.glo.same (Nat.le_refl _) (fun _ _=>rfl))
structure Step (w w':World) (m:Im) (K:Kd) (m':Im) (K':Kd):Prop where
 kim:KIm w' m' K'
 b:K'.b=K.b
 np:K'.np=K.np
 chg:Chg w w' (Foot m K)
 foot:∀ k,Foot m' K' k→Foot m K k∨w.heap.size≤k
 len:m.kl.length≤m'.kl.length
 cb:∀ c,c < m.kl.length→K'.cb c=K.cb c
 md:∀ k,K.k.Mk k→K'.k.Mk k∧K'.k.md k=K.k.md k
variable {w1 w2 : World}
theorem Step.trans {m m1 m2:Im}{K K1 K2:Kd} (h:Step w w1 m K m1 K1) (h':Step w1 w2 m1 K1 m2 K2):Step w w2 m K m2 K2 :=
 ⟨h'.kim,h'.b.trans h.b,h'.np.trans h.np,h.chg.then h'.chg (fun k hk e=>by rcases h.foot k e with e | e;exact e;omega),fun k e=>by
  rcases h'.foot k e with e | e
  · exact h.foot k e
  · have:=h.chg.size;exact .inr (by omega),Nat.le_trans h.len h'.len,fun c hc=>(h'.cb c (Nat.lt_of_lt_of_le hc h.len)).trans (h.cb c hc),fun k hk=>⟨(h'.md k (h.md k hk).1).1,(h'.md k (h.md k hk).1).2.trans (h.md k hk).2⟩⟩
theorem Step.below (h:KIm w m K) (hb:Below w.heap.size w w'):Step w w' m K m K :=
 ⟨h.below hb,rfl,rfl,Chg.of_below hb _,fun k e=>.inl e,Nat.le_refl _,fun _ _=>rfl,fun _ hk=>⟨hk,rfl⟩⟩
theorem Step.refl (h:KIm w m K):Step w w m K m K:=Step.below h (Below.refl _ _)
theorem Step.beside {m m' m2:Im}{K K' K2:Kd} (h:Step w w' m K m' K') (h0:KIm w m K) (h2:KIm w m2 K2) (hd:∀ k,Foot m K k→¬ Foot m2 K2 k):KIm w' m2 K2∧∀ k,Foot m' K' k→¬ Foot m2 K2 k :=
 ⟨h2.chg h.chg (fun k e e'=>hd k e' e) (fun k hg e=>h0.gl k e hg),fun k e e2=>by
  rcases h.foot k e with e' | e'
  · exact hd k e' e2
  · have:=h2.lt e2;omega⟩
theorem KIm.look (h:KIm w m K) (s:ByteArray):(Instr.lookup 55 (.map (some K.mb)) (.string s) false).run Tryz.prog w=.ok (.pointer (cptr ((m.cls s).map K.cb))) w:=by
 rw [lookup_cls w K.mb K.lc h.lc,h.lcl s]
 cases m.cls s <;> rfl
theorem cls_lt {s:ByteArray}{c:Nat} (h:m.cls s=some c):c < m.kl.length:=by
 obtain ⟨k,hk,_⟩:=cls_some h
 exact (List.getElem?_eq_some_iff.1 hk).1
theorem KIm.lookM (h:KIm w m K) {c:Nat} (hc:c < m.kl.length) (s:ByteArray):(Instr.lookup 99 (.map (some (K.cm c))) (.string s) false).run Tryz.prog w=.ok (.pointer (cptr (K.mid c s))) w:=by
 rw [lookup_mth w (K.cm c) (K.lm c) (h.lm c hc),h.mid c s hc]
 cases K.mid c s <;> rfl
end Go.Proofs.YtkghmgoefiepeaaGreatDoor.reads
