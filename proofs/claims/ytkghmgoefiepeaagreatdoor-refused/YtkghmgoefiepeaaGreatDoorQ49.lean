import Derived.KernelRfl
import Derived.Test.YtkghmgoefiepeaaGreatDoorQ0
import Derived.Test.YtkghmgoefiepeaaGreatDoorQ21
import Derived.Test.YtkghmgoefiepeaaGreatDoorQ28
import Derived.Test.YtkghmgoefiepeaaGreatDoorQ29
import Derived.Test.YtkghmgoefiepeaaGreatDoorQ30
import Derived.Test.YtkghmgoefiepeaaGreatDoorQ39
import Derived.Test.YtkghmgoefiepeaaGreatDoorQ48
set_option linter.unusedSimpArgs false
set_option linter.unusedVariables false
set_option maxHeartbeats 4000000
set_option maxRecDepth 100000
namespace Kn
open Go
instance (ws:List (W×Nat)) (args slots i:Nat):Decidable (NumBad ws args slots i):=by unfold NumBad argBad slotBad;infer_instance
def lineB (ws:List (W×Nat)) (args slots:Nat) (H:Nat→Nat):Bool :=
 decide (H 0=0)&&(List.range ws.length).all fun j=>decide (tk ws j≤H j)&&decide (nx ws j (H j)≤16)&&(tg ws j).all (fun i=>decide (H i=nx ws j (H j)))&&!decide (NumBad ws args slots j)
theorem line_fits {ws:List (W×Nat)}{args slots:Nat}{H:Nat→Nat} (h:lineB ws args slots H=true):FitsIs ws args slots 6 (-1):=by
 simp only [lineB,Bool.and_eq_true,decide_eq_true_eq,List.all_eq_true,List.mem_range,Bool.not_eq_true',decide_eq_false_iff_not] at h
 obtain ⟨h0,hj⟩:=h
 have hinv:∀ i g,Reach ws i g→g=H i:=fun i g hr=>by
  refine reach_ind (fun i g=>g=H i) h0.symm (fun j g i hl e ho hi=>?_) hr
  subst e
  exact ((hj j hl).1.2 i hi).symm
 refine .inr ⟨fun j hl=>(hj j hl).2,rfl,.inl ⟨rfl,fun i hi=>?_⟩⟩
 rintro (⟨g,hg,hno⟩ | ⟨g1,g2,hlt,hg1,hg2⟩)
 · rw [hinv i g hg] at hno
   exact hno ⟨(hj i hi).1.1.1,(hj i hi).1.1.2⟩
 · have e1:=hinv i g1 hg1
   have e2:=hinv i g2 hg2
   omega
theorem line_method {sel src:List UInt8}{n:Nat}{H:Nat→Nat} (h1:selector sel=true) (h2:src.length≤120) (h3:(wordsAll src).2=-1) (h:lineB (wordsAll src).1 (argsOf sel) n H=true):MethodIs sel src n 0 0 :=
 .inr (.inr (.inr ⟨h1,h2,h3,6,-1,line_fits h,.inr ⟨rfl,rfl,rfl⟩⟩))
variable {m m' : Im}
theorem line_res {cls sel src:ByteArray}{c:Nat}{H:Nat→Nat}{e a:Int} (hr:MethRes m cls sel src e a m') (hc:m.cls cls=some c) (h1:selector (bl sel)=true) (h2:(bl src).length≤120) (h3:(wordsAll (bl src)).2=-1) (h:lineB (wordsAll (bl src)).1 (argsOf (bl sel)) (m.tot c) H=true):e=0∧a=0∧m'=m.setKl c (·.put ⟨sel,(wordsAll (bl src)).1⟩):=by
 unfold MethRes at hr
 rw [hc] at hr
 simp only at hr
 obtain ⟨e1,e2⟩:=methodIs_one hr.1 (line_method h1 h2 h3 h)
 exact ⟨e1,e2,by rw [hr.2,if_pos e1]⟩
def tTwo:ByteArray:=⟨#[116,119,111,47,49]⟩
def srcTwo:ByteArray:=⟨#[97,48,32,50,32,42,32,114,101,116]⟩
theorem two_is:selector (bl tTwo)=true∧(bl srcTwo).length≤120∧(wordsAll (bl srcTwo)).2=-1:=⟨by kernel_rfl,by decide,by kernel_rfl⟩
theorem two_line:lineB (wordsAll (bl srcTwo)).1 (argsOf (bl tTwo)) 0 (fun j=>[0,1,2,1].getD j 0)=true:=by kernel_rfl
def imTwo:Im:=im0.setKl 0 (·.put ⟨tTwo,(wordsAll (bl srcTwo)).1⟩)
theorem two_send:(imTwo.sendOut ⟨false,5⟩ tTwo [⟨false,21⟩] 9).1=⟨false,42⟩∧(imTwo.sendOut ⟨false,5⟩ tTwo [⟨false,21⟩] 9).2.1=0∧(imTwo.sendOut ⟨false,5⟩ tTwo [⟨false,21⟩] 9).2.2.1=0:=⟨by kernel_rfl,by kernel_rfl,by kernel_rfl⟩
def nAny:ByteArray:=⟨#[65,110,121]⟩
def nA:ByteArray:=⟨#[65]⟩
def nB:ByteArray:=⟨#[66]⟩
def nC:ByteArray:=⟨#[67]⟩
def tTell:ByteArray:=⟨#[116,101,108,108,47,49]⟩
def tAsk:ByteArray:=⟨#[97,115,107,47,49]⟩
def srcTell:ByteArray:=⟨#[97,48,32,114,101,116]⟩
def srcAsk:ByteArray:=⟨#[115,101,108,102,32,97,48,32,116,101,108,108,47,49,32,114,101,116]⟩
def srcMore:ByteArray:=⟨#[97,48,32,49,32,43,32,114,101,116]⟩
def imD1:Im:=(im0.class_ nA nAny 1).2
def imD2:Im:=(imD1.class_ nB nA 0).2
def imD3:Im:=(imD2.class_ nC nB 0).2
def imD4:Im:=(imD3.make nC).2.2
def imD5:Im:=imD4.setKl 2 (·.put ⟨tTell,(wordsAll (bl srcTell)).1⟩)
def imD6:Im:=imD5.setKl 4 (·.put ⟨tAsk,(wordsAll (bl srcAsk)).1⟩)
def imD7:Im:={ imD6 with looks:=2 }
def nmW (w:Bool):ByteArray:=bif w then nC else nB
def imD8 (w:Bool):Im:=imD7.setKl (bif w then 4 else 3) (·.put ⟨tTell,(wordsAll (bl srcMore)).1⟩)
def imD9 (w:Bool):Im:={ imD8 w with looks:=4 }
def imD10 (w:Bool):Im:=((imD9 w).drop (nmW w) tTell).2
def imD11 (w:Bool):Im:={ imD10 w with looks:=6 }
def imD12 (w:Bool):Im:=((imD11 w).drop nA tTell).2
theorem deep_make:(imD3.make nC).1=⟨true,0⟩∧(imD3.make nC).2.1=0:=⟨by kernel_rfl,by kernel_rfl⟩
theorem deep_tell {e a:Int} (h:MethRes imD4 nA tTell srcTell e a m'):m'=imD5 :=
 (line_res (c:=2) (H:=fun j=>[0,1].getD j 0) h (by kernel_rfl) (by kernel_rfl) (by decide) (by kernel_rfl) (by kernel_rfl)).2.2
theorem deep_ask {e a:Int} (h:MethRes imD5 nC tAsk srcAsk e a m'):m'=imD6 :=
 (line_res (c:=4) (H:=fun j=>[0,1,2,1].getD j 0) h (by kernel_rfl) (by kernel_rfl) (by decide) (by kernel_rfl) (by kernel_rfl)).2.2
theorem deep_more {e a:Int} (w:Bool) (h:MethRes imD7 (nmW w) tTell srcMore e a m'):m'=imD8 w:=by
 cases w
 · exact (line_res (c:=3) (H:=fun j=>[0,1,2,1].getD j 0) h (by kernel_rfl) (by kernel_rfl) (by decide) (by kernel_rfl) (by kernel_rfl)).2.2
 · exact (line_res (c:=4) (H:=fun j=>[0,1,2,1].getD j 0) h (by kernel_rfl) (by kernel_rfl) (by decide) (by kernel_rfl) (by kernel_rfl)).2.2
theorem deep_one (a:Int):imD6.sendOut ⟨true,0⟩ tAsk [⟨false,a⟩] 99=(⟨false,a⟩,0,0,imD7):=by kernel_rfl
theorem deep_two (w:Bool) (b:Int):(imD8 w).sendOut ⟨true,0⟩ tAsk [⟨false,b⟩] 99=(⟨false,Kn.wrap64 (b+1)⟩,0,0,imD9 w):=by cases w <;> kernel_rfl
theorem deep_three (w:Bool) (a:Int):(imD10 w).sendOut ⟨true,0⟩ tAsk [⟨false,a⟩] 99=(⟨false,a⟩,0,0,imD11 w):=by cases w <;> kernel_rfl
theorem deep_four (w:Bool) (a:Int):((imD12 w).sendOut ⟨true,0⟩ tAsk [⟨false,a⟩] 99).2.1=1∧((imD12 w).sendOut ⟨true,0⟩ tAsk [⟨false,a⟩] 99).2.2.1=0:=by cases w <;> exact ⟨by kernel_rfl,by kernel_rfl⟩
end Kn
namespace Go.Proofs.YtkghmgoefiepeaaGreatDoor.reads
open Go.ChangeShapes Go.WideShapes Go.ChangeAt Go.RowKit Kn Go.Proofs.YtkghmgoefiepeaaGreatDoor.img
structure At (w0:World) (b:Nat) (w:World) (m:Im) (K:Kd):Prop where
 kim:KIm w m K
 lo:∀ k,Foot m K k→w0.heap.size≤k
 bel:Below w0.heap.size w0 w
 b_:K.b=b
theorem At.step {w0 w w':World}{b:Nat}{m m':Im}{K K':Kd} (h:At w0 b w m K) (s:Step w w' m K m' K'):At w0 b w' m' K' :=
 ⟨s.kim,fun k e=>by
  rcases s.foot k e with e | e
  · exact h.lo k e
  · have:=h.bel.size;omega,h.bel.trans (s.chg.below h.bel.size (fun k _ e=>h.lo k e)),s.b.trans h.b_⟩
theorem At.below {w0 w w':World}{b:Nat}{m:Im}{K:Kd} (h:At w0 b w m K) (hb:Below w.heap.size w w'):At w0 b w' m K:=h.step (Step.below h.kim hb)
structure Bk (w:World) (m:Im) (K:Kd) (k:Nat) (cs:Array Value) (t:TypeId):Prop where
 blk:w.heap[k]?=some (.cells cs t)
 off:¬ Foot m K k
theorem Bk.lt {w:World}{m:Im}{K:Kd}{k:Nat}{cs:Array Value}{t:TypeId} (h:Bk w m K k cs t):k < w.heap.size:=(Array.getElem?_eq_some_iff.1 h.blk).1
theorem Bk.step {w w':World}{m m':Im}{K K':Kd}{k:Nat}{cs:Array Value}{t:TypeId} (h:Bk w m K k cs t) (s:Step w w' m K m' K'):Bk w' m' K' k cs t :=
 ⟨(s.chg.block k h.lt h.off).trans h.blk, fun e => by
   rcases s.foot k e with e | e
   · exact h.off e
   · have:=h.lt;omega⟩
theorem Bk.below {w w':World}{m:Im}{K:Kd}{k:Nat}{cs:Array Value}{t:TypeId} (h:Bk w m K k cs t) (hb:Below w.heap.size w w'):Bk w' m K k cs t:=⟨(hb.block k h.lt).trans h.blk,h.off⟩
theorem Bk.new {w:World}{m:Im}{K:Kd} (h:KIm w m K) (cs:Array Value) (t:TypeId):Bk (w.alloc (.cells cs t)) m K w.heap.size cs t :=
 ⟨(MapKept.heap_alloc w _).1,fun e=>by have:=h.lt e;omega⟩
theorem Bk.cell {w:World}{m:Im}{K:Kd}{k:Nat}{cs:Array Value}{t:TypeId} (h:Bk w m K k cs t) (o:Nat) {v:Value} (hv:cs[o]?=some v):w.cell? ⟨k,o,none⟩=some v:=by
 simp only [World.cell?,h.blk]
 exact hv
theorem below1 (w:World) (o:Obj):Below w.heap.size w (w.alloc o):=(Below.refl _ w).alloc (Nat.le_refl _) _
theorem num_any (n:Int) (w:World):Calls Tryz.prog 9 #[.int .i64 n] w fun e w'=>e=.returned (.int .i64 n)∧w'=w:=by
 go_enter Tryz.func9,Tryz.ntmps9
 go_wp2
 go_ret
 exact ⟨rfl,rfl⟩
theorem argsAt_one {w:World} (v:Vl):ArgsAt (w.alloc (.cells #[.bool v.obj,.int .i64 v.n] 33)) (.slice (some ⟨w.heap.size,0,none⟩) 1 1) [v] w.heap.size:=by
 refine ⟨_,_,rfl,fun _=>⟨_,rfl,rfl,fun j u hu=>?_⟩⟩
 have hb:=(MapKept.heap_alloc w (.cells #[.bool v.obj,.int .i64 v.n] 33)).1
 rw [add_plain,Nat.zero_add]
 simp only [World.cell?,hb]
 match j,hu with
 | 0,hu=>exact hu
 | 1,hu=>exact hu
variable {w0 w : World} {b : Nat} {m : Im} {K : Kd}
theorem At.class_ (h:At w0 b w m K) (s t:ByteArray) (n:Int) (hs:s.size≤140737488355328) :
 Calls Tryz.prog 15 #[.pointer (some ⟨b,0,none⟩),.string s,.string t,.int .i64 n] w fun e w'=>e=.returned (.int .i64 (m.class_ s t n).1)∧∃ K',Step w w' m K (m.class_ s t n).2 K':=by
 obtain rfl:=h.b_
 exact class_any h.kim s t n hs
theorem At.method (h:At w0 b w m K) (cn sel src:ByteArray) (hs1:sel.size≤140737488355328) (hs2:src.size≤140737488355328) :
 Calls Tryz.prog 17 #[.pointer (some ⟨b,0,none⟩),.string cn,.string sel,.string src] w fun e w'=>∃ (r a:Int) (m':Im) (K':Kd),e=.returned (.tuple #[.int .i64 r,.int .i64 a])∧MethRes m cn sel src r a m'∧Step w w' m K m' K':=by
 obtain rfl:=h.b_
 exact method_any h.kim cn sel src hs1 hs2
theorem At.drop (h:At w0 b w m K) (cn sel:ByteArray) :
 Calls Tryz.prog 19 #[.pointer (some ⟨b,0,none⟩),.string cn,.string sel] w fun e w'=>e=.returned (.int .i64 (m.drop cn sel).1)∧∃ K',Step w w' m K (m.drop cn sel).2 K':=by
 obtain rfl:=h.b_
 exact drop_any h.kim cn sel
theorem At.make (h:At w0 b w m K) (cn:ByteArray) :
 Calls Tryz.prog 16 #[.pointer (some ⟨b,0,none⟩),.string cn] w fun e w'=>e=.returned (.tuple #[(m.make cn).1.val,.int .i64 (m.make cn).2.1])∧∃ K',Step w w' m K (m.make cn).2.2 K':=by
 obtain rfl:=h.b_
 exact make_any h.kim cn
theorem At.send (h:At w0 b w m K) (to:Vl) (hto:isI64 to.n) (sel:ByteArray) (hs:sel.size≤140737488355328) {ap:Option Addr}{cap:Nat}{args:List Vl}{ab:Nat} (hav:ArgsAt w (.slice ap args.length cap) args ab) (hab:args≠[]→ab < w.heap.size∧¬ Foot m K ab) (hargs:∀ v∈args,isI64 v.n) (fuel:Int) :
 Calls Tryz.prog 18 #[.pointer (some ⟨b,0,none⟩),to.val,.string sel,.slice ap args.length cap,.int .i64 fuel] w (SOut w m K (m.sendOut to sel args fuel)):=by
 obtain rfl:=h.b_
 exact sendO_any h.kim to hto sel hs hav hab hargs fuel
theorem At.send1 (h:At w0 b w m K) (to:Vl) (hto:isI64 to.n) (sel:ByteArray) (hs:sel.size≤140737488355328) (v:Vl) (hv:isI64 v.n) (fuel:Int) {r:Vl×Int×Int×Im} (hr:m.sendOut to sel [v] fuel=r) :
 Calls Tryz.prog 18 #[.pointer (some ⟨b,0,none⟩),to.val,.string sel,.slice (some ⟨w.heap.size,0,none⟩) 1 1,.int .i64 fuel] (w.alloc (.cells #[.bool v.obj,.int .i64 v.n] 33)) fun e w'=>∃ K',e=.returned (.tuple #[r.1.val,.int .i64 r.2.1,.int .i64 r.2.2.1])∧Step w w' m K r.2.2.2 K':=by
 have hb:=below1 w (.cells #[.bool v.obj,.int .i64 v.n] 33)
 refine ((h.below hb).send to hto sel hs (args:=[v]) (argsAt_one v) (fun _=>⟨by simp,fun e=>by have:=h.kim.lt e;omega⟩) (fun u hu=>by simp at hu;rw [hu];exact hv) fuel).mono ?_
 rw [hr]
 rintro e w' ⟨K',rfl,hst⟩
 exact ⟨K',rfl,(Step.below h.kim hb).trans hst⟩
end Go.Proofs.YtkghmgoefiepeaaGreatDoor.reads
namespace Go.Proofs.YtkghmgoefiepeaaGreatDoor.reads
open Go.ChangeShapes Go.WideShapes Go.ChangeAt Go.RowKit Kn Go.Proofs.YtkghmgoefiepeaaGreatDoor.img
theorem rnew_ok (a0 a1:Int) (w:World) (h:GoodNew a0 a1) :
 Calls Tryz.prog 8 #[.int .i64 a0,.int .i64 a1] w fun e w'=>(∃ p,e=.returned (.tuple #[.pointer (some p),.int .i64 0]))∧Below w.heap.size w w':=by
 obtain ⟨h0,h1,h2,h3,h4⟩:=h
 go_enter Tryz.func8,Tryz.ntmps8
 go_wp2
 go_ret2
 exact ⟨⟨_,rfl⟩,((Below.refl _ _).alloc (Nat.le_refl _) _).alloc (by simp) _⟩
theorem rnew_no (a0 a1:Int) (w:World) (h:¬ GoodNew a0 a1) :
 Calls Tryz.prog 8 #[.int .i64 a0,.int .i64 a1] w fun e w'=>e=.returned (.tuple #[.pointer none,.int .i64 1])∧w'=w:=by
 by_cases h0:0≤a0
 · by_cases h1:a0≤6
   · by_cases h2:1≤a1
     · by_cases h3:a1≤64
       · have h4:(bits BinOp.and IntKind.i64 a1 (a1 - 1)==0)=false:=by
          simpa [GoodNew,h0,h1,h2,h3] using h
         clear h
         go_enter Tryz.func8,Tryz.ntmps8
         go_wp2
         all_goals (go_ret2;exact ⟨rfl,rfl⟩)
       all_goals
        clear h
        go_enter Tryz.func8,Tryz.ntmps8
        go_wp2
        all_goals (go_ret2;exact ⟨rfl,rfl⟩)
     all_goals
      clear h
      go_enter Tryz.func8,Tryz.ntmps8
      go_wp2
      all_goals (go_ret2;exact ⟨rfl,rfl⟩)
   all_goals
    clear h
    go_enter Tryz.func8,Tryz.ntmps8
    go_wp2
    all_goals (go_ret2;exact ⟨rfl,rfl⟩)
 all_goals
  clear h
  go_enter Tryz.func8,Tryz.ntmps8
  go_wp2
  all_goals (go_ret2;exact ⟨rfl,rfl⟩)
theorem good11:GoodNew 1 1:=⟨by omega,by omega,by omega,by omega,by kernel_rfl⟩
theorem alive_any (w:World) (hg:Glo w):Calls Tryz.prog 12 #[] w fun e w'=>e=.returned (.bool true)∧Below w.heap.size w w':=by
 go_enter Tryz.func12,Tryz.ntmps12
 go_wp2_with fail
 refine (new_any 1 1 w hg good11).mono ?_
 rintro e w1 ⟨K,rfl,hk,hfo,hb⟩
 obtain ⟨b,hbe⟩:∃ b,K.b=b:=⟨_,rfl⟩
 rw [hbe]
 have H1:Hid (At w b w1 im0 K):=⟨hk,hfo,hb,hbe⟩
 clear hk hfo hb hbe
 go_wp2_with fail
 refine (num_any 0 _).mono ?_
 rintro e w2 ⟨rfl,rfl⟩
 go_wp2_with fail
 refine (H1.out.method nAny tTwo srcTwo (by decide) (by decide)).mono ?_
 rintro e w3 ⟨r,a,m',K3,rfl,hm,hst⟩
 obtain ⟨rfl,rfl,rfl⟩:=line_res (c:=0) (H:=fun j=>[0,1,2,1].getD j 0) hm (by kernel_rfl) two_is.1 two_is.2.1 two_is.2.2 two_line
 have H3:Hid (At w b w3 imTwo K3):=H1.out.step hst
 clear hm hst
 go_wp2_with fail
 refine (H3.out.send1 ⟨false,5⟩ ⟨by decide,by decide⟩ tTwo (by decide) ⟨false,21⟩ ⟨by decide,by decide⟩ 9 rfl).mono ?_
 rintro e w4 ⟨K4,rfl,hst⟩
 have H4:Hid (Below w.heap.size w w4):=(H3.out.step hst).bel
 clear hst
 rw [two_send.1,two_send.2.1,two_send.2.2]
 unfold Vl.val
 go_wp2_with fail
 refine (num_any 0 _).mono ?_
 rintro e w5 ⟨rfl,rfl⟩
 go_wp2_with fail
 refine (num_any 0 _).mono ?_
 rintro e w6 ⟨rfl,rfl⟩
 go_wp2
 go_ret
 exact ⟨rfl,H4.out.trans ((below1 _ _).mono H4.out.size)⟩
theorem deeper_walk (p t a b wh:Int) (ha:isI64 a) (hb:isI64 b) (w:World) (hg:Glo w) :
 Calls Tryz.prog 6 #[.int .i64 p,.int .i64 t,.int .i64 a,.int .i64 b,.int .i64 wh] w fun e w'=>e=.returned (.bool true)∧Below w.heap.size w w':=by
 have HI:Hid (isI64 a∧isI64 b):=⟨ha,hb⟩
 clear ha hb
 by_cases hgood:GoodNew p t
 · have HG:Hid (GoodNew p t):=hgood
   clear hgood
   go_enter Tryz.func6,Tryz.ntmps6
   go_wp2_with fail
   refine (alive_any w hg).mono ?_
   rintro e w1 ⟨rfl,hb1⟩
   have HB1:Hid _:=hb1
   clear hb1
   go_wp2_with fail
   refine (rnew_ok p t w1 HG.out).mono ?_
   rintro e w2 ⟨⟨rp,rfl⟩,hb2⟩
   have HB2:Hid (Below w.heap.size w w2):=HB1.out.trans (hb2.mono HB1.out.size)
   have hg2:Glo w2:=hg.same HB2.out.size (fun k hk=>HB2.out.block k (hg.lt hk))
   clear hb2
   go_wp2_with fail
   refine (new_any p t w2 hg2 HG.out).mono ?_
   rintro e w3 ⟨K,rfl,hk,hfo,hb3⟩
   obtain ⟨ib,hbe⟩:∃ b,K.b=b:=⟨_,rfl⟩
   rw [hbe]
   have H3:Hid (At w2 ib w3 im0 K):=⟨hk,hfo,hb3,hbe⟩
   clear hk hfo hb3 hbe hg hg2
   go_wp2_with fail
   refine (num_any 0 _).mono ?_
   rintro e w3' ⟨rfl,rfl⟩
   go_wp2_with fail
   refine (H3.out.class_ nA nAny 1 (by decide)).mono ?_
   rintro e w4 ⟨rfl,K4,hst⟩
   have H4:Hid (At w2 ib w4 imD1 K4):=H3.out.step hst
   clear hst
   go_wp2_with fail
   refine (H4.out.class_ nB nA 0 (by decide)).mono ?_
   rintro e w5 ⟨rfl,K5,hst⟩
   have H5:Hid (At w2 ib w5 imD2 K5):=H4.out.step hst
   clear hst
   go_wp2_with fail
   refine (H5.out.class_ nC nB 0 (by decide)).mono ?_
   rintro e w6 ⟨rfl,K6,hst⟩
   have H6:Hid (At w2 ib w6 imD3 K6):=H5.out.step hst
   clear hst
   go_wp2_with fail
   refine (H6.out.make nC).mono ?_
   rintro e w7 ⟨rfl,K7,hst⟩
   have H7:Hid (At w2 ib w7 imD4 K7):=H6.out.step hst
   clear hst
   rw [deep_make.1,deep_make.2]
   unfold Vl.val
   go_wp2_with fail
   obtain ⟨W8,hW8⟩:∃ W,W=w7.alloc (.cells #[.bool true,.int .i64 0] 33):=⟨_,rfl⟩
   obtain ⟨vb,hvb⟩:∃ vb,vb=w7.heap.size:=⟨_,rfl⟩
   rw [← hW8,← hvb]
   have H8:Hid (At w2 ib W8 imD4 K7∧Bk W8 imD4 K7 vb #[.bool true,.int .i64 0] 33):=by
    rw [hW8,hvb]
    exact (⟨H7.out.below (below1 _ _),Bk.new H7.out.kim _ _⟩:_∧_)
   clear hW8 hvb
   refine (H8.out.1.method nA tTell srcTell (by decide) (by decide)).mono ?_
   rintro e w9 ⟨r9,a9,m9,K9,rfl,hm,hst⟩
   obtain rfl:=deep_tell hm
   have H9:Hid (At w2 ib w9 imD5 K9∧Bk w9 imD5 K9 vb #[.bool true,.int .i64 0] 33):=⟨H8.out.1.step hst,H8.out.2.step hst⟩
   clear hm hst
   go_wp2_with fail
   refine (H9.out.1.method nC tAsk srcAsk (by decide) (by decide)).mono ?_
   rintro e w10 ⟨r10,a10,m10,K10,rfl,hm,hst⟩
   obtain rfl:=deep_ask hm
   have H10:Hid (At w2 ib w10 imD6 K10∧Bk w10 imD6 K10 vb #[.bool true,.int .i64 0] 33):=⟨H9.out.1.step hst,H9.out.2.step hst⟩
   clear hm hst
   have v0:=H10.out.2.cell 0 rfl
   have v1:=H10.out.2.cell 1 rfl
   have lv:=H10.out.2.lt
   go_wp2_with fail
   refine (H10.out.1.send1 ⟨true,0⟩ ⟨by decide,by decide⟩ tAsk (by decide) ⟨false,a⟩ HI.out.1 99 (deep_one a)).mono ?_
   rintro e w11 ⟨K11,rfl,hst⟩
   have H11:Hid (At w2 ib w11 imD7 K11∧Bk w11 imD7 K11 vb #[.bool true,.int .i64 0] 33):=⟨H10.out.1.step hst,H10.out.2.step hst⟩
   clear hst v0 v1 lv
   unfold Vl.val
   cases hwh:(bits BinOp.and IntKind.i64 wh 1==1)
   case' true =>
    go_wp2_with fail
    obtain ⟨wb,hwb⟩:∃ wb,wb=true:=⟨_,rfl⟩
    obtain ⟨nm,hnm⟩:∃ nm,nm=nmW wb:=⟨_,rfl⟩
    rw [show (⟨#[67]⟩:ByteArray)=nm by rw [hnm,hwb];rfl]
   case' false =>
    go_wp2_with fail
    obtain ⟨wb,hwb⟩:∃ wb,wb=false:=⟨_,rfl⟩
    obtain ⟨nm,hnm⟩:∃ nm,nm=nmW wb:=⟨_,rfl⟩
    rw [show (⟨#[66]⟩:ByteArray)=nm by rw [hnm,hwb];rfl]
   all_goals
    clear hwh hwb
    have HNM:Hid _:=hnm
    clear hnm
    obtain ⟨W12,hW12⟩:∃ W,W=w11.alloc (.cells #[.bool false,.int .i64 a] 33):=⟨_,rfl⟩
    obtain ⟨ob,hob⟩:∃ ob,ob=w11.heap.size:=⟨_,rfl⟩
    rw [← hW12,← hob]
    have H12:Hid (At w2 ib W12 imD7 K11∧Bk W12 imD7 K11 vb #[.bool true,.int .i64 0] 33∧Bk W12 imD7 K11 ob #[.bool false,.int .i64 a] 33):=by
     rw [hW12,hob]
     exact (⟨H11.out.1.below (below1 _ _),H11.out.2.below (below1 _ _),Bk.new H11.out.1.kim _ _⟩:_∧_∧_)
    clear hW12 hob
    refine (H12.out.1.method nm tTell srcMore (by decide) (by decide)).mono ?_
    rintro e w13 ⟨r13,a13,m13,K13,rfl,hm,hst⟩
    rw [HNM.out] at hm
    obtain rfl:=deep_more wb hm
    have H13:Hid (At w2 ib w13 (imD8 wb) K13∧Bk w13 (imD8 wb) K13 vb #[.bool true,.int .i64 0] 33∧Bk w13 (imD8 wb) K13 ob #[.bool false,.int .i64 a] 33):=⟨H12.out.1.step hst,H12.out.2.1.step hst,H12.out.2.2.step hst⟩
    clear hm hst
    have v0:=H13.out.2.1.cell 0 rfl
    have v1:=H13.out.2.1.cell 1 rfl
    have lv:=H13.out.2.1.lt
    go_wp2_with fail
    refine (H13.out.1.send1 ⟨true,0⟩ ⟨by decide,by decide⟩ tAsk (by decide) ⟨false,b⟩ HI.out.2 99 (deep_two wb b)).mono ?_
    rintro e w14 ⟨K14,rfl,hst⟩
    have H14:Hid (At w2 ib w14 (imD9 wb) K14∧Bk w14 (imD9 wb) K14 vb #[.bool true,.int .i64 0] 33∧Bk w14 (imD9 wb) K14 ob #[.bool false,.int .i64 a] 33):=⟨H13.out.1.step hst,H13.out.2.1.step hst,H13.out.2.2.step hst⟩
    clear hst v0 v1 lv
    unfold Vl.val
    obtain ⟨bb,hbb⟩:∃ bb,bb=Kn.wrap64 (b+1):=⟨_,rfl⟩
    rw [← hbb]
    have HBB:Hid _:=hbb
    clear hbb
    go_wp2_with fail
    obtain ⟨W15,hW15⟩:∃ W,W=w14.alloc (.cells #[.bool false,.int .i64 bb] 33):=⟨_,rfl⟩
    obtain ⟨tb,htb⟩:∃ tb,tb=w14.heap.size:=⟨_,rfl⟩
    rw [← hW15,← htb]
    have H15:Hid (At w2 ib W15 (imD9 wb) K14∧Bk W15 (imD9 wb) K14 vb #[.bool true,.int .i64 0] 33∧Bk W15 (imD9 wb) K14 ob #[.bool false,.int .i64 a] 33∧Bk W15 (imD9 wb) K14 tb #[.bool false,.int .i64 bb] 33):=by
     rw [hW15,htb]
     exact (⟨H14.out.1.below (below1 _ _),H14.out.2.1.below (below1 _ _),H14.out.2.2.below (below1 _ _),Bk.new H14.out.1.kim _ _⟩:_∧_∧_∧_)
    clear hW15 htb
    refine (H15.out.1.drop nm tTell).mono ?_
    rintro e w16 ⟨rfl,K16,hst⟩
    rw [HNM.out] at hst
    have H16:Hid (At w2 ib w16 (imD10 wb) K16∧Bk w16 (imD10 wb) K16 vb #[.bool true,.int .i64 0] 33∧Bk w16 (imD10 wb) K16 ob #[.bool false,.int .i64 a] 33∧Bk w16 (imD10 wb) K16 tb #[.bool false,.int .i64 bb] 33):=⟨H15.out.1.step hst,H15.out.2.1.step hst,H15.out.2.2.1.step hst,H15.out.2.2.2.step hst⟩
    clear hst
    have v0:=H16.out.2.1.cell 0 rfl
    have v1:=H16.out.2.1.cell 1 rfl
    have lv:=H16.out.2.1.lt
    go_wp2_with fail
    refine (H16.out.1.send1 ⟨true,0⟩ ⟨by decide,by decide⟩ tAsk (by decide) ⟨false,a⟩ HI.out.1 99 (deep_three wb a)).mono ?_
    rintro e w17 ⟨K17,rfl,hst⟩
    have H17:Hid (At w2 ib w17 (imD11 wb) K17∧Bk w17 (imD11 wb) K17 vb #[.bool true,.int .i64 0] 33∧Bk w17 (imD11 wb) K17 ob #[.bool false,.int .i64 a] 33∧Bk w17 (imD11 wb) K17 tb #[.bool false,.int .i64 bb] 33):=⟨H16.out.1.step hst,H16.out.2.1.step hst,H16.out.2.2.1.step hst,H16.out.2.2.2.step hst⟩
    clear hst v0 v1 lv
    unfold Vl.val
    go_wp2_with fail
    obtain ⟨W18,hW18⟩:∃ W,W=w17.alloc (.cells #[.bool false,.int .i64 a] 33):=⟨_,rfl⟩
    obtain ⟨hb,hhb⟩:∃ hb,hb=w17.heap.size:=⟨_,rfl⟩
    rw [← hW18,← hhb]
    have H18:Hid (At w2 ib W18 (imD11 wb) K17∧Bk W18 (imD11 wb) K17 vb #[.bool true,.int .i64 0] 33∧Bk W18 (imD11 wb) K17 ob #[.bool false,.int .i64 a] 33∧Bk W18 (imD11 wb) K17 tb #[.bool false,.int .i64 bb] 33∧Bk W18 (imD11 wb) K17 hb #[.bool false,.int .i64 a] 33):=by
     rw [hW18,hhb]
     exact (⟨H17.out.1.below (below1 _ _),H17.out.2.1.below (below1 _ _),H17.out.2.2.1.below (below1 _ _),H17.out.2.2.2.below (below1 _ _),Bk.new H17.out.1.kim _ _⟩:_∧_∧_∧_∧_)
    clear hW18 hhb
    refine (H18.out.1.drop nA tTell).mono ?_
    rintro e w19 ⟨rfl,K19,hst⟩
    have H19:Hid (At w2 ib w19 (imD12 wb) K19∧Bk w19 (imD12 wb) K19 vb #[.bool true,.int .i64 0] 33∧Bk w19 (imD12 wb) K19 ob #[.bool false,.int .i64 a] 33∧Bk w19 (imD12 wb) K19 tb #[.bool false,.int .i64 bb] 33∧Bk w19 (imD12 wb) K19 hb #[.bool false,.int .i64 a] 33):=⟨H18.out.1.step hst,H18.out.2.1.step hst,H18.out.2.2.1.step hst,H18.out.2.2.2.1.step hst,H18.out.2.2.2.2.step hst⟩
    clear hst
    have v0:=H19.out.2.1.cell 0 rfl
    have v1:=H19.out.2.1.cell 1 rfl
    have lv:=H19.out.2.1.lt
    go_wp2_with fail
    obtain ⟨r4,hr4⟩:∃ r,(imD12 wb).sendOut ⟨true,0⟩ tAsk [⟨false,a⟩] 99=r:=⟨_,rfl⟩
    refine (H19.out.1.send1 ⟨true,0⟩ ⟨by decide,by decide⟩ tAsk (by decide) ⟨false,a⟩ HI.out.1 99 hr4).mono ?_
    rintro e w20 ⟨K20,rfl,hst⟩
    have hf:=deep_four wb a
    rw [hr4] at hf
    obtain ⟨⟨r4o,r4n⟩,n4,e4,m4⟩:=r4
    obtain ⟨rfl,rfl⟩:=hf
    have H20:Hid (At w2 ib w20 m4 K20∧Bk w20 m4 K20 ob #[.bool false,.int .i64 a] 33∧Bk w20 m4 K20 tb #[.bool false,.int .i64 bb] 33∧Bk w20 m4 K20 hb #[.bool false,.int .i64 a] 33):=⟨H19.out.1.step hst,H19.out.2.2.1.step hst,H19.out.2.2.2.1.step hst,H19.out.2.2.2.2.step hst⟩
    clear hst v0 v1 lv hr4
    unfold Vl.val
    have o0:=H20.out.2.1.cell 0 rfl
    have o1:=H20.out.2.1.cell 1 rfl
    have lo:=H20.out.2.1.lt
    have t0:=H20.out.2.2.1.cell 0 rfl
    have t1:=H20.out.2.2.1.cell 1 rfl
    have lt:=H20.out.2.2.1.lt
    have h0:=H20.out.2.2.2.cell 0 rfl
    have h1:=H20.out.2.2.2.cell 1 rfl
    have lh:=H20.out.2.2.2.lt
    obtain rfl:bb=Go.RowKit.wrap64 (b+1):=HBB.out.trans (by unfold Kn.wrap64 Go.RowKit.wrap64;simp [IntKind.wrap_i64])
    clear HBB
    go_wp2_with fail
    refine (num_any 0 _).mono ?_
    rintro e w21 ⟨rfl,rfl⟩
    go_wp2_with fail
    refine (num_any 0 _).mono ?_
    rintro e w22 ⟨rfl,rfl⟩
    go_wp2
    go_ret
    exact ⟨rfl,HB2.out.trans ((H20.out.1.bel.mono HB2.out.size).trans ((below1 _ _).mono (Nat.le_trans HB2.out.size H20.out.1.bel.size)))⟩
 · have HG:Hid (¬ GoodNew p t):=hgood
   clear hgood
   go_enter Tryz.func6,Tryz.ntmps6
   go_wp2_with fail
   refine (alive_any w hg).mono ?_
   rintro e w1 ⟨rfl,hb1⟩
   have HB1:Hid _:=hb1
   clear hb1
   go_wp2_with fail
   refine (rnew_no p t w1 HG.out).mono ?_
   rintro e w2 ⟨rfl,rfl⟩
   go_wp2_with fail
   refine (new_no p t w2 HG.out).mono ?_
   rintro e w3 ⟨rfl,rfl⟩
   go_wp2_with fail
   refine (num_any 1 _).mono ?_
   rintro e w4 ⟨rfl,rfl⟩
   go_wp2
   go_ret
   exact ⟨rfl,HB1.out⟩
end Go.Proofs.YtkghmgoefiepeaaGreatDoor.reads
namespace Kn
open Go
structure POp where
 kind:Int
 s:ByteArray
 t:ByteArray
 u:ByteArray
 n:Int
 k:Int
 to:Vl
 ap:Option Addr
 cap:Nat
 args:List Vl
 ab:Nat
structure Sd where
 v:Vl
 s:ByteArray
 n:Int
 e:Int
 k:Int
def sdE (e:Int):Sd:=⟨Vl.zero,⟨#[]⟩,0,e,0⟩
end Kn
namespace Go.Proofs.YtkghmgoefiepeaaGreatDoor.reads
open Go.ChangeShapes Go.WideShapes Go.ChangeAt Go.RowKit Kn Go.Proofs.YtkghmgoefiepeaaGreatDoor.img
def CallRes (m:Im) (o:POp) (d:Sd) (m':Im):Prop :=
 if o.kind=1 then d=sdE (m.class_ o.s o.t o.n).1∧m'=(m.class_ o.s o.t o.n).2
 else if o.kind=2 then ∃ e a,MethRes m o.s o.t o.u e a m'∧d=⟨Vl.zero,⟨#[]⟩,a,e,0⟩
 else if o.kind=3 then d=sdE (m.drop o.s o.t).1∧m'=(m.drop o.s o.t).2
 else if o.kind=4 then d=sdE (m.move o.s o.t).1∧m'=(m.move o.s o.t).2
 else if o.kind=5 then d=sdE (m.copy o.s o.t o.u).1∧m'=(m.copy o.s o.t o.u).2
 else if o.kind=6 then d=⟨(m.make o.s).1,⟨#[]⟩,0,(m.make o.s).2.1,0⟩∧m'=(m.make o.s).2.2
 else if o.kind=7 then d=sdE (m.be o.n o.s).1∧m'=(m.be o.n o.s).2
 else if o.kind=8 then d=⟨(m.slot o.n o.k).1,⟨#[]⟩,0,(m.slot o.n o.k).2,0⟩∧m'=m
 else if o.kind=9 then d=⟨Vl.zero,(m.ofE o.n).1,0,(m.ofE o.n).2,0⟩∧m'=m
 else if o.kind=11 then d=⟨(m.sendOut o.to o.s o.args o.n).1,⟨#[]⟩,(m.sendOut o.to o.s o.args o.n).2.1,(m.sendOut o.to o.s o.args o.n).2.2.1,Go.RowKit.wrap64 ((m.sendOut o.to o.s o.args o.n).2.2.2.looks:Nat)⟩∧m'=(m.sendOut o.to o.s o.args o.n).2.2.2
 else d=sdE 0∧m'=m
theorem callRes_one {m m1 m2:Im}{o:POp}{d1 d2:Sd} (h1:CallRes m o d1 m1) (h2:CallRes m o d2 m2):d1=d2∧m1=m2:=by
 unfold CallRes at h1 h2
 by_cases k2:o.kind=2
 · rw [if_neg (by omega),if_pos k2] at h1 h2
   obtain ⟨e1,a1,r1,rfl⟩:=h1
   obtain ⟨e2,a2,r2,rfl⟩:=h2
   obtain ⟨rfl,rfl,rfl⟩:=methRes_one r1 r2
   exact ⟨rfl,rfl⟩
 · rw [if_neg k2] at h1 h2
   repeat' split at h1
   all_goals simp_all
theorem class_no (m:Im) (s t:ByteArray) (n:Int):(m.class_ s t n).1≠0→(m.class_ s t n).2=m:=by
 unfold Im.class_
 repeat' split
 all_goals simp
theorem drop_no (m:Im) (s t:ByteArray):(m.drop s t).1≠0→(m.drop s t).2=m:=by
 unfold Im.drop
 repeat' split
 all_goals simp
theorem move_no (m:Im) (s t:ByteArray):(m.move s t).1≠0→(m.move s t).2=m:=by
 unfold Im.move
 repeat' split
 all_goals simp
theorem copy_no (m:Im) (s t u:ByteArray):(m.copy s t u).1≠0→(m.copy s t u).2=m:=by
 unfold Im.copy
 repeat' split
 all_goals simp
theorem be_no (m:Im) (n:Int) (s:ByteArray):(m.be n s).1≠0→(m.be n s).2=m:=by
 unfold Im.be
 repeat' split
 all_goals simp
theorem make_no (m:Im) (s:ByteArray):(m.make s).2.1≠0→(m.make s).2.2=m∧(m.make s).1=Vl.zero:=by
 unfold Im.make
 repeat' split
 all_goals simp
theorem slot_no (m:Im) (n k:Int):(m.slot n k).2≠0→(m.slot n k).1=Vl.zero:=by
 unfold Im.slot
 repeat' split
 all_goals simp
theorem of_no (m:Im) (n:Int):(m.ofE n).2≠0→(m.ofE n).1=⟨#[]⟩:=by
 unfold Im.ofE
 repeat' split
 all_goals simp
theorem send_no (m:Im) (to:Vl) (s:ByteArray) (args:List Vl) (n:Int):(m.sendOut to s args n).2.2.1≠0→(m.sendOut to s args n).2.2.2=m∧(m.sendOut to s args n).1=Vl.zero:=by
 unfold Im.sendOut
 repeat' split
 all_goals simp
theorem meth_no {m m':Im}{s t u:ByteArray}{e a:Int} (h:MethRes m s t u e a m') (he:e≠0):m'=m:=by
 unfold MethRes at h
 split at h
 · exact h.2.2
 · rw [h.2,if_neg he]
theorem callRes_no {m m':Im}{o:POp}{d:Sd} (h:CallRes m o d m') (he:d.e≠0):m'=m∧d.v=Vl.zero∧d.s=⟨#[]⟩:=by
 unfold CallRes at h
 repeat' split at h
 · obtain ⟨rfl,rfl⟩:=h;exact ⟨class_no _ _ _ _ he,rfl,rfl⟩
 · obtain ⟨e,a,hr,rfl⟩:=h;exact ⟨meth_no hr he,rfl,rfl⟩
 · obtain ⟨rfl,rfl⟩:=h;exact ⟨drop_no _ _ _ he,rfl,rfl⟩
 · obtain ⟨rfl,rfl⟩:=h;exact ⟨move_no _ _ _ he,rfl,rfl⟩
 · obtain ⟨rfl,rfl⟩:=h;exact ⟨copy_no _ _ _ _ he,rfl,rfl⟩
 · obtain ⟨rfl,rfl⟩:=h;exact ⟨(make_no _ _ he).1,(make_no _ _ he).2,rfl⟩
 · obtain ⟨rfl,rfl⟩:=h;exact ⟨be_no _ _ _ he,rfl,rfl⟩
 · obtain ⟨rfl,rfl⟩:=h;exact ⟨rfl,slot_no _ _ _ he,rfl⟩
 · obtain ⟨rfl,rfl⟩:=h;exact ⟨rfl,rfl,of_no _ _ he⟩
 · obtain ⟨rfl,rfl⟩:=h;exact ⟨(send_no _ _ _ _ _ he).1,(send_no _ _ _ _ _ he).2,rfl⟩
 · obtain ⟨rfl,rfl⟩:=h;exact absurd rfl he
def _root_.Kn.POp.val (o:POp):Value:=.agg #[.int .i64 o.kind,.string o.s,.string o.t,.string o.u,.int .i64 o.n,.int .i64 o.k,.bool o.to.obj,.int .i64 o.to.n,.slice o.ap o.args.length o.cap]
def _root_.Kn.Sd.val (d:Sd):Value:=.agg #[.bool d.v.obj,.int .i64 d.v.n,.string d.s,.int .i64 d.n,.int .i64 d.e,.int .i64 d.k]
structure OpOk (w:World) (o:POp):Prop where
 zs:o.s.size≤140737488355328
 zt:o.t.size≤140737488355328
 zu:o.u.size≤140737488355328
 to:isI64 o.to.n
 args:ArgsAt w (.slice o.ap o.args.length o.cap) o.args o.ab
 lt:o.args≠[]→o.ab < w.heap.size
 all:∀ v∈o.args,isI64 v.n
def CPost (w:World) (m:Im) (K:Kd) (o:POp) (e:Ending) (w':World):Prop:=∃ (d:Sd) (m':Im) (K':Kd),e=.returned d.val∧CallRes m o d m'∧Step w w' m K m' K'
structure Cb (w w':World) (o:POp) (m':Im) (K':Kd) (v:Vl):Prop where
 b0:w'.heap[w.heap.size]?=some (.cells #[.int .i64 o.kind,.string o.s,.string o.t,.string o.u,.int .i64 o.n,.int .i64 o.k,.bool o.to.obj,.int .i64 o.to.n,.slice o.ap o.args.length o.cap] 36)
 b1:w'.heap[w.heap.size+1]?=some (.cells #[.bool false,.int .i64 0,.string ⟨#[]⟩,.int .i64 0,.int .i64 0,.int .i64 0] 42)
 b2:w'.heap[w.heap.size+1+1]?=some (.cells #[.bool v.obj,.int .i64 v.n] 33)
 off:∀ k,w.heap.size≤k→k≤w.heap.size+2→¬ Foot m' K' k
theorem Cb.lt {w w':World}{o:POp}{m':Im}{K':Kd}{v:Vl} (h:Cb w w' o m' K' v):w.heap.size+2 < w'.heap.size:=(Array.getElem?_eq_some_iff.1 h.b2).1
theorem Cb.step {w w1 w2:World}{o:POp}{m1 m2:Im}{K1 K2:Kd}{v:Vl} (h:Cb w w1 o m1 K1 v) (s:Step w1 w2 m1 K1 m2 K2):Cb w w2 o m2 K2 v :=
 have hl:=h.lt
 ⟨(s.chg.block _ (by omega) (h.off _ (by omega) (by omega))).trans h.b0, (s.chg.block _ (by omega) (h.off _ (by omega) (by omega))).trans h.b1, (s.chg.block _ (by omega) (h.off _ (by omega) (by omega))).trans h.b2, fun k h1 h2 e => by
   rcases s.foot k e with e | e
   · exact h.off k h1 h2 e
   · omega⟩
def calW (w:World) (o:POp):World:=((w.alloc (.cells #[.int .i64 o.kind,.string o.s,.string o.t,.string o.u,.int .i64 o.n,.int .i64 o.k,.bool o.to.obj,.int .i64 o.to.n,.slice o.ap o.args.length o.cap] 36)).alloc (.cells #[.bool false,.int .i64 0,.string ⟨#[]⟩,.int .i64 0,.int .i64 0,.int .i64 0] 42)).alloc (.cells #[.bool false,.int .i64 0] 33)
theorem calW_below (w:World) (o:POp):Below w.heap.size w (calW w o):=(below2 _ _ _).alloc (by simp;omega) _
theorem cb_new {w:World}{m:Im}{K:Kd} (h:KIm w m K) (o:POp):Cb w (calW w o) o m K Vl.zero:=by
 refine ⟨?_,?_,?_,fun k h1 _ e=>by have:=h.lt e;omega⟩
 · unfold calW
   rw [Below.heap_alloc _ _ _ (by simp;omega),Below.heap_alloc _ _ _ (by simp)]
   exact (MapKept.heap_alloc w _).1
 · unfold calW
   rw [Below.heap_alloc _ _ _ (by simp)]
   have:=(MapKept.heap_alloc (w.alloc (.cells #[.int .i64 o.kind,.string o.s,.string o.t,.string o.u,.int .i64 o.n,.int .i64 o.k,.bool o.to.obj,.int .i64 o.to.n,.slice o.ap o.args.length o.cap] 36)) (.cells #[.bool false,.int .i64 0,.string ⟨#[]⟩,.int .i64 0,.int .i64 0,.int .i64 0] 42)).1
   rw [World.size_alloc] at this
   exact this
 · unfold calW
   have:=(MapKept.heap_alloc ((w.alloc (.cells #[.int .i64 o.kind,.string o.s,.string o.t,.string o.u,.int .i64 o.n,.int .i64 o.k,.bool o.to.obj,.int .i64 o.to.n,.slice o.ap o.args.length o.cap] 36)).alloc (.cells #[.bool false,.int .i64 0,.string ⟨#[]⟩,.int .i64 0,.int .i64 0,.int .i64 0] 42)) (.cells #[.bool false,.int .i64 0] 33)).1
   rw [World.size_alloc,World.size_alloc] at this
   exact this
theorem Cb.cells {w w':World}{o:POp}{m':Im}{K':Kd}{v:Vl} (h:Cb w w' o m' K' v):(w'.cell? ⟨w.heap.size+1,0,none⟩=some (.bool false)∧w'.cell? ⟨w.heap.size+1,1,none⟩=some (.int .i64 0)∧w'.cell? ⟨w.heap.size+1,2,none⟩=some (.string ⟨#[]⟩)∧w'.cell? ⟨w.heap.size+1,3,none⟩=some (.int .i64 0)∧w'.cell? ⟨w.heap.size+1,4,none⟩=some (.int .i64 0)∧w'.cell? ⟨w.heap.size+1,5,none⟩=some (.int .i64 0)∧∀ k,w'.frozen? ⟨w.heap.size+1,k,none⟩=false)∧w'.cell? ⟨w.heap.size+1+1,0,none⟩=some (.bool v.obj)∧w'.cell? ⟨w.heap.size+1+1,1,none⟩=some (.int .i64 v.n)∧∀ k,w'.frozen? ⟨w.heap.size+1+1,k,none⟩=false:=by
 refine ⟨⟨?_,?_,?_,?_,?_,?_,fun k=>Cel.free ⟨_,_,h.b1⟩ k⟩,?_,?_,fun k=>Cel.free ⟨_,_,h.b2⟩ k⟩
 all_goals first | (simp only [World.cell?,h.b1];rfl) | (simp only [World.cell?,h.b2];rfl)
theorem results_said {fn:Func}{p:Tmp} (h:fn.results=#[.cell p 42]) {tmps:Array Value}{w:World}{z:Nat} (x0 x1 x2 x3 x4 x5:Value) (hp:tmps.getD p undef=.pointer (some ⟨z,0,none⟩)) (hb:w.heap[z]?=some (.cells #[x0,x1,x2,x3,x4,x5] 42)) :
 (results fn tmps).run Tryz.prog w=.ok (.agg #[x0,x1,x2,x3,x4,x5]) w:=by
 have hp2:tmps[p]?.getD undef=.pointer (some ⟨z,0,none⟩):=by rw [← hp];simp
 have c:∀ k v,(#[x0,x1,x2,x3,x4,x5]:Array Value)[k]?=some v→w.cell? ⟨z,k,none⟩=some v:=fun k v e=>by simp only [World.cell?,hb];exact e
 simp [results,h,hp2,go_sem,c 0 x0 rfl,c 1 x1 rfl,c 2 x2 rfl,c 3 x3 rfl,c 4 x4 rfl,c 5 x5 rfl]
def saidW (w1:World) (z:Nat) (d:Sd):World:=(((((w1.setCell ⟨z,0,none⟩ (.bool d.v.obj)).setCell ⟨z,1,none⟩ (.int .i64 d.v.n)).setCell ⟨z,2,none⟩ (.string d.s)).setCell ⟨z,3,none⟩ (.int .i64 d.n)).setCell ⟨z,4,none⟩ (.int .i64 d.e)).setCell ⟨z,5,none⟩ (.int .i64 d.k)
theorem set_at {w:World}{z:Nat}{cs:Array Value}{t:TypeId} (h:w.heap[z]?=some (.cells cs t)) (k:Nat) (v:Value):(w.setCell ⟨z,k,none⟩ v).heap[z]?=some (.cells (cs.setIfInBounds k v) t):=by
 simp only [World.setCell,Array.getElem?_modify,if_pos,h]
 rfl
theorem Cb.ret {w w1:World}{o:POp}{m m':Im}{K K':Kd}{v:Vl} (h:Cb w w1 o m' K' v) (hk:KIm w m K) (hs:Step w w1 m K m' K') (d:Sd) (hd:CallRes m o d m') {a:Act} (ha:a.defers=[]) (h4:a.tmps.getD 4 undef=.pointer (some ⟨w.heap.size+1,0,none⟩)) :
 bodyPost Tryz.prog Tryz.f13 (CPost w m K o) .ret a (saidW w1 (w.heap.size+1) d):=by
 have hb:(saidW w1 (w.heap.size+1) d).heap[w.heap.size+1]?=some (.cells #[.bool d.v.obj,.int .i64 d.v.n,.string d.s,.int .i64 d.n,.int .i64 d.e,.int .i64 d.k] 42):=set_at (set_at (set_at (set_at (set_at (set_at h.b1 0 _) 1 _) 2 _) 3 _) 4 _) 5 _
 refine bodyPost_ret (results_said rfl _ _ _ _ _ _ h4 hb) ha ⟨d,m',K',rfl,hd,?_⟩
 exact hs.aside (S:=fun k=>k=w.heap.size+1) ((((((((Chg.refl _ (fun k=>k=w.heap.size+1)).setCell ⟨w.heap.size+1,0,none⟩ _ (fun _=>rfl)).setCell ⟨w.heap.size+1,1,none⟩ _ (fun _=>rfl)).setCell ⟨w.heap.size+1,2,none⟩ _ (fun _=>rfl)).setCell ⟨w.heap.size+1,3,none⟩ _ (fun _=>rfl)).setCell ⟨w.heap.size+1,4,none⟩ _ (fun _=>rfl)).setCell ⟨w.heap.size+1,5,none⟩ _ (fun _=>rfl))) (fun k e=>⟨by omega,h.off k (by omega) (by omega)⟩) (fun k hg=>hk.glo.lt hg)
section
variable {w0 w : World} {b : Nat} {m : Im} {K : Kd}
theorem At.move (h:At w0 b w m K) (cn an:ByteArray) :
 Calls Tryz.prog 31 #[.pointer (some ⟨b,0,none⟩),.string cn,.string an] w fun e w'=>e=.returned (.int .i64 (m.move cn an).1)∧∃ K',Step w w' m K (m.move cn an).2 K':=by
 obtain rfl:=h.b_
 exact move_any h.kim cn an
theorem At.copy (h:At w0 b w m K) (cn sel to:ByteArray) :
 Calls Tryz.prog 32 #[.pointer (some ⟨b,0,none⟩),.string cn,.string sel,.string to] w fun e w'=>e=.returned (.int .i64 (m.copy cn sel to).1)∧∃ K',Step w w' m K (m.copy cn sel to).2 K':=by
 obtain rfl:=h.b_
 exact copy_all h.kim cn sel to
theorem At.be (h:At w0 b w m K) (o:Int) (cn:ByteArray) :
 Calls Tryz.prog 33 #[.pointer (some ⟨b,0,none⟩),.int .i64 o,.string cn] w fun e w'=>e=.returned (.int .i64 (m.be o cn).1)∧∃ K',Step w w' m K (m.be o cn).2 K':=by
 obtain rfl:=h.b_
 exact be_any h.kim o cn
theorem At.slot (h:At w0 b w m K) (o j:Int) :
 Calls Tryz.prog 23 #[.pointer (some ⟨b,0,none⟩),.int .i64 o,.int .i64 j] w fun e w'=>e=.returned (.tuple #[(m.slot o j).1.val,.int .i64 (m.slot o j).2])∧∃ K',Step w w' m K m K':=by
 obtain rfl:=h.b_
 exact (slot_any h.kim o j).mono fun e w' he=>⟨he.1,K,Step.below h.kim he.2⟩
theorem At.of (h:At w0 b w m K) (o:Int) :
 Calls Tryz.prog 25 #[.pointer (some ⟨b,0,none⟩),.int .i64 o] w fun e w'=>e=.returned (.tuple #[.string (m.ofE o).1,.int .i64 (m.ofE o).2])∧∃ K',Step w w' m K m K':=by
 obtain rfl:=h.b_
 exact (of_any h.kim o).mono fun e w' he=>⟨he.1,K,by rw [he.2];exact Step.refl h.kim⟩
theorem At.sends (h:At w0 b w m K) :
 Calls Tryz.prog 29 #[.pointer (some ⟨b,0,none⟩)] w fun e w'=>∃ c:Int,e=.returned (.tuple #[.int .i64 (Go.RowKit.wrap64 (m.looks:Nat)),.int .i64 c])∧Step w w' m K m K:=by
 obtain rfl:=h.b_
 exact (sends_any h.kim).mono fun e w' he=>⟨_,he.1,Step.below h.kim he.2⟩
theorem At.flush (h:At w0 b w m K) (sel:ByteArray) (hs:sel.size≤140737488355328) :
 Calls Tryz.prog 14 #[.pointer (some ⟨b,0,none⟩),.string sel] w fun e w'=>(∃ n:Int,e=.returned (.int .i64 n))∧∃ K',Step w w' m K m K':=by
 obtain rfl:=h.b_
 exact (flush_any h.kim sel hs).mono fun e w' he=>⟨⟨_,he.1⟩,he.2⟩
end
theorem Cb.setV {w w1:World}{o:POp}{m':Im}{K':Kd}{v:Vl} (h:Cb w w1 o m' K' v) (u:Vl):Cb w ((w1.setCell ⟨w.heap.size+1+1,0,none⟩ (.bool u.obj)).setCell ⟨w.heap.size+1+1,1,none⟩ (.int .i64 u.n)) o m' K' u :=
 ⟨by rw [Below.heap_setCell _ _ _ _ (by simp;omega),Below.heap_setCell _ _ _ _ (by simp;omega)];exact h.b0,by rw [Below.heap_setCell _ _ _ _ (by simp),Below.heap_setCell _ _ _ _ (by simp)];exact h.b1,set_at (set_at h.b2 0 _) 1 _,h.off⟩
theorem Cb.stepV {w w1:World}{o:POp}{m m':Im}{K K':Kd}{v:Vl} (h:Cb w w1 o m' K' v) (hk:KIm w m K) (hs:Step w w1 m K m' K') (u:Vl):Step w ((w1.setCell ⟨w.heap.size+1+1,0,none⟩ (.bool u.obj)).setCell ⟨w.heap.size+1+1,1,none⟩ (.int .i64 u.n)) m K m' K' :=
 hs.aside (S:=fun k=>k=w.heap.size+1+1) (((Chg.refl _ (fun k=>k=w.heap.size+1+1)).setCell ⟨w.heap.size+1+1,0,none⟩ _ (fun _=>rfl)).setCell ⟨w.heap.size+1+1,1,none⟩ _ (fun _=>rfl)) (fun k e=>⟨by omega,h.off k (by omega) (by omega)⟩) (fun k hg=>hk.glo.lt hg)
theorem call1 {w0 w:World}{b:Nat}{m:Im}{K:Kd} (h:At w0 b w m K) (o:POp) (ho:OpOk w o) (hk:o.kind=1) :
 Calls Tryz.prog 13 #[.pointer (some ⟨b,0,none⟩),o.val] w (CPost w m K o):=by
 have HO:Hid (OpOk w o∧o.kind=1∧At w0 b w m K):=⟨ho,hk,h⟩
 obtain ⟨W,hW⟩:∃ W,W=calW w o:=⟨_,rfl⟩
 have hcb:=cb_new h.kim o
 have hst0:=Step.below h.kim (calW_below w o)
 rw [← hW] at hcb hst0
 have HC:Hid (Cb w W o m K Vl.zero∧Step w W m K m K):=⟨hcb,hst0⟩
 have hcl:=(h.step hst0).class_ o.s o.t o.n ho.zs
 unfold calW at hW
 unfold Kn.POp.val
 rw [hk] at hW ⊢
 clear ho hk h hcb hst0
 go_enter Tryz.func13,Tryz.ntmps13
 go_wp2_with fail
 rw [← hW]
 clear hW
 refine hcl.mono ?_
 rintro e w1 ⟨rfl,K1,hst⟩
 have H1:Hid (Cb w w1 o (m.class_ o.s o.t o.n).2 K1 Vl.zero∧Step w w1 m K (m.class_ o.s o.t o.n).2 K1):=⟨HC.out.1.step hst,HC.out.2.trans hst⟩
 have q:=H1.out.1.cells
 clear hst hcl
 go_wp2
 clear q
 exact H1.out.1.ret HO.out.2.2.kim H1.out.2 (sdE (m.class_ o.s o.t o.n).1) (by unfold CallRes;rw [if_pos HO.out.2.1];exact ⟨rfl,rfl⟩) rfl rfl
theorem call3 {w0 w:World}{b:Nat}{m:Im}{K:Kd} (h:At w0 b w m K) (o:POp) (ho:OpOk w o) (hk:o.kind=3) :
 Calls Tryz.prog 13 #[.pointer (some ⟨b,0,none⟩),o.val] w (CPost w m K o):=by
 have HO:Hid (OpOk w o∧o.kind=3∧At w0 b w m K):=⟨ho,hk,h⟩
 obtain ⟨W,hW⟩:∃ W,W=calW w o:=⟨_,rfl⟩
 have hcb:=cb_new h.kim o
 have hst0:=Step.below h.kim (calW_below w o)
 rw [← hW] at hcb hst0
 have HC:Hid (Cb w W o m K Vl.zero∧Step w W m K m K):=⟨hcb,hst0⟩
 have hcl:=(h.step hst0).drop o.s o.t
 unfold calW at hW
 unfold Kn.POp.val
 rw [hk] at hW ⊢
 clear ho hk h hcb hst0
 go_enter Tryz.func13,Tryz.ntmps13
 go_wp2_with fail
 rw [← hW]
 clear hW
 refine hcl.mono ?_
 rintro e w1 ⟨rfl,K1,hst⟩
 have H1:Hid (Cb w w1 o (m.drop o.s o.t).2 K1 Vl.zero∧Step w w1 m K (m.drop o.s o.t).2 K1):=⟨HC.out.1.step hst,HC.out.2.trans hst⟩
 have q:=H1.out.1.cells
 clear hst hcl
 go_wp2
 clear q
 exact H1.out.1.ret HO.out.2.2.kim H1.out.2 (sdE (m.drop o.s o.t).1) (by unfold CallRes;rw [if_neg (by rw [HO.out.2.1];decide),if_neg (by rw [HO.out.2.1];decide),if_pos HO.out.2.1];exact ⟨rfl,rfl⟩) rfl rfl
theorem call4 {w0 w:World}{b:Nat}{m:Im}{K:Kd} (h:At w0 b w m K) (o:POp) (ho:OpOk w o) (hk:o.kind=4) :
 Calls Tryz.prog 13 #[.pointer (some ⟨b,0,none⟩),o.val] w (CPost w m K o):=by
 have HO:Hid (OpOk w o∧o.kind=4∧At w0 b w m K):=⟨ho,hk,h⟩
 obtain ⟨W,hW⟩:∃ W,W=calW w o:=⟨_,rfl⟩
 have hcb:=cb_new h.kim o
 have hst0:=Step.below h.kim (calW_below w o)
 rw [← hW] at hcb hst0
 have HC:Hid (Cb w W o m K Vl.zero∧Step w W m K m K):=⟨hcb,hst0⟩
 have hcl:=(h.step hst0).move o.s o.t
 unfold calW at hW
 unfold Kn.POp.val
 rw [hk] at hW ⊢
 clear ho hk h hcb hst0
 go_enter Tryz.func13,Tryz.ntmps13
 go_wp2_with fail
 rw [← hW]
 clear hW
 refine hcl.mono ?_
 rintro e w1 ⟨rfl,K1,hst⟩
 have H1:Hid (Cb w w1 o (m.move o.s o.t).2 K1 Vl.zero∧Step w w1 m K (m.move o.s o.t).2 K1):=⟨HC.out.1.step hst,HC.out.2.trans hst⟩
 have q:=H1.out.1.cells
 clear hst hcl
 go_wp2
 clear q
 exact H1.out.1.ret HO.out.2.2.kim H1.out.2 (sdE (m.move o.s o.t).1) (by unfold CallRes;rw [if_neg (by rw [HO.out.2.1];decide),if_neg (by rw [HO.out.2.1];decide),if_neg (by rw [HO.out.2.1];decide),if_pos HO.out.2.1];exact ⟨rfl,rfl⟩) rfl rfl
theorem call5 {w0 w:World}{b:Nat}{m:Im}{K:Kd} (h:At w0 b w m K) (o:POp) (ho:OpOk w o) (hk:o.kind=5) :
 Calls Tryz.prog 13 #[.pointer (some ⟨b,0,none⟩),o.val] w (CPost w m K o):=by
 have HO:Hid (OpOk w o∧o.kind=5∧At w0 b w m K):=⟨ho,hk,h⟩
 obtain ⟨W,hW⟩:∃ W,W=calW w o:=⟨_,rfl⟩
 have hcb:=cb_new h.kim o
 have hst0:=Step.below h.kim (calW_below w o)
 rw [← hW] at hcb hst0
 have HC:Hid (Cb w W o m K Vl.zero∧Step w W m K m K):=⟨hcb,hst0⟩
 have hcl:=(h.step hst0).copy o.s o.t o.u
 unfold calW at hW
 unfold Kn.POp.val
 rw [hk] at hW ⊢
 clear ho hk h hcb hst0
 go_enter Tryz.func13,Tryz.ntmps13
 go_wp2_with fail
 rw [← hW]
 clear hW
 refine hcl.mono ?_
 rintro e w1 ⟨rfl,K1,hst⟩
 have H1:Hid (Cb w w1 o (m.copy o.s o.t o.u).2 K1 Vl.zero∧Step w w1 m K (m.copy o.s o.t o.u).2 K1):=⟨HC.out.1.step hst,HC.out.2.trans hst⟩
 have q:=H1.out.1.cells
 clear hst hcl
 go_wp2
 clear q
 exact H1.out.1.ret HO.out.2.2.kim H1.out.2 (sdE (m.copy o.s o.t o.u).1) (by unfold CallRes;rw [if_neg (by rw [HO.out.2.1];decide),if_neg (by rw [HO.out.2.1];decide),if_neg (by rw [HO.out.2.1];decide),if_neg (by rw [HO.out.2.1];decide),if_pos HO.out.2.1];exact ⟨rfl,rfl⟩) rfl rfl
theorem call7 {w0 w:World}{b:Nat}{m:Im}{K:Kd} (h:At w0 b w m K) (o:POp) (ho:OpOk w o) (hk:o.kind=7) :
 Calls Tryz.prog 13 #[.pointer (some ⟨b,0,none⟩),o.val] w (CPost w m K o):=by
 have HO:Hid (OpOk w o∧o.kind=7∧At w0 b w m K):=⟨ho,hk,h⟩
 obtain ⟨W,hW⟩:∃ W,W=calW w o:=⟨_,rfl⟩
 have hcb:=cb_new h.kim o
 have hst0:=Step.below h.kim (calW_below w o)
 rw [← hW] at hcb hst0
 have HC:Hid (Cb w W o m K Vl.zero∧Step w W m K m K):=⟨hcb,hst0⟩
 have hcl:=(h.step hst0).be o.n o.s
 unfold calW at hW
 unfold Kn.POp.val
 rw [hk] at hW ⊢
 clear ho hk h hcb hst0
 go_enter Tryz.func13,Tryz.ntmps13
 go_wp2_with fail
 rw [← hW]
 clear hW
 refine hcl.mono ?_
 rintro e w1 ⟨rfl,K1,hst⟩
 have H1:Hid (Cb w w1 o (m.be o.n o.s).2 K1 Vl.zero∧Step w w1 m K (m.be o.n o.s).2 K1):=⟨HC.out.1.step hst,HC.out.2.trans hst⟩
 have q:=H1.out.1.cells
 clear hst hcl
 go_wp2
 clear q
 exact H1.out.1.ret HO.out.2.2.kim H1.out.2 (sdE (m.be o.n o.s).1) (by unfold CallRes;rw [if_neg (by rw [HO.out.2.1];decide),if_neg (by rw [HO.out.2.1];decide),if_neg (by rw [HO.out.2.1];decide),if_neg (by rw [HO.out.2.1];decide),if_neg (by rw [HO.out.2.1];decide),if_neg (by rw [HO.out.2.1];decide),if_pos HO.out.2.1];exact ⟨rfl,rfl⟩) rfl rfl
theorem call2 {w0 w:World}{b:Nat}{m:Im}{K:Kd} (h:At w0 b w m K) (o:POp) (ho:OpOk w o) (hk:o.kind=2) :
 Calls Tryz.prog 13 #[.pointer (some ⟨b,0,none⟩),o.val] w (CPost w m K o):=by
 have HO:Hid (OpOk w o∧o.kind=2∧At w0 b w m K):=⟨ho,hk,h⟩
 obtain ⟨W,hW⟩:∃ W,W=calW w o:=⟨_,rfl⟩
 have hcb:=cb_new h.kim o
 have hst0:=Step.below h.kim (calW_below w o)
 rw [← hW] at hcb hst0
 have HC:Hid (Cb w W o m K Vl.zero∧Step w W m K m K):=⟨hcb,hst0⟩
 have hcl:=(h.step hst0).method o.s o.t o.u ho.zt ho.zu
 unfold calW at hW
 unfold Kn.POp.val
 rw [hk] at hW ⊢
 clear ho hk h hcb hst0
 go_enter Tryz.func13,Tryz.ntmps13
 go_wp2_with fail
 rw [← hW]
 clear hW
 refine hcl.mono ?_
 rintro e w1 ⟨r,a,m1,K1,rfl,hm,hst⟩
 have H1:Hid (Cb w w1 o m1 K1 Vl.zero∧Step w w1 m K m1 K1∧MethRes m o.s o.t o.u r a m1):=⟨HC.out.1.step hst,HC.out.2.trans hst,hm⟩
 have q:=H1.out.1.cells
 clear hst hcl hm
 go_wp2
 clear q
 exact H1.out.1.ret HO.out.2.2.kim H1.out.2.1 ⟨Vl.zero,⟨#[]⟩,a,r,0⟩ (by unfold CallRes;rw [if_neg (by rw [HO.out.2.1];decide),if_pos HO.out.2.1];exact ⟨r,a,H1.out.2.2,rfl⟩) rfl rfl
theorem call6 {w0 w:World}{b:Nat}{m:Im}{K:Kd} (h:At w0 b w m K) (o:POp) (ho:OpOk w o) (hk:o.kind=6) :
 Calls Tryz.prog 13 #[.pointer (some ⟨b,0,none⟩),o.val] w (CPost w m K o):=by
 have HO:Hid (OpOk w o∧o.kind=6∧At w0 b w m K):=⟨ho,hk,h⟩
 obtain ⟨W,hW⟩:∃ W,W=calW w o:=⟨_,rfl⟩
 have hcb:=cb_new h.kim o
 have hst0:=Step.below h.kim (calW_below w o)
 rw [← hW] at hcb hst0
 have HC:Hid (Cb w W o m K Vl.zero∧Step w W m K m K):=⟨hcb,hst0⟩
 have hcl:=(h.step hst0).make o.s
 unfold calW at hW
 unfold Kn.POp.val
 rw [hk] at hW ⊢
 clear ho hk h hcb hst0
 go_enter Tryz.func13,Tryz.ntmps13
 go_wp2_with fail
 rw [← hW]
 clear hW
 refine hcl.mono ?_
 obtain ⟨r,hr⟩:∃ r,r=(m.make o.s).1:=⟨_,rfl⟩
 rw [← hr]
 rintro e w1 ⟨rfl,K1,hst⟩
 have H1:Hid (Cb w w1 o (m.make o.s).2.2 K1 Vl.zero∧Step w w1 m K (m.make o.s).2.2 K1∧r=(m.make o.s).1):=⟨HC.out.1.step hst,HC.out.2.trans hst,hr⟩
 have q:=H1.out.1.cells
 clear hst hcl hr
 unfold Vl.val
 go_wp2
 clear q
 exact (H1.out.1.setV r).ret HO.out.2.2.kim (H1.out.1.stepV HO.out.2.2.kim H1.out.2.1 r) ⟨r,⟨#[]⟩,0,(m.make o.s).2.1,0⟩ (by unfold CallRes;rw [if_neg (by rw [HO.out.2.1];decide),if_neg (by rw [HO.out.2.1];decide),if_neg (by rw [HO.out.2.1];decide),if_neg (by rw [HO.out.2.1];decide),if_neg (by rw [HO.out.2.1];decide),if_pos HO.out.2.1];exact ⟨by rw [H1.out.2.2],rfl⟩) rfl rfl
theorem call8 {w0 w:World}{b:Nat}{m:Im}{K:Kd} (h:At w0 b w m K) (o:POp) (ho:OpOk w o) (hk:o.kind=8) :
 Calls Tryz.prog 13 #[.pointer (some ⟨b,0,none⟩),o.val] w (CPost w m K o):=by
 have HO:Hid (OpOk w o∧o.kind=8∧At w0 b w m K):=⟨ho,hk,h⟩
 obtain ⟨W,hW⟩:∃ W,W=calW w o:=⟨_,rfl⟩
 have hcb:=cb_new h.kim o
 have hst0:=Step.below h.kim (calW_below w o)
 rw [← hW] at hcb hst0
 have HC:Hid (Cb w W o m K Vl.zero∧Step w W m K m K):=⟨hcb,hst0⟩
 have hcl:=(h.step hst0).slot o.n o.k
 unfold calW at hW
 unfold Kn.POp.val
 rw [hk] at hW ⊢
 clear ho hk h hcb hst0
 go_enter Tryz.func13,Tryz.ntmps13
 go_wp2_with fail
 rw [← hW]
 clear hW
 refine hcl.mono ?_
 obtain ⟨r,hr⟩:∃ r,r=(m.slot o.n o.k).1:=⟨_,rfl⟩
 rw [← hr]
 rintro e w1 ⟨rfl,K1,hst⟩
 have H1:Hid (Cb w w1 o m K1 Vl.zero∧Step w w1 m K m K1∧r=(m.slot o.n o.k).1):=⟨HC.out.1.step hst,HC.out.2.trans hst,hr⟩
 have q:=H1.out.1.cells
 clear hst hcl hr
 unfold Vl.val
 go_wp2
 clear q
 exact (H1.out.1.setV r).ret HO.out.2.2.kim (H1.out.1.stepV HO.out.2.2.kim H1.out.2.1 r) ⟨r,⟨#[]⟩,0,(m.slot o.n o.k).2,0⟩ (by unfold CallRes;rw [if_neg (by rw [HO.out.2.1];decide),if_neg (by rw [HO.out.2.1];decide),if_neg (by rw [HO.out.2.1];decide),if_neg (by rw [HO.out.2.1];decide),if_neg (by rw [HO.out.2.1];decide),if_neg (by rw [HO.out.2.1];decide),if_neg (by rw [HO.out.2.1];decide),if_pos HO.out.2.1];exact ⟨by rw [H1.out.2.2],rfl⟩) rfl rfl
theorem call9 {w0 w:World}{b:Nat}{m:Im}{K:Kd} (h:At w0 b w m K) (o:POp) (ho:OpOk w o) (hk:o.kind=9) :
 Calls Tryz.prog 13 #[.pointer (some ⟨b,0,none⟩),o.val] w (CPost w m K o):=by
 have HO:Hid (OpOk w o∧o.kind=9∧At w0 b w m K):=⟨ho,hk,h⟩
 obtain ⟨W,hW⟩:∃ W,W=calW w o:=⟨_,rfl⟩
 have hcb:=cb_new h.kim o
 have hst0:=Step.below h.kim (calW_below w o)
 rw [← hW] at hcb hst0
 have HC:Hid (Cb w W o m K Vl.zero∧Step w W m K m K):=⟨hcb,hst0⟩
 have hcl:=(h.step hst0).of o.n
 unfold calW at hW
 unfold Kn.POp.val
 rw [hk] at hW ⊢
 clear ho hk h hcb hst0
 go_enter Tryz.func13,Tryz.ntmps13
 go_wp2_with fail
 rw [← hW]
 clear hW
 refine hcl.mono ?_
 rintro e w1 ⟨rfl,K1,hst⟩
 have H1:Hid (Cb w w1 o m K1 Vl.zero∧Step w w1 m K m K1):=⟨HC.out.1.step hst,HC.out.2.trans hst⟩
 have q:=H1.out.1.cells
 clear hst hcl
 go_wp2
 clear q
 exact H1.out.1.ret HO.out.2.2.kim H1.out.2 ⟨Vl.zero,(m.ofE o.n).1,0,(m.ofE o.n).2,0⟩ (by unfold CallRes;rw [if_neg (by rw [HO.out.2.1];decide),if_neg (by rw [HO.out.2.1];decide),if_neg (by rw [HO.out.2.1];decide),if_neg (by rw [HO.out.2.1];decide),if_neg (by rw [HO.out.2.1];decide),if_neg (by rw [HO.out.2.1];decide),if_neg (by rw [HO.out.2.1];decide),if_neg (by rw [HO.out.2.1];decide),if_pos HO.out.2.1];exact ⟨rfl,rfl⟩) rfl rfl
theorem call11 {w0 w:World}{b:Nat}{m:Im}{K:Kd} (h:At w0 b w m K) (o:POp) (ho:OpOk w o) (hoff:o.args≠[]→¬ Foot m K o.ab) (hk:o.kind=11) :
 Calls Tryz.prog 13 #[.pointer (some ⟨b,0,none⟩),o.val] w (CPost w m K o):=by
 have HO:Hid (OpOk w o∧o.kind=11∧At w0 b w m K):=⟨ho,hk,h⟩
 obtain ⟨W,hW⟩:∃ W,W=calW w o:=⟨_,rfl⟩
 have hcb:=cb_new h.kim o
 have hst0:=Step.below h.kim (calW_below w o)
 rw [← hW] at hcb hst0
 have HC:Hid (Cb w W o m K Vl.zero∧Step w W m K m K):=⟨hcb,hst0⟩
 have hcl:=(h.step hst0).send o.to ho.to o.s ho.zs (ho.args.same (fun hn=>(by rw [hW];exact (calW_below w o).block _ (ho.lt hn)))) (fun hn=>⟨by rw [hW];exact Nat.lt_of_lt_of_le (ho.lt hn) (calW_below w o).size,hoff hn⟩) ho.all o.n
 unfold Vl.val at hcl
 unfold calW at hW
 unfold Kn.POp.val
 rw [hk] at hW ⊢
 clear ho hk h hcb hst0
 go_enter Tryz.func13,Tryz.ntmps13
 go_wp2_with fail
 rw [← hW]
 clear hW
 refine hcl.mono ?_
 obtain ⟨r,hr⟩:∃ r,r=m.sendOut o.to o.s o.args o.n:=⟨_,rfl⟩
 rw [← hr]
 rintro e w1 ⟨K1,rfl,hst⟩
 have H1:Hid (Cb w w1 o r.2.2.2 K1 Vl.zero∧Step w w1 m K r.2.2.2 K1∧r=m.sendOut o.to o.s o.args o.n):=⟨HC.out.1.step hst,HC.out.2.trans hst,hr⟩
 have q:=H1.out.1.cells
 clear hst hcl hr
 unfold Vl.val
 go_wp2_with fail
 obtain ⟨W2,hW2⟩:∃ W2,W2=(w1.setCell ⟨w.heap.size+1+1,0,none⟩ (.bool r.1.obj)).setCell ⟨w.heap.size+1+1,1,none⟩ (.int .i64 r.1.n):=⟨_,rfl⟩
 rw [← hW2]
 have H2:Hid (Cb w W2 o r.2.2.2 K1 r.1∧Step w W2 m K r.2.2.2 K1):=by
  rw [hW2]
  exact (⟨H1.out.1.setV r.1,H1.out.1.stepV HO.out.2.2.kim H1.out.2.1 r.1⟩:_∧_)
 clear hW2 q
 refine (HO.out.2.2.step H2.out.2).sends.mono ?_
 rintro e w3 ⟨c,rfl,hst⟩
 have H3:Hid (Cb w w3 o r.2.2.2 K1 r.1∧Step w w3 m K r.2.2.2 K1):=⟨H2.out.1.step hst,H2.out.2.trans hst⟩
 have q:=H3.out.1.cells
 clear hst
 go_wp2
 clear q
 exact H3.out.1.ret HO.out.2.2.kim H3.out.2 ⟨r.1,⟨#[]⟩,r.2.1,r.2.2.1,Go.RowKit.wrap64 (r.2.2.2.looks:Nat)⟩ (by unfold CallRes;rw [if_neg (by rw [HO.out.2.1];decide),if_neg (by rw [HO.out.2.1];decide),if_neg (by rw [HO.out.2.1];decide),if_neg (by rw [HO.out.2.1];decide),if_neg (by rw [HO.out.2.1];decide),if_neg (by rw [HO.out.2.1];decide),if_neg (by rw [HO.out.2.1];decide),if_neg (by rw [HO.out.2.1];decide),if_neg (by rw [HO.out.2.1];decide),if_pos HO.out.2.1];rw [← H1.out.2.2];exact ⟨rfl,rfl⟩) rfl rfl
theorem call0 {w0 w:World}{b:Nat}{m:Im}{K:Kd} (h:At w0 b w m K) (o:POp) (n1:¬ o.kind=1) (n2:¬ o.kind=2) (n3:¬ o.kind=3) (n4:¬ o.kind=4) (n5:¬ o.kind=5) (n6:¬ o.kind=6) (n7:¬ o.kind=7) (n8:¬ o.kind=8) (n9:¬ o.kind=9) (n11:¬ o.kind=11) :
 Calls Tryz.prog 13 #[.pointer (some ⟨b,0,none⟩),o.val] w (CPost w m K o):=by
 obtain ⟨W,hW⟩:∃ W,W=calW w o:=⟨_,rfl⟩
 have hcb:=cb_new h.kim o
 have hst0:=Step.below h.kim (calW_below w o)
 rw [← hW] at hcb hst0
 have HC:Hid (Cb w W o m K Vl.zero∧Step w W m K m K∧KIm w m K):=⟨hcb,hst0,h.kim⟩
 have hr:CallRes m o (sdE 0) m:=by unfold CallRes;rw [if_neg n1,if_neg n2,if_neg n3,if_neg n4,if_neg n5,if_neg n6,if_neg n7,if_neg n8,if_neg n9,if_neg n11];exact ⟨rfl,rfl⟩
 have HR:Hid (CallRes m o (sdE 0) m):=hr
 unfold calW at hW
 unfold Kn.POp.val
 clear h hcb hst0 hr
 go_enter Tryz.func13,Tryz.ntmps13
 go_wp2
 rw [← hW]
 exact bodyPost_ret (results_said rfl _ _ _ _ _ _ rfl HC.out.1.b1) rfl ⟨sdE 0,m,K,rfl,HR.out,HC.out.2.1⟩
theorem call_any {w0 w:World}{b:Nat}{m:Im}{K:Kd} (h:At w0 b w m K) (o:POp) (ho:OpOk w o) (hoff:o.args≠[]→¬ Foot m K o.ab) :
 Calls Tryz.prog 13 #[.pointer (some ⟨b,0,none⟩),o.val] w (CPost w m K o):=by
 by_cases k1:o.kind=1
 · exact call1 h o ho k1
 by_cases k2:o.kind=2
 · exact call2 h o ho k2
 by_cases k3:o.kind=3
 · exact call3 h o ho k3
 by_cases k4:o.kind=4
 · exact call4 h o ho k4
 by_cases k5:o.kind=5
 · exact call5 h o ho k5
 by_cases k6:o.kind=6
 · exact call6 h o ho k6
 by_cases k7:o.kind=7
 · exact call7 h o ho k7
 by_cases k8:o.kind=8
 · exact call8 h o ho k8
 by_cases k9:o.kind=9
 · exact call9 h o ho k9
 by_cases k11:o.kind=11
 · exact call11 h o ho hoff k11
 exact call0 h o k1 k2 k3 k4 k5 k6 k7 k8 k9 k11
end Go.Proofs.YtkghmgoefiepeaaGreatDoor.reads
