import Derived.Deep.LoopGhost
import Derived.Test.YtkghmgoefiepeaaGreatDoorQ0
import Derived.Test.YtkghmgoefiepeaaGreatDoorQ19
import Derived.Test.YtkghmgoefiepeaaGreatDoorQ20
set_option linter.unusedSimpArgs false
set_option linter.unusedVariables false
set_option maxHeartbeats 4000000
set_option maxRecDepth 100000
namespace Kn
open Go
theorem methodIs_zero {sel src:List UInt8}{n:Nat}{a:Int} (h:MethodIs sel src n 0 a):a=0:=by
 rcases h with ⟨_,h,_⟩ | ⟨_,_,h,_⟩ | ⟨_,_,_,h,_⟩ | ⟨_,_,hw,e',i,hf,hr⟩
 · omega
 · omega
 · omega
 · rcases hr with ⟨j,x,rfl,hx,he,_⟩ | ⟨_,_,h⟩
   · rcases hf with ⟨j',hj',hjj,hb,_,h1,h7⟩ | ⟨_,h6,_⟩
     · by_cases ha:argBad (wordsAll src).1 (argsOf sel) j'
       · have:=h1 ha;omega
       · have:=h7 ha;omega
     · omega
   · exact h
theorem methodIs_sel {sel src:List UInt8}{n:Nat}{a:Int} (h:MethodIs sel src n 0 a):selector sel=true:=by
 rcases h with ⟨_,h,_⟩ | ⟨_,_,h,_⟩ | ⟨_,_,_,h,_⟩ | ⟨hs,_⟩
 · omega
 · omega
 · omega
 · exact hs
def MethRes (m:Im) (cls sel src:ByteArray) (e a:Int) (m':Im):Prop :=
 match m.cls cls with
 | none=>e=2∧a=0∧m'=m
 | some c=>MethodIs (bl sel) (bl src) (m.tot c) e a∧m'=if e=0 then m.setKl c (·.put ⟨sel,(wordsAll (bl src)).1⟩) else m
theorem methRes_one {m m1 m2:Im}{cls sel src:ByteArray}{e a e' a':Int} (h:MethRes m cls sel src e a m1) (h':MethRes m cls sel src e' a' m2):e=e'∧a=a'∧m1=m2:=by
 unfold MethRes at h h'
 cases hc:m.cls cls with
 | none=>rw [hc] at h h';simp only at h h';exact ⟨h.1.trans h'.1.symm,h.2.1.trans h'.2.1.symm,h.2.2.trans h'.2.2.symm⟩
 | some c =>
  rw [hc] at h h'
  simp only at h h'
  obtain ⟨h1,h2⟩:=methodIs_one h.1 h'.1
  subst h1 h2
  exact ⟨rfl,rfl,h.2.trans h'.2.symm⟩
variable {m m' : Im}
theorem meth_ok (h:ImOk m) {cls sel src:ByteArray}{e a:Int} (hr:MethRes m cls sel src e a m'):ImOk m'∧Ext m m':=by
 unfold MethRes at hr
 cases hc:m.cls cls with
 | none=>rw [hc] at hr;obtain ⟨_,_,rfl⟩:=hr;exact ⟨h,Ext.refl m'⟩
 | some c =>
  rw [hc] at hr
  simp only at hr
  obtain ⟨hm,rfl⟩:=hr
  by_cases he:e=0
  · subst he
    rw [if_pos rfl]
    have ha:=methodIs_zero hm
    subst ha
    exact put_ok h c ⟨sel,(wordsAll (bl src)).1⟩ (methodIs_sel hm) (good_of hm).2
  · rw [if_neg he];exact ⟨h,Ext.refl m⟩
def Go1.Sz (fuel n:Nat):Go1→Prop
 | .on _ fuel' fs'=>fuel'=fuel∧fs'.length≤n
 | _=>True
theorem send_sz (m:Im) (fuel:Nat) (frm:Option Nat) (to:Vl) (sel:ByteArray) (args:List Vl) (fs:List Fr):(m.send fuel frm to sel args fs).Sz fuel (fs.length+1):=by
 unfold Im.send
 repeat' split
 all_goals first | trivial | exact ⟨rfl,by simp⟩
theorem Go1.Sz.le {fuel n n':Nat}{g:Go1} (h:g.Sz fuel n) (hl:n≤n'):g.Sz fuel n':=by
 cases g with
 | on m f fs=>exact ⟨h.1,Nat.le_trans h.2 hl⟩
 | told m v=>trivial
 | stop m e=>trivial
theorem tell_sz (m:Im) (fuel:Nat) (v:Vl) (fs:List Fr):(tellTo m fuel v fs).Sz fuel fs.length:=by
 cases fs with
 | nil=>trivial
 | cons f r=>exact ⟨rfl,by simp⟩
theorem sz_ite {c:Prop} [Decidable c] {fuel n:Nat}{a b:Go1} (h1:a.Sz fuel n) (h2:b.Sz fuel n):(if c then a else b).Sz fuel n:=by
 by_cases h:c
 · rw [if_pos h];exact h1
 · rw [if_neg h];exact h2
theorem word_sz (m:Im) (fuel:Nat) (x:W) (f:Fr) (fs:List Fr):(wordM m fuel x f fs).Sz fuel (fs.length+2):=by
 unfold wordM
 dsimp only
 repeat' refine sz_ite ?_ ?_
 all_goals try split
 all_goals try (repeat' refine sz_ite ?_ ?_)
 all_goals first
  | trivial
  | exact ⟨rfl,by simp⟩
  | (split;repeat' refine sz_ite ?_ ?_;all_goals first | trivial | exact ⟨rfl,by simp⟩)
  | (refine Go1.Sz.le (send_sz _ _ _ _ _ _ _) ?_;simp;done)
  | (refine Go1.Sz.le (tell_sz _ _ _ _) ?_;omega)
theorem step_sz (m:Im) (fuel:Nat) (fs:List Fr):match stepM m fuel fs with
 | .on _ fuel' fs'=>2*fuel'+fs'.length < 2*fuel+fs.length
 | _=>True:=by
 cases fs with
 | nil=>trivial
 | cons f r =>
  cases hx:f.ws[f.pc]? with
  | none =>
   simp only [stepM,hx]
   have:=tell_sz m fuel f.self r
   cases hg:tellTo m fuel f.self r with
   | on m' f' fs'=>rw [hg] at this;have h1:=this.1;have h2:=this.2;simp only [List.length_cons];omega
   | told m' v=>trivial
   | stop m' e=>trivial
  | some x =>
   cases fuel with
   | zero=>simp only [stepM,hx]
   | succ fuel =>
    simp only [stepM,hx]
    have:=word_sz m fuel x.1 { f with pc:=f.pc+1 } r
    cases hg:wordM m fuel x.1 { f with pc:=f.pc+1 } r with
    | on m' f' fs'=>rw [hg] at this;have h1:=this.1;have h2:=this.2;simp only [List.length_cons];omega
    | told m' v=>trivial
    | stop m' e=>trivial
theorem run_ends:∀ (k:Nat) (m:Im) (fuel:Nat) (fs:List Fr),2*fuel+fs.length < k→∀ m' fuel' fs',runM k (.on m fuel fs)≠.on m' fuel' fs'
 | 0,_,_,_,h=>by omega
 | k+1,m,fuel,fs,h=>by
  intro m' fuel' fs' e
  unfold runM at e
  have hs:=step_sz m fuel fs
  cases hg:stepM m fuel fs with
  | on m1 f1 fs1 =>
   rw [hg] at hs e
   simp only at hs
   exact run_ends k m1 f1 fs1 (by omega) m' fuel' fs' e
  | told m1 v=>rw [hg] at e;cases k <;> (unfold runM at e;cases e)
  | stop m1 x=>rw [hg] at e;cases k <;> (unfold runM at e;cases e)
def Im.sendOut (m:Im) (to:Vl) (sel:ByteArray) (args:List Vl) (fuel:Int):Vl×Int×Int×Im :=
 if selector (bl sel)=false∨argsOf (bl sel)≠args.length∨fuel < 0∨3000 < fuel then (Vl.zero,0,1,m)
 else if (to::args).any (fun v=>v.obj&&!m.there v.n)=true then (Vl.zero,0,4,m)
 else match runM (2*fuel.toNat+64) (m.send fuel.toNat (m.of to) to sel args []) with
  | .told m' v=>(v,0,0,m')
  | .stop m' e=>(Vl.zero,e,0,m')
  | .on m' _ _=>(Vl.zero,0,0,m')
def climb {α:Type} (ab:Nat→Option Nat) (ow:Nat→Option α):Nat→Option Nat→Option (Nat×α)
 | 0,_=>none
 | _+1,none=>none
 | f+1,some c=>match ow c with
  | some x=>some (c,x)
  | none=>climb ab ow f (ab c)
inductive Up (ab:Nat→Option Nat):Nat→Nat→Prop
 | refl (c:Nat):Up ab c c
 | step {c a d:Nat}:ab c=some a→Up ab a d→Up ab c d
theorem climb_up {α:Type}{ab:Nat→Option Nat}{ow:Nat→Option α}:∀ (f c d:Nat) (x:α),climb ab ow f (some c)=some (d,x)→Up ab c d∧ow d=some x
 | 0,_,_,_,h=>by cases h
 | f+1,c,d,x,h=>by
  unfold climb at h
  cases ho:ow c with
  | some y =>
   rw [ho] at h
   injection h with h
   injection h with h1 h2
   subst h1 h2
   exact ⟨.refl _,ho⟩
  | none =>
   rw [ho] at h
   simp only at h
   cases ha:ab c with
   | none=>rw [ha] at h;cases f <;> cases h
   | some a =>
    rw [ha] at h
    obtain ⟨h1,h2⟩:=climb_up f a d x h
    exact ⟨.step ha h1,h2⟩
def CameTo {α:Type} (ab:Nat→Option Nat) (c0 c:Nat) (r:Option (Nat×α)):Prop:=Up ab c c0∧∀ d x,r=some (d,x)→Up ab c0 d
theorem climb_ow {α:Type}{ab:Nat→Option Nat}{ow ow':Nat→Option α}{c0:Nat} (he:∀ c,c≠c0→ow' c=ow c):∀ (f c:Nat),(∀ F,f≤F→¬ CameTo ab c0 c (climb ab ow f (some c)))→climb ab ow' f (some c)=climb ab ow f (some c)
 | 0,_,_=>rfl
 | f+1,c,h=>by
  by_cases e:c=c0
  · subst e
    exact absurd ⟨.refl _,fun d x hd=>(climb_up _ _ _ _ hd).1⟩ (h (f+1) (Nat.le_refl _))
  · have hu:∀ o:Nat→Option α,climb ab o (f+1) (some c)=match o c with
     | some x=>some (c,x)
     | none=>climb ab o f (ab c):=fun _=>rfl
    rw [hu ow',hu ow,he c e]
    cases ho:ow c with
    | some y=>rfl
    | none =>
     simp only
     cases ha:ab c with
     | none=>cases f <;> rfl
     | some a =>
      refine climb_ow he f a (fun F hF hc=>h (f+1) (Nat.le_refl _) ?_)
      rw [hu ow,ho]
      simp only
      rw [ha]
      exact ⟨.step ha hc.1,hc.2⟩
theorem climb_ab {α:Type}{ab ab':Nat→Option Nat}{ow:Nat→Option α}{c0:Nat} (he:∀ c,c≠c0→ab' c=ab c):∀ (f c:Nat),¬ (CameTo ab c0 c (climb ab ow f (some c))∧∀ x,climb ab ow f (some c)≠some (c0,x))→climb ab' ow f (some c)=climb ab ow f (some c)
 | 0,_,_=>rfl
 | f+1,c,h=>by
  have hu:∀ b:Nat→Option Nat,climb b ow (f+1) (some c)=match ow c with
   | some x=>some (c,x)
   | none=>climb b ow f (b c):=fun _=>rfl
  rw [hu ab',hu ab]
  cases ho:ow c with
  | some y=>rfl
  | none =>
   simp only
   by_cases e:c=c0
   · subst e
     refine absurd ⟨⟨.refl _,fun d x hd=>(climb_up _ _ _ _ hd).1⟩,fun x hx=>?_⟩ h
     have:=(climb_up _ _ _ _ hx).2
     rw [ho] at this
     cases this
   · rw [he c e]
     cases ha:ab c with
     | none=>cases f <;> rfl
     | some a =>
      refine climb_ab he f a (fun hc=>h ?_)
      rw [hu ab,ho]
      simp only
      rw [ha]
      exact ⟨⟨.step ha hc.1.1,hc.1.2⟩,hc.2⟩
theorem climb_fuel {α:Type}{ab:Nat→Option Nat}{ow:Nat→Option α}{r:Nat→Nat} (hr:∀ c a,ab c=some a→r a < r c):∀ (f g c:Nat),r c < f→r c < g→climb ab ow f (some c)=climb ab ow g (some c)
 | 0,_,_,h,_=>by omega
 | _+1,0,_,_,h=>by omega
 | f+1,g+1,c,h1,h2=>by
  have hu:∀ n,climb ab ow (n+1) (some c)=match ow c with
   | some x=>some (c,x)
   | none=>climb ab ow n (ab c):=fun _=>rfl
  rw [hu f,hu g]
  cases ho:ow c with
  | some y=>rfl
  | none =>
   simp only
   cases ha:ab c with
   | none=>cases f <;> cases g <;> rfl
   | some a =>
    have:=hr c a ha
    exact climb_fuel hr f g a (by omega) (by omega)
theorem climb_none {α:Type} (ab:Nat→Option Nat) (ow:Nat→Option α) (f:Nat):climb ab ow f none=none:=by cases f <;> rfl
theorem climb_map {α β:Type} (g:α→β) (ab:Nat→Option Nat) (ow:Nat→Option α):∀ (f:Nat) (c:Option Nat),climb ab (fun c=>(ow c).map g) f c=(climb ab ow f c).map (fun p=>(p.1,g p.2))
 | 0,_=>rfl
 | f+1,none=>rfl
 | f+1,some c=>by
  unfold climb
  cases ho:ow c with
  | some y=>rfl
  | none=>simp only [Option.map_none];exact climb_map g ab ow f (ab c)
def Im.ab (m:Im) (c:Nat):Option Nat:=m.kl[c]?.bind (·.above)
theorem up_climb (m:Im) (sel:ByteArray):∀ (f:Nat) (c:Option Nat),m.up sel f c=climb m.ab (fun c=>m.own c sel) f c
 | 0,_=>rfl
 | f+1,none=>rfl
 | f+1,some c=>by
  unfold Im.up climb
  cases ho:m.own c sel with
  | some ws=>rfl
  | none=>simp only;exact up_climb m sel f _
theorem find_climb (m:Im) (sel:ByteArray) (c:Option Nat):m.find sel c=climb m.ab (fun c=>m.own c sel) (m.kl.length+1) c:=up_climb m sel _ c
theorem under_up {d:Nat}:∀ (f c:Nat),m.under d f (some c)=true→Up m.ab c d
 | 0,_,h=>by cases h
 | f+1,c,h=>by
  unfold Im.under at h
  rw [Bool.or_eq_true,decide_eq_true_iff] at h
  rcases h with h | h
  · subst h;exact .refl _
  · cases ha:m.ab c with
    | none=>unfold Im.ab at ha;rw [ha] at h;cases f <;> cases h
    | some a=>have ha':=ha;unfold Im.ab at ha;rw [ha] at h;exact .step ha' (under_up f a h)
theorem up_under {d:Nat}{r:Nat→Nat} (hr:∀ c a,m.ab c=some a→r a < r c):∀ (f c:Nat),r c < f→Up m.ab c d→m.under d f (some c)=true
 | 0,_,h,_=>by omega
 | f+1,c,h,hu=>by
  unfold Im.under
  rw [Bool.or_eq_true,decide_eq_true_iff]
  cases hu with
  | refl=>exact .inl rfl
  | step ha hu =>
   refine .inr ?_
   have:=hr c _ ha
   have h2:=up_under hr f _ (by omega) hu
   unfold Im.ab at ha
   rw [ha]
   exact h2
theorem rank_ab (h:ImOk m):∃ r:Nat→Nat,(∀ c,r c≤m.kl.length)∧∀ c a,m.ab c=some a→r a < r c:=by
 obtain ⟨r,h1,h2⟩:=h.rank
 refine ⟨r,h1,fun c a ha=>?_⟩
 unfold Im.ab at ha
 cases hk:m.kl[c]? with
 | none=>rw [hk] at ha;cases ha
 | some k=>rw [hk] at ha;exact h2 c k a hk ha
theorem under_iff (h:ImOk m) (c d:Nat):m.under d (m.kl.length+1) (some c)=true ↔ Up m.ab c d:=by
 obtain ⟨r,h1,h2⟩:=rank_ab h
 exact ⟨under_up _ _,up_under h2 _ _ (by have:=h1 c;omega)⟩
end Kn
namespace Go.Proofs.YtkghmgoefiepeaaGreatDoor.reads
open Go.ChangeShapes Go.WideShapes Go.ChangeAt Go.RowKit Kn Go.Proofs.YtkghmgoefiepeaaGreatDoor.img
structure Cls (w:World) (m:Im) (cb cm:Nat→Nat):Prop where
 at_:∀ c k,m.kl[c]?=some k→w.heap[cb c]?=some (.cells #[.string k.name,.int .i64 (c:Nat),.pointer (cptr (k.above.map cb)),.int .i64 (k.tot:Nat),.map (some (cm c))] 101)
 inj:∀ c d,c < m.kl.length→d < m.kl.length→cb c=cb d→c=d
variable {w : World}
variable {m : Im}
theorem Cls.cel {cb cm:Nat→Nat} (h:Cls w m cb cm) {c:Nat} (hc:c < m.kl.length):Cel w (cb c):=⟨_,_,h.at_ c _ (List.getElem?_eq_getElem hc)⟩
variable {w' : World}
theorem Cls.same {cb cm:Nat→Nat} (h:Cls w m cb cm) (hk:∀ c,c < m.kl.length→w'.heap[cb c]?=w.heap[cb c]?):Cls w' m cb cm :=
 ⟨fun c k hck=>(hk c (List.getElem?_eq_some_iff.1 hck).1).trans (h.at_ c k hck),h.inj⟩
theorem Cls.above {cb cm:Nat→Nat} (h:Cls w m cb cm) {c:Nat} (hc:c < m.kl.length):w.cell? ⟨cb c,2,none⟩=some (.pointer (cptr ((m.ab c).map cb))):=by
 have hx:=List.getElem?_eq_getElem hc
 have:=h.at_ c _ hx
 simp only [World.cell?,this]
 unfold Im.ab
 rw [hx]
 rfl
theorem ab_lt (h:ImOk m) {c a:Nat} (ha:m.ab c=some a):a < m.kl.length:=by
 unfold Im.ab at ha
 cases hk:m.kl[c]? with
 | none=>rw [hk] at ha;cases ha
 | some k =>
  rw [hk] at ha
  have ha':k.above=some a:=ha
  have hc0:c≠0:=fun e=>by
   subst e
   obtain ⟨ms,hm⟩:=h.any
   rw [hm] at hk
   injection hk with hk
   rw [← hk] at ha'
   cases ha'
  obtain ⟨a',e1,e2,_⟩:=h.up c k hk hc0
  rw [ha'] at e1
  injection e1 with e1
  omega
theorem ptr_eql {p q:Nat} (hp:Cel w p) (hq:Cel w q):(binOp .eql 57 (.pointer (some ⟨p,0,none⟩)) (.pointer (some ⟨q,0,none⟩))).run Tryz.prog w=.ok (.bool (decide (p=q))) w:=by
 have hs:=size_cls
 cases hi:Tryz.prog.info? 101 with
 | none=>rw [hi] at hs;cases hs
 | some i =>
  rw [hi] at hs
  simp at hs
  have h:=run_equal_ptr (P:=Tryz.prog) (w:=w) Tryz.underlying57 hi (by omega) hp hq
  simp only [binOp]
  simp [h]
theorem below_any (m:Im) (cb cm:Nat→Nat) (c:Option Nat) (d:Nat) (w:World) (hm:ImOk m) (hw:Cls w m cb cm) (hc:∀ x,c=some x→x < m.kl.length) (hd:d < m.kl.length) :
 Calls Tryz.prog 65 #[.pointer (cptr (c.map cb)),.pointer (some ⟨cb d,0,none⟩)] w fun e w'=>e=.returned (.bool (m.under d (m.kl.length+1) c))∧w'=w:=by
 obtain ⟨r,hr1,hr2⟩:=rank_ab hm
 obtain ⟨b,hb⟩:∃ b,m.under d (m.kl.length+1) c=b:=⟨_,rfl⟩
 rw [hb]
 have HB:Hid _:=hb
 have HW:Hid _:=hw
 have HM:Hid _:=hm
 clear hb hw hm
 go_enter Tryz.func65,Tryz.ntmps65
 go_wp2
 go_loopg [0] (m.kl.length+1) (fun gk v wr=>∃ e:Option Nat,v=.pointer (cptr (e.map cb))∧(∀ x,e=some x→x < m.kl.length∧r x < gk)∧m.under d gk e=b∧wr=w)
 case atStart=>exact ⟨c,rfl,fun x hx=>⟨hc x hx,by have:=hr1 x;omega⟩,HB.out,rfl⟩
 case round =>
  obtain ⟨e,rfl,he,hu,rfl⟩:=hrel
  cases e with
  | none =>
   have hbf:b=false:=by rw [← hu];cases gk <;> rfl
   subst hbf
   simp only [Option.map_none,cptr]
   clear hu he
   go_wp2
   go_ret
   exact ⟨rfl,rfl⟩
  | some x =>
   obtain ⟨hx,hrx⟩:=he x rfl
   obtain ⟨g,rfl⟩:∃ g,gk=g+1:=⟨gk - 1,by omega⟩
   have heq:=ptr_eql (HW.out.cel hx) (HW.out.cel hd)
   have hab:=HW.out.above hx
   have hu':(decide (x=d)||m.under d g (m.ab x))=b:=hu
   simp only [Option.map_some,cptr] at *
   by_cases e1:x=d
   · subst e1
     have hbt:b=true:=by rw [← hu'];simp
     subst hbt
     rw [show decide (cb x=cb x)=true from by simp] at heq
     clear hu hu' he
     go_wp2
     go_ret
     exact ⟨rfl,rfl⟩
   · have hne:¬ cb x=cb d:=fun e=>e1 (HW.out.inj x d hx hd e)
     rw [show decide (cb x=cb d)=false from by simp [hne]] at heq
     have HU:Hid (m.under d g (m.ab x)=b):=by
      have hx1:m.under d g (m.ab x)=b:=by rw [← hu'];simp [e1]
      exact hx1
     clear hu hu' he hne e1
     go_wp2
     go_roundg g
     case measure=>omega
     case rel =>
      exact ⟨m.ab x,by simp [cptr],fun y hy=>⟨ab_lt HM.out hy,by have:=hr2 x y hy;omega⟩,HU.out,rfl⟩
structure RowC (m:Im) (cb:Nat→Nat) (r:Rw4):Prop where
 fr:∃ c,c < m.kl.length∧r.fr=some ⟨cb c,0,none⟩
 hm:∃ d:Option Nat,(∀ x,d=some x→x < m.kl.length)∧r.hm=cptr (d.map cb)
def cameB (m:Im) (cb:Nat→Nat) (c0:Nat) (r:Rw4):Prop:=∃ c d,c < m.kl.length∧(∀ x,d=some x→x < m.kl.length)∧r.fr=some ⟨cb c,0,none⟩∧r.hm=cptr (d.map cb)∧Up m.ab c c0∧∀ x,d=some x→Up m.ab c0 x
def upTo (m:Im) (c0:Nat):Option Nat→Bool
 | none=>true
 | some x=>m.under x (m.kl.length+1) (some c0)
noncomputable def cameD (m:Im) (cb:Nat→Nat) (c0:Nat) (r:Rw4):Bool:=@decide (cameB m cb c0 r) (Classical.propDecidable _)
theorem cameTo_any (m:Im) (cb cm:Nat→Nat) (c0:Nat) (r:Rw4) (w:World) (hm:ImOk m) (hw:Cls w m cb cm) (hr:RowC m cb r∨r=noRow) (hc0:c0 < m.kl.length) :
 Calls Tryz.prog 104 #[r.val,.pointer (some ⟨cb c0,0,none⟩)] w fun e w'=>e=.returned (.bool (cameD m cb c0 r))∧Below w.heap.size w w':=by
 obtain ⟨v,hv⟩:∃ v,cameD m cb c0 r=v:=⟨_,rfl⟩
 rw [hv]
 have HV:Hid _:=hv
 clear hv
 obtain ⟨c,d,hc,hd,hfr,hhm⟩:∃ c d:Option Nat,(∀ x,c=some x→x < m.kl.length)∧(∀ x,d=some x→x < m.kl.length)∧r.fr=cptr (c.map cb)∧r.hm=cptr (d.map cb):=by
  rcases hr with h | rfl
  · obtain ⟨c,hc,hfr⟩:=h.fr
    obtain ⟨d,hd,hhm⟩:=h.hm
    exact ⟨some c,d,fun x hx=>by injection hx with hx;omega,hd,hfr,hhm⟩
  · exact ⟨none,none,fun x hx=>(by cases hx),fun x hx=>(by cases hx),rfl,rfl⟩
 have hcon:v=(m.under c0 (m.kl.length+1) c&&upTo m c0 d):=by
  rw [← HV.out]
  have hcb:∀ (x y:Option Nat),(∀ z,x=some z→z < m.kl.length)→(∀ z,y=some z→z < m.kl.length)→cptr (x.map cb)=cptr (y.map cb)→x=y:=by
   intro x y hx hy e
   cases x with
   | none=>cases y with
    | none=>rfl
    | some b=>simp [cptr] at e
   | some a=>cases y with
    | none=>simp [cptr] at e
    | some b =>
     simp [cptr] at e
     rw [hw.inj a b (hx a rfl) (hy b rfl) e]
  unfold cameD
  cases hb:(m.under c0 (m.kl.length+1) c&&upTo m c0 d) with
  | true =>
   rw [Bool.and_eq_true] at hb
   refine @decide_eq_true _ (Classical.propDecidable _) ?_
   cases c with
   | none=>exact absurd hb.1 (by simp [Im.under])
   | some cc =>
    refine ⟨cc,d,hc cc rfl,hd,hfr,hhm,(under_iff hm cc c0).1 hb.1,fun x hx=>?_⟩
    have h2:=hb.2
    rw [hx] at h2
    exact (under_iff hm c0 x).1 h2
  | false =>
   refine @decide_eq_false _ (Classical.propDecidable _) ?_
   rintro ⟨cc,dd,hcc,hdd,hf,hh,hu1,hu2⟩
   have e1:c=some cc:=hcb c (some cc) hc (fun z hz=>by injection hz with hz;omega) (hfr.symm.trans hf)
   have e2:d=dd:=hcb d dd hd hdd (hhm.symm.trans hh)
   subst e1 e2
   have h1:=(under_iff hm cc c0).2 hu1
   rw [h1,Bool.true_and] at hb
   cases d with
   | none=>simp [upTo] at hb
   | some x =>
    have h2:=(under_iff hm c0 x).2 (hu2 x rfl)
    simp only [upTo] at hb
    rw [h2] at hb
    cases hb
 clear HV
 unfold Rw4.val
 rw [hfr,hhm]
 cases d with
 | none =>
  have hw1:Cls (w.alloc (.cells #[.pointer (cptr (c.map cb)),.string r.sel,.pointer none,.pointer r.mt] 64)) m cb cm:=hw.same (fun x hx=>Below.heap_alloc w _ _ (hw.cel hx).lt)
  have hcall:=below_any m cb cm c c0 _ hm hw1 hc hc0
  simp only [upTo,Bool.and_true] at hcon
  rw [← hcon] at hcall
  rw [show cptr ((none:Option Nat).map cb)=none from rfl]
  clear hcon hw1 hw hfr hhm hr hc hd hm
  revert hcall
  generalize cptr (c.map cb)=pf
  intro hcall
  cases v
  all_goals
   go_enter Tryz.func104,Tryz.ntmps104
   go_wp2_with fail
   refine hcall.mono ?_
   rintro e w1 ⟨rfl,rfl⟩
   clear hcall
   go_wp2
   go_ret
   exact ⟨rfl,(Below.refl _ _).alloc (Nat.le_refl _) _⟩
 | some x =>
  have hw1:Cls (w.alloc (.cells #[.pointer (cptr (c.map cb)),.string r.sel,.pointer (some ⟨cb x,0,none⟩),.pointer r.mt] 64)) m cb cm:=hw.same (fun x hx=>Below.heap_alloc w _ _ (hw.cel hx).lt)
  have hcall:=below_any m cb cm c c0 _ hm hw1 hc hc0
  have hcall2:=below_any m cb cm (some c0) x _ hm hw1 (fun y hy=>by injection hy with hy;omega) (hd x rfl)
  rw [show cptr ((some x:Option Nat).map cb)=some ⟨cb x,0,none⟩ from rfl]
  rw [show cptr ((some c0:Option Nat).map cb)=some ⟨cb c0,0,none⟩ from rfl] at hcall2
  simp only [upTo] at hcon
  obtain ⟨b1,hb1⟩:∃ b1,m.under c0 (m.kl.length+1) c=b1:=⟨_,rfl⟩
  obtain ⟨b2,hb2⟩:∃ b2,m.under x (m.kl.length+1) (some c0)=b2:=⟨_,rfl⟩
  rw [hb1] at hcall hcon
  rw [hb2] at hcall2 hcon
  subst hcon
  clear hw1 hw hfr hhm hr hc hd hm hb1 hb2
  revert hcall hcall2
  generalize cptr (c.map cb)=pf
  generalize cb c0=q0
  generalize cb x=qx
  intro hcall hcall2
  cases b1
  · clear hcall2
    go_enter Tryz.func104,Tryz.ntmps104
    go_wp2_with fail
    refine hcall.mono ?_
    rintro e w1 ⟨rfl,rfl⟩
    clear hcall
    go_wp2
    go_ret
    exact ⟨rfl,(Below.refl _ _).alloc (Nat.le_refl _) _⟩
  · go_enter Tryz.func104,Tryz.ntmps104
    go_wp2_with fail
    refine hcall.mono ?_
    rintro e w1 ⟨rfl,rfl⟩
    clear hcall
    go_wp2_with fail
    refine hcall2.mono ?_
    rintro e w1 ⟨rfl,rfl⟩
    clear hcall2
    go_wp2
    go_ret
    exact ⟨by first | rfl | simp,(Below.refl _ _).alloc (Nat.le_refl _) _⟩
end Go.Proofs.YtkghmgoefiepeaaGreatDoor.reads
namespace Go.Proofs.YtkghmgoefiepeaaGreatDoor.reads
open Go.ChangeShapes Go.WideShapes Go.ChangeAt Go.RowKit Kn Go.Proofs.YtkghmgoefiepeaaGreatDoor.img
variable {bd : Nat}
theorem pforget_nil' (v:Value) (w:World):Calls Tryz.prog 105 #[.map none,v] w fun e w'=>e=.returned (.tuple #[])∧Below w.heap.size w w':=by
 have hrg:=run_range_nilMap (P:=Tryz.prog) w 138 _ _ Tryz.underlying138
 have hnx:=run_next_nilMap (P:=Tryz.prog) w 0 0 0 #[]
 go_enter Tryz.func105,Tryz.ntmps105
 go_wp2
 refine wp_loop_rounds 1 ?_
 rw [rounds_succ]
 go_wp2
 go_end0
 exact ⟨rfl,(Below.refl _ _).alloc (Nat.le_refl _) _⟩
noncomputable def leanM (m:Im) (cb:Nat→Nat) (c0:Nat) (sel:ByteArray) (r:Rw4):Bool:=decide (r.sel=sel)&&cameD m cb c0 r
def RowQ (m:Im) (cb:Nat→Nat) (r:Rw4):Prop:=RowC m cb r∨r=noRow
theorem leansM (m:Im) (cb cm:Nat→Nat) (c0:Nat) (sel:ByteArray) (x y:Nat) (hm:ImOk m) (hc0:c0 < m.kl.length) :
 Leans 113 #[.pointer (some ⟨x,0,none⟩),.pointer (some ⟨y,0,none⟩)] (leanM m cb c0 sel) (fun W=>W.cell? ⟨x,0,none⟩=some (.string sel)∧W.cell? ⟨y,0,none⟩=some (.pointer (some ⟨cb c0,0,none⟩))∧Cls W m cb cm) (RowQ m cb):=by
 refine ⟨fun args W=>by simp [go_sem],fun W r hW hr=>?_⟩
 obtain ⟨hx,hy,hw⟩:=hW
 have hxl:=World.block_lt_of_cell? W ⟨x,0,none⟩ hx
 have hyl:=World.block_lt_of_cell? W ⟨y,0,none⟩ hy
 show Calls _ _ #[_,_,_] _ _
 obtain ⟨v,hv⟩:∃ v,leanM m cb c0 sel r=v:=⟨_,rfl⟩
 rw [hv]
 by_cases he:r.sel=sel
 · have htl:r.sel.toList=sel.toList:=by rw [he]
   have hcall:=cameTo_any m cb cm c0 r (W.alloc (.cells #[.pointer r.fr,.string r.sel,.pointer r.hm,.pointer r.mt] 64)) hm (hw.same (fun c hc=>Below.heap_alloc W _ _ (hw.cel hc).lt)) hr hc0
   have hvv:cameD m cb c0 r=v:=by rw [← hv];simp [leanM,he]
   rw [hvv] at hcall
   unfold Rw4.val at hcall ⊢
   clear hv hw hr hvv he
   go_enter Tryz.func113,Tryz.ntmps113
   go_wp2_with fail
   refine hcall.mono ?_
   rintro e w1 ⟨rfl,hb1⟩
   have HB:Hid (Below W.heap.size W w1):=((Below.refl _ W).alloc (Nat.le_refl _) _).trans (hb1.mono (by simp))
   clear hb1 hcall
   go_wp2
   go_ret
   exact ⟨by first | rfl | simp,HB.out⟩
 · have hne:=ba_apart he
   have hvf:v=false:=by rw [← hv];simp [leanM,he]
   subst hvf
   unfold Rw4.val
   clear hv hw hr he
   go_enter Tryz.func113,Tryz.ntmps113
   go_wp2
   go_ret
   exact ⟨rfl,(Below.refl _ _).alloc (Nat.le_refl _) _⟩
theorem not_plBlk {w:World}{L:List (Nat×ByteArray)}{pm:Nat→Mm}{Sd:ByteArray→Rw4→Prop} (h:Pls bd w L pm Sd) {k:Nat}{cs:Array Value}{t:TypeId}{fz:Nat×Nat} (hk:w.heap[k]?=some (.cells cs t fz)) (h1:t≠198) (h2:t≠64):¬ PlBlk L pm k:=by
 rintro ⟨p,s,hps,e | e⟩
 · subst e
   have:=h.at_ _ s hps
   rw [hk] at this
   injection this with this
   injection this with _ this _
   exact h1 this
 · obtain ⟨cur,hcur⟩:=h.arrCel hps e
   rw [hk] at hcur
   injection hcur with hcur
   injection hcur with _ hcur _
   exact h2 hcur
theorem not_plBlk_map {w:World}{L:List (Nat×ByteArray)}{pm:Nat→Mm}{Sd:ByteArray→Rw4→Prop} (h:Pls bd w L pm Sd) {k:Nat}{es:Array MapEntry}{ck:Nat} (hk:w.heap[k]?=some (.map es ck)):¬ PlBlk L pm k:=by
 rintro ⟨p,s,hps,e | e⟩
 · subst e
   have:=h.at_ _ s hps
   rw [hk] at this;cases this
 · obtain ⟨cur,hcur⟩:=h.arrCel hps e
   rw [hk] at hcur;cases hcur
theorem changed_any (m:Im) (cb cm:Nat→Nat) (b c0 sb n:Nat) (cur:Array Value) (l:List (ByteArray×Value)) (ps:Nat→List Nat) (R:Nat→Rw4) (L:List (Nat×ByteArray)) (pm:Nat→Mm) (Sd:ByteArray→Rw4→Prop) (sel:ByteArray) (w:World) (hm:ImOk m) (hc0:c0 < m.kl.length)
 (himg:w.heap[b]?=some (.cells cur 70)) (hb:w.cell? ⟨b,5,none⟩=some (.map (some sb))) (hs:SndAt w sb l ps) (ht:TabAt w b n R) (hcl:Cls w m cb cm) (hP:Pls bd w L pm Sd) (hreg:∀ s p,Reg l ps s p→(p,s)∈L)
 (hQ:∀ s r,Sd s r→RowQ m cb r) (hr:∀ i,i < n→RowQ m cb (R i)) :
 Calls Tryz.prog 84 #[.pointer (some ⟨b,0,none⟩),.pointer (some ⟨cb c0,0,none⟩),.string sel] w fun e w'=>e=.returned (.tuple #[])∧∃ pm',Pls bd w' L pm' Sd∧(∀ p,Reg l ps sel p→pm' p=(pm p).forget (leanM m cb c0 sel))∧(∀ p,¬ Reg l ps sel p→pm' p=pm p) ∧
  TabAt w' b n (fun i=>if i < n∧leanM m cb c0 sel (R i)=true then noRow else R i)∧Chg w w' (fun k=>k=b∨PlBlk L pm k)∧SameHd w w' b:=by
 have hmf:∀ (fn:Fn) (first cap:Array Value) (w:World),(Instr.makeFunc fn first cap).run Tryz.prog w=.ok (.func fn first cap) w:=fun _ _ _ _=>rfl
 have hbl:=ht.cel.lt
 have hbn:¬ PlBlk L pm b:=not_plBlk hP himg (by decide) (by decide)
 have hcln:∀ c,c < m.kl.length→¬ PlBlk L pm (cb c)∧cb c≠b:=fun c hc=>by
  have h1:=hcl.at_ c _ (List.getElem?_eq_getElem hc)
  refine ⟨not_plBlk hP h1 (by decide) (by decide),fun e=>?_⟩
  rw [e,himg] at h1
  injection h1 with h1
  injection h1 with _ h1 _
  revert h1
  decide
 have hplt:∀ k,PlBlk L pm k→k < w.heap.size:=by
  rintro k ⟨p,s,hps,e | e⟩
  · subst e;exact (hP.cel hps).lt
  · obtain ⟨cr,hcr⟩:=hP.arrCel hps e;exact (Array.getElem?_eq_some_iff.1 hcr).1
 have HS:Hid (SndAt w sb l ps∧TabAt w b n R∧Cls w m cb cm∧Pls bd w L pm Sd∧(∀ s p,Reg l ps s p→(p,s)∈L)):=⟨hs,ht,hcl,hP,hreg⟩
 have HN:Hid (¬ PlBlk L pm b∧(∀ c,c < m.kl.length→¬ PlBlk L pm (cb c)∧cb c≠b)∧(∀ k,PlBlk L pm k→k < w.heap.size)):=⟨hbn,hcln,hplt⟩
 clear hs ht hcl hP hreg hbn hcln hplt himg
 go_enter Tryz.func84,Tryz.ntmps84
 go_wp2_with fail
 have hz0:((w.alloc (.cells #[.pointer (some ⟨cb c0,0,none⟩)] 57)).alloc (.cells #[.string sel] 9)).heap[w.heap.size]?=some (.cells #[.pointer (some ⟨cb c0,0,none⟩)] 57):=(Below.heap_alloc _ _ _ (by simp)).trans (MapKept.heap_alloc w _).1
 have hz1:((w.alloc (.cells #[.pointer (some ⟨cb c0,0,none⟩)] 57)).alloc (.cells #[.string sel] 9)).heap[w.heap.size+1]?=some (.cells #[.string sel] 9):=by
  have:=(MapKept.heap_alloc (w.alloc (.cells #[.pointer (some ⟨cb c0,0,none⟩)] 57)) (.cells #[.string sel] 9)).1
  rw [World.size_alloc] at this
  exact this
 have hb0:((w.alloc (.cells #[.pointer (some ⟨cb c0,0,none⟩)] 57)).alloc (.cells #[.string sel] 9)).cell? ⟨b,5,none⟩=some (.map (some sb)):=by go_keep
 have hch0:Chg w ((w.alloc (.cells #[.pointer (some ⟨cb c0,0,none⟩)] 57)).alloc (.cells #[.string sel] 9)) (fun _=>False):=((Chg.refl w _).alloc _).alloc _
 revert hz0 hz1 hb0 hch0
 generalize (w.alloc (.cells #[.pointer (some ⟨cb c0,0,none⟩)] 57)).alloc (.cells #[.string sel] 9)=W0
 intro hz0 hz1 hb0 hch0
 have zl:w.heap.size+1 < W0.heap.size:=(Array.getElem?_eq_some_iff.1 hz1).1
 have zc:W0.cell? ⟨w.heap.size+1,0,none⟩=some (.string sel):=by simp only [World.cell?,hz1];rfl
 have yc:W0.cell? ⟨w.heap.size,0,none⟩=some (.pointer (some ⟨cb c0,0,none⟩)):=by simp only [World.cell?,hz0];rfl
 have hs0:SndAt W0 sb l ps:=HS.out.1.chg hch0 (fun h=>h) (fun _ _ _ h=>h) (fun _ _ _ _ _ h=>h.elim)
 have hP0:Pls bd W0 L pm Sd:=HS.out.2.2.2.1.same (fun k hk=>hch0.block k (HN.out.2.2 k hk) (fun h=>h))
 -- worlds that the two forgettings come to
 have hgood:∀ W,Chg W0 W (fun k=>k=b∨PlBlk L pm k)→W.cell? ⟨w.heap.size+1,0,none⟩=some (.string sel)∧W.cell? ⟨w.heap.size,0,none⟩=some (.pointer (some ⟨cb c0,0,none⟩))∧Cls W m cb cm:=by
  intro W hW
  have hn1:¬ (w.heap.size+1=b∨PlBlk L pm (w.heap.size+1)):=fun e=>by rcases e with e | e;omega;have:=HN.out.2.2 _ e;omega
  have hn0:¬ (w.heap.size=b∨PlBlk L pm w.heap.size):=fun e=>by rcases e with e | e;omega;have:=HN.out.2.2 _ e;omega
  refine ⟨(World.cell?_of_block (a:=⟨w.heap.size+1,0,none⟩) (hW.block _ zl hn1)).trans zc,(World.cell?_of_block (a:=⟨w.heap.size,0,none⟩) (hW.block _ (show w.heap.size < W0.heap.size by omega) hn0)).trans yc,?_⟩
  refine HS.out.2.2.1.same (fun c hc=>?_)
  have hlt:=(HS.out.2.2.1.cel hc).lt
  exact (hW.block _ (Nat.lt_of_lt_of_le hlt hch0.size) (fun e=>by rcases e with e | e;exact (HN.out.2.1 c hc).2 e;exact (HN.out.2.1 c hc).1 e)).trans (hch0.block _ hlt (fun h=>h))
 have HGD:Hid _:=hgood
 have HW0:Hid (SndAt W0 sb l ps∧Pls bd W0 L pm Sd∧Chg w W0 (fun _=>False)∧TabAt W0 b n R):=⟨hs0,hP0,hch0,HS.out.2.1.same (hch0.block b hbl (fun h=>h))⟩
 have hbw0:b < W0.heap.size:=Nat.lt_of_lt_of_le hbl hch0.size
 -- the table's part,behind whatever the set's part has left
 have htail:∀ (w2:World) (pm':Nat→Mm),Pls bd w2 L pm' Sd→(∀ p,Reg l ps sel p→pm' p=(pm p).forget (leanM m cb c0 sel))→(∀ p,¬ Reg l ps sel p→pm' p=pm p)→Chg W0 w2 (PlBlk L pm) →
  Calls Tryz.prog 71 #[.pointer (some ⟨b,6,none⟩),.func (.func 113) #[] #[.pointer (some ⟨w.heap.size+1,0,none⟩),.pointer (some ⟨w.heap.size,0,none⟩)]] w2 fun e w'=>e=.returned (.tuple #[])∧∃ pm',Pls bd w' L pm' Sd∧(∀ p,Reg l ps sel p→pm' p=(pm p).forget (leanM m cb c0 sel))∧(∀ p,¬ Reg l ps sel p→pm' p=pm p) ∧
   TabAt w' b n (fun i=>if i < n∧leanM m cb c0 sel (R i)=true then noRow else R i)∧Chg w w' (fun k=>k=b∨PlBlk L pm k)∧SameHd w w' b:=by
  intro w2 pm' hP2 hf1 hf2 hc2
  obtain ⟨_,_,hc00,ht00⟩:=HW0.out
  have ht2:=ht00.same (hc2.block b hbw0 HN.out.1)
  refine (tforget_h b n _ _ _ _ (RowQ m cb) R w2 (leansM m cb cm c0 sel (w.heap.size+1) w.heap.size hm hc0) hr (fun W hW=>HGD.out W ((hc2.mono (fun k _ e=>.inr e)).then hW (fun k _ e=>.inl e))) ht2).mono ?_
  rintro e w3 ⟨rfl,ht3,hc3,hd3⟩
  have hblk:∀ k,PlBlk L pm' k→PlBlk L pm k:=by
   rintro k ⟨p,s,hps,e | e⟩
   · exact ⟨p,s,hps,.inl e⟩
   · refine ⟨p,s,hps,.inr ?_⟩
     by_cases hreg:Reg l ps sel p
     · rw [hf1 p hreg] at e
       rcases Mm.forget_arr (leanM m cb c0 sel) (pm p) with h | h
       · rw [h] at e;cases e
       · rw [h] at e;exact e
     · rw [hf2 p hreg] at e;exact e
  refine ⟨rfl,pm',hP2.same (fun k hk=>hc3.block k ?_ (fun e=>?_)),hf1,hf2,ht3,?_⟩
  · exact Nat.lt_of_lt_of_le (HN.out.2.2 k (hblk k hk)) (Nat.le_trans hc00.size hc2.size)
  · subst e;exact HN.out.1 (hblk _ hk)
  · exact ⟨((hc00.mono (fun _ _ h=>h.elim)).then hc2 (fun k _ e=>.inr e)).then hc3 (fun k _ e=>.inl e),(SameHd.of_block ((hc2.block b hbw0 HN.out.1).trans (hc00.block b hbl (fun h=>h)))).trans hd3⟩
 have HTL:Hid _:=htail
 clear hz0 hz1 hs0 hP0 hch0 hgood htail hmf hb yc
 cases hl:l.lookup sel with
 | none =>
  have lk:(Instr.lookup 56 (.map (some sb)) (.string sel) false).run Tryz.prog W0.drew=.ok (.map none) W0.drew:=by rw [lookup_snd W0.drew sb l HW0.out.1.drew.map,hl];rfl
  have HNR:Hid (∀ p,¬ Reg l ps sel p):=by
   have hx1:∀ p,¬ Reg l ps sel p:=fun p ⟨ib,e,_⟩=>by rw [hl] at e;cases e
   exact hx1
  clear hl
  refine wp_region_noPanic ?_
  refine wp_region_held_drew (S:=(fun w'=>w'.cell? ⟨b,5,none⟩=some (.map (some sb))∧w'.cell? ⟨w.heap.size+1,0,none⟩=some (.string sel))) (by kernel_rfl) (by go_keep) (fun hHeld=>?_)
  refine tkH 0 ?_
  refine tkH 1 ?_
  refine tkH 2 ?_
  refine tkH 3 ?_
  refine tkH 4 ?_
  refine tkL 6 ?_
  refine rdH 5 fun Kmac hKmac=>?_
  go_simp
  refine hKmac.go fun hHeld=>?_
  clear hKmac Kmac
  try refine lyH ?_
  refine rdH 7 fun Kmac hKmac=>?_
  go_simp
  refine (pforget_nil' _ _).mono ?_;rintro e w2 ⟨rfl,hb2⟩;have hb3:w2.cell? ⟨b,5,none⟩=some (.map (some sb)):=(hb2.cell (p:=⟨b,5,none⟩) hbw0).trans hb0;have zc3:w2.cell? ⟨w.heap.size+1,0,none⟩=some (.string sel):=(hb2.cell (p:=⟨w.heap.size+1,0,none⟩) zl).trans zc
  try go_wp2_with fail
  refine hKmac.go fun hHeld=>?_
  clear hKmac Kmac
  try refine lyH ?_
  refine wpAnyH_done (by kernel_rfl) ?_ _
  refine NoPanic.normal ?_
  have HC2:Hid (Chg W0 w2 (PlBlk L pm)):=(Chg.refl W0 _).drew.trans (Chg.of_below hb2 _)
  have htab:=HTL.out w2 pm (HW0.out.2.1.same (fun k hk=>hb2.block k (Nat.lt_of_lt_of_le (HN.out.2.2 k hk) HW0.out.2.2.1.size))) (fun p h=>absurd h (HNR.out p)) (fun p _=>rfl) HC2.out
  clear hb2 hb0 zc lk
  clear hHeld
  clear hHeld
  clear hHeld
  go_wp2_with fail
  refine htab.mono ?_
  rintro e w3 ⟨rfl,hres⟩
  go_wp2
  go_end0
  exact ⟨rfl,hres⟩
 | some v =>
  obtain ⟨ib,rfl,hset,_⟩:=HW0.out.1.inn sel v hl
  have lk:(Instr.lookup 56 (.map (some sb)) (.string sel) false).run Tryz.prog W0.drew=.ok (.map (some ib)) W0.drew:=by rw [lookup_snd W0.drew sb l HW0.out.1.drew.map,hl];rfl
  have hcall:=pforget_any ib 113 #[.pointer (some ⟨w.heap.size+1,0,none⟩),.pointer (some ⟨w.heap.size,0,none⟩)] (ps ib) (leanM m cb c0 sel) _ (RowQ m cb) L pm Sd W0.drew (hset.same rfl) (fun p hp=>⟨sel,HS.out.2.2.2.2 sel p ⟨ib,hl,hp⟩⟩) (HW0.out.2.1.same (fun _ _=>rfl)) (leansM m cb cm c0 sel (w.heap.size+1) w.heap.size hm hc0) hQ (fun W hW=>HGD.out W ((Chg.refl W0 _).drew.then (hW.mono (fun k _ e=>.inr e)) (fun k _ e=>e)))
  have HRG:Hid (∀ p,Reg l ps sel p ↔ p∈ps ib):=by
   have hx1:∀ p,Reg l ps sel p ↔ p∈ps ib:=fun p=>⟨fun ⟨jb,e,h⟩=>by rw [hl] at e;have:=mapv_inj e;subst this;exact h,fun h=>⟨ib,hl,h⟩⟩
   exact hx1
  have hzn:¬ PlBlk L pm (w.heap.size+1):=fun e=>by have:=HN.out.2.2 _ e;omega
  have hbn:=HN.out.1
  clear hset hl
  refine wp_region_noPanic ?_
  refine wp_region_held_drew (S:=(fun w'=>w'.cell? ⟨b,5,none⟩=some (.map (some sb))∧w'.cell? ⟨w.heap.size+1,0,none⟩=some (.string sel))) (by kernel_rfl) (by go_keep) (fun hHeld=>?_)
  refine tkH 0 ?_
  refine tkH 1 ?_
  refine tkH 2 ?_
  refine tkH 3 ?_
  refine tkH 4 ?_
  refine tkL 6 ?_
  refine rdH 5 fun Kmac hKmac=>?_
  go_simp
  refine hKmac.go fun hHeld=>?_
  clear hKmac Kmac
  try refine lyH ?_
  refine rdH 7 fun Kmac hKmac=>?_
  go_simp
  refine hcall.mono ?_;rintro e w2 ⟨rfl,pm',hp2,hf1,hf2,hb2⟩;have hb3:w2.cell? ⟨b,5,none⟩=some (.map (some sb)):=(World.cell?_of_block (a:=⟨b,5,none⟩) (hb2.block b hbw0 hbn)).trans hb0;have zc3:w2.cell? ⟨w.heap.size+1,0,none⟩=some (.string sel):=(World.cell?_of_block (a:=⟨w.heap.size+1,0,none⟩) (hb2.block _ zl hzn)).trans zc
  try go_wp2_with fail
  refine hKmac.go fun hHeld=>?_
  clear hKmac Kmac
  try refine lyH ?_
  refine wpAnyH_done (by kernel_rfl) ?_ _
  refine NoPanic.normal ?_
  have HC2:Hid (Chg W0 w2 (PlBlk L pm)):=(Chg.refl W0 _).drew.trans hb2
  have htab:=HTL.out w2 pm' hp2 (fun p h=>hf1 p ((HRG.out p).1 h)) (fun p h=>hf2 p (fun h'=>h ((HRG.out p).2 h'))) HC2.out
  clear hb2 hb0 zc lk hp2 hf1 hf2 hcall
  clear hHeld
  clear hHeld
  clear hHeld
  go_wp2_with fail
  refine htab.mono ?_
  rintro e w3 ⟨rfl,hres⟩
  go_wp2
  go_end0
  exact ⟨rfl,hres⟩
end Go.Proofs.YtkghmgoefiepeaaGreatDoor.reads
namespace Go.Proofs.YtkghmgoefiepeaaGreatDoor.reads
open Go.ChangeShapes Go.WideShapes Go.ChangeAt Go.RowKit Kn Go.Proofs.YtkghmgoefiepeaaGreatDoor.img
theorem del_nil (q:Nat) (w:World) (t2 ty:TypeId):(Builtin.delete_ #[138,t2] ty #[.map none,pkey q]).run Tryz.prog w=.ok (.tuple #[]) w:=by
 simp [Builtin.delete_,run_underlying Tryz.underlying138,checkKey_ptr key_place]
theorem len_nilset (w:World) (ty:TypeId):(Builtin.len_ #[138] ty #[.map none]).run Tryz.prog w=.ok (.int .i64 0) w:=by
 simp [Builtin.len_,run_underlying Tryz.underlying138,goInt]
theorem snd_del {W:World}{sb:Nat}{l:List (ByteArray×Value)}{ps:Nat→List Nat} (h:SndAt W sb l ps) {s:ByteArray}{ib q:Nat} (hl:l.lookup s=some (.map (some ib))) (hq:Cel W q) (t2 ty:TypeId) :
 ∃ W' ps',(Builtin.delete_ #[138,t2] ty #[.map (some ib),pkey q]).run Tryz.prog W=.ok (.tuple #[]) W'∧SndAt W' sb l ps'∧(∀ t r,Reg l ps' t r ↔ Reg l ps t r∧¬ (t=s∧r=q))∧W.grownBy W' (some ib):=by
 obtain ⟨ib',e,hset,hne⟩:=h.inn s _ hl
 injection e with e;injection e with e;subst e
 obtain ⟨W',psn,hrun,hp,hmem,hg,hsz⟩:=run_pdel (P:=Tryz.prog) hset (fun p hp=>h.cel s ib p hl hp) Tryz.underlying138 key_place hq t2 ty
 have keep:∀ p,Cel W p→Cel W' p:=fun p hc=>hc.same (hg.block p hc.lt (fun e=>by injection e with e;exact cel_ne_set hc hset e))
 refine ⟨W',fun k=>if k=ib then psn else ps k,hrun,⟨h.map.same (hg.block _ h.map.lt (fun e=>by injection e with e;exact hne e.symm)),fun t u hu=>?_,h.inj,fun t jb p ht hp'=>?_⟩,fun t r=>?_,hg⟩
 · obtain ⟨jb,rfl,h4,h5⟩:=h.inn t u hu
   by_cases e:jb=ib
   · subst e;exact ⟨jb,rfl,by simpa using hp,h5⟩
   · exact ⟨jb,rfl,by simp only [e,if_false];exact h4.same (hg.block _ h4.lt (fun e'=>by injection e' with e';exact e e')),h5⟩
 · by_cases e:jb=ib
   · subst e
     simp only [if_true] at hp'
     exact keep p (h.cel t jb p ht ((hmem p).1 hp').1)
   · simp only [e,if_false] at hp'
     exact keep p (h.cel t jb p ht hp')
 · constructor
   · rintro ⟨jb,h6,h7⟩
     by_cases e:jb=ib
     · subst e
       simp only [if_true] at h7
       have h8:=(hmem r).1 h7
       exact ⟨⟨jb,h6,h8.1⟩,fun e=>h8.2 e.2⟩
     · simp only [e,if_false] at h7
       exact ⟨⟨jb,h6,h7⟩,fun e'=>by
        rw [e'.1,hl] at h6
        exact e (mapv_inj h6).symm⟩
   · rintro ⟨⟨jb,h6,h7⟩,hn⟩
     by_cases e:jb=ib
     · subst e
       exact ⟨jb,h6,by simp only [if_true];exact (hmem r).2 ⟨h7,fun e'=>hn ⟨h.inj t s jb h6 hl,e'⟩⟩⟩
     · exact ⟨jb,h6,by simp only [e,if_false];exact h7⟩
theorem snd_drop {W:World}{sb:Nat}{l:List (ByteArray×Value)}{ps:Nat→List Nat} (h:SndAt W sb l ps) (s:ByteArray) (hn:∀ r,¬ Reg l ps s r) (t2 ty:TypeId) :
 ∃ W',(Builtin.delete_ #[56,t2] ty #[.map (some sb),.string s]).run Tryz.prog W=.ok (.tuple #[]) W'∧SndAt W' sb (del l s) ps∧(∀ t r,Reg (del l s) ps t r ↔ Reg l ps t r)∧W.grownBy W' (some sb):=by
 obtain ⟨W',hrun,hm,hg,hsz⟩:=run_del (P:=Tryz.prog) h.map Tryz.underlying56 Tryz.underlying9 s t2 ty
 have keep:∀ p,Cel W p→Cel W' p:=fun p hc=>hc.same (hg.block p hc.lt (fun e=>by injection e with e;exact cel_ne_map hc h.map e))
 have hlk:∀ t v,(del l s).lookup t=some v→l.lookup t=some v:=fun t v ht=>by
  rw [lookup_del] at ht
  by_cases e:t=s
  · rw [if_pos e] at ht;cases ht
  · rw [if_neg e] at ht;exact ht
 refine ⟨W',hrun,⟨hm,fun t u hu=>?_,fun t1 t2 ib h1 h2=>h.inj t1 t2 ib (hlk _ _ h1) (hlk _ _ h2),fun t jb p ht hp=>keep p (h.cel t jb p (hlk _ _ ht) hp)⟩,fun t r=>?_,hg⟩
 · obtain ⟨jb,rfl,h4,h5⟩:=h.inn t u (hlk _ _ hu)
   exact ⟨jb,rfl,h4.same (hg.block _ h4.lt (fun e'=>by injection e' with e';exact h5 e')),h5⟩
 · constructor
   · rintro ⟨jb,h1,h2⟩;exact ⟨jb,hlk _ _ h1,h2⟩
   · rintro ⟨jb,h1,h2⟩
     refine ⟨jb,?_,h2⟩
     rw [lookup_del]
     by_cases e:t=s
     · subst e;exact absurd ⟨jb,h1,h2⟩ (hn r)
     · rw [if_neg e];exact h1
def Sends (ws:List (W×Nat)) (pl:Nat→Nat) (k:Nat) (s:ByteArray) (q:Nat):Prop:=∃ i x,i < k∧ws[i]?=some x∧sendsW x.1=true∧ofL x.1.sel=s∧q=pl i
theorem sends_pass {ws:List (W×Nat)}{pl:Nat→Nat}{k:Nat}{x:W×Nat} (hx:ws[k]?=some x) (hs:sendsW x.1=false) (s:ByteArray) (q:Nat):Sends ws pl (k+1) s q ↔ Sends ws pl k s q:=by
 constructor
 · rintro ⟨i,y,hi,hy,h1,h2⟩
   refine ⟨i,y,?_,hy,h1,h2⟩
   by_cases e:i=k
   · subst e;rw [hx] at hy;injection hy with hy;subst hy;rw [hs] at h1;cases h1
   · omega
 · rintro ⟨i,y,hi,h⟩;exact ⟨i,y,by omega,h⟩
theorem sends_step {ws:List (W×Nat)}{pl:Nat→Nat}{k:Nat}{x:W×Nat} (hx:ws[k]?=some x) (hs:sendsW x.1=true) (s:ByteArray) (q:Nat):Sends ws pl (k+1) s q ↔ Sends ws pl k s q∨(s=ofL x.1.sel∧q=pl k):=by
 constructor
 · rintro ⟨i,y,hi,hy,h1,h2,h3⟩
   by_cases e:i=k
   · subst e;rw [hx] at hy;injection hy with hy;subst hy;exact .inr ⟨h2.symm,h3⟩
   · exact .inl ⟨i,y,by omega,hy,h1,h2,h3⟩
 · rintro (⟨i,y,hi,h⟩ | ⟨rfl,rfl⟩)
   · exact ⟨i,y,by omega,h⟩
   · exact ⟨k,x,by omega,hx,hs,rfl,rfl⟩
theorem homes_more (b m h1:Nat) (v:Value) (h:Int) (w:World) (hh:0 < Go.RowKit.wrap64 (h - 1)) (hm:w.heap[m]?=some (.cells #[v,.int .i64 h] 165)) :
 Calls Tryz.prog 83 #[.pointer (some ⟨b,0,none⟩),.pointer (some ⟨m,0,none⟩)] w fun e w'=>e=.returned (.tuple #[])∧w'=w.setCell ⟨m,1,none⟩ (.int .i64 (Go.RowKit.wrap64 (h - 1))):=by
 have m1:w.cell? ⟨m,1,none⟩=some (.int .i64 h):=by simp only [World.cell?,hm];rfl
 have mf:=fun o=>Cel.free ⟨_,_,hm⟩ o
 go_enter Tryz.func83,Tryz.ntmps83
 go_wp2
 refine bodyPost_ret (results_none rfl _ _ _) rfl ?_
 exact ⟨rfl,rfl⟩
theorem homes_add (b m:Nat) (v:Value) (h:Int) (w:World) (hh:1 < Go.RowKit.wrap64 (h+1)) (hm:w.heap[m]?=some (.cells #[v,.int .i64 h] 165)) :
 Calls Tryz.prog 82 #[.pointer (some ⟨b,0,none⟩),.pointer (some ⟨m,0,none⟩)] w fun e w'=>e=.returned (.tuple #[])∧w'=w.setCell ⟨m,1,none⟩ (.int .i64 (Go.RowKit.wrap64 (h+1))):=by
 have m1:w.cell? ⟨m,1,none⟩=some (.int .i64 h):=by simp only [World.cell?,hm];rfl
 have mf:=fun o=>Cel.free ⟨_,_,hm⟩ o
 go_enter Tryz.func82,Tryz.ntmps82
 go_wp2
 refine bodyPost_ret (results_none rfl _ _ _) rfl ?_
 exact ⟨rfl,rfl⟩
end Go.Proofs.YtkghmgoefiepeaaGreatDoor.reads
