import Derived.Test.YtkghmgoefiepeaaGreatDoorQ0
import Derived.Test.YtkghmgoefiepeaaGreatDoorQ2
set_option linter.unusedSimpArgs false
set_option linter.unusedVariables false
set_option maxHeartbeats 4000000
set_option maxRecDepth 100000
namespace Kn
open Go
structure Vl where
 obj:Bool
 n:Int
 deriving DecidableEq
def Vl.zero:Vl:=⟨false,0⟩
structure Mt where
 sel:ByteArray
 ws:List (W×Nat)
structure Kl where
 name:ByteArray
 above:Option Nat
 tot:Nat
 ms:List Mt
structure Ob where
 cls:Nat
 slots:List Vl
structure Im where
 kl:List Kl
 obs:List Ob
 looks:Nat
def nmDnu:ByteArray:=⟨#[100,110,117,47,49]⟩
def im0:Im:=⟨[⟨⟨#[65,110,121]⟩,none,0,[]⟩,⟨⟨#[73,110,116]⟩,some 0,0,[]⟩],[],0⟩
def Im.cls (m:Im) (s:ByteArray):Option Nat:=m.kl.findIdx? (fun k=>k.name==s)
def Im.tot (m:Im) (c:Nat):Nat:=(m.kl[c]?.map (·.tot)).getD 0
def Kl.own (k:Kl) (sel:ByteArray):Option (List (W×Nat)):=(k.ms.find? (fun x=>x.sel==sel)).map (·.ws)
def Im.own (m:Im) (c:Nat) (sel:ByteArray):Option (List (W×Nat)):=m.kl[c]?.bind (·.own sel)
def Im.up (m:Im) (sel:ByteArray):Nat→Option Nat→Option (Nat×List (W×Nat))
 | 0,_=>none
 | _+1,none=>none
 | f+1,some c=>match m.own c sel with
  | some ws=>some (c,ws)
  | none=>m.up sel f (m.kl[c]?.bind (·.above))
def Im.find (m:Im) (sel:ByteArray) (c:Option Nat):Option (Nat×List (W×Nat)):=m.up sel (m.kl.length+1) c
def Im.under (m:Im) (d:Nat):Nat→Option Nat→Bool
 | 0,_=>false
 | _+1,none=>false
 | f+1,some c=>decide (c=d)||m.under d f (m.kl[c]?.bind (·.above))
def Im.setKl (m:Im) (c:Nat) (f:Kl→Kl):Im:={ m with kl:=m.kl.modify c f }
def Kl.put (k:Kl) (x:Mt):Kl:={ k with ms:=k.ms.filter (fun y=>!(y.sel==x.sel))++[x] }
def Kl.drop (k:Kl) (sel:ByteArray):Kl:={ k with ms:=k.ms.filter (fun y=>!(y.sel==sel)) }
def greatest (ws:List (W×Nat)):Nat:=ws.foldl (fun n x=>if x.1.k=103∨x.1.k=112 then max n (x.1.n.toNat+1) else n) 0
def Im.class_ (m:Im) (name above:ByteArray) (slots:Int):Int×Im :=
 if className (bl name)=false∨slots < 0 then (1,m)
 else match m.cls name with
  | some _=>(3,m)
  | none=>match m.cls above with
   | none=>(2,m)
   | some a=>if 10 < (m.tot a:Int)+slots then (9,m) else if 12≤m.kl.length then (10,m) else (0,{ m with kl:=m.kl++[⟨name,some a,m.tot a+slots.toNat,[]⟩] })
def Im.drop (m:Im) (cls sel:ByteArray):Int×Im :=
 match m.cls cls with
 | none=>(2,m)
 | some c=>match m.own c sel with
  | none=>(4,m)
  | some _=>(0,m.setKl c (·.drop sel))
def Im.move (m:Im) (cls above:ByteArray):Int×Im :=
 match m.cls cls,m.cls above with
 | some c,some a=>if c < 2 then (2,m) else if m.under c (m.kl.length+1) (some a)=true then (8,m)
  else if m.tot a≠m.tot ((m.kl[c]?.bind (·.above)).getD 0) then (9,m) else (0,m.setKl c (fun k=>{ k with above:=some a }))
 | _,_=>(2,m)
def Im.copy (m:Im) (cls sel to:ByteArray):Int×Im :=
 match m.cls cls,m.cls to with
 | some c,some t=>match m.own c sel with
  | none=>(4,m)
  | some ws=>if m.tot t < greatest ws then (7,m) else (0,m.setKl t (·.put ⟨sel,ws⟩))
 | _,_=>(2,m)
def Im.made (m:Im) (cls:ByteArray):Option Nat:=match m.cls cls with
 | some 1=>none
 | c=>c
def Im.make (m:Im) (cls:ByteArray):Vl×Int×Im :=
 match m.made cls with
 | none=>(Vl.zero,2,m)
 | some c=>if 40≤m.obs.length then (Vl.zero,10,m) else (⟨true,m.obs.length⟩,0,{ m with obs:=m.obs++[⟨c,List.replicate (m.tot c) Vl.zero⟩] })
def Im.there (m:Im) (o:Int):Bool:=decide (0≤o)&&decide (o < m.obs.length)
def Im.be (m:Im) (o:Int) (cls:ByteArray):Int×Im :=
 if m.there o=false then (4,m) else match m.made cls with
  | none=>(2,m)
  | some c=>match m.obs[o.toNat]? with
   | none=>(4,m)
   | some x=>if m.tot c≠x.slots.length then (9,m) else (0,{ m with obs:=m.obs.set o.toNat { x with cls:=c } })
structure Fr where
 ws:List (W×Nat)
 home:Nat
 self:Vl
 args:List Vl
 pc:Nat
 st:List Vl
inductive Go1 where
 | on (m:Im) (fuel:Nat) (fs:List Fr)
 | told (m:Im) (v:Vl)
 | stop (m:Im) (e:Int)
def Im.of (m:Im) (v:Vl):Option Nat:=if v.obj then (m.obs[v.n.toNat]?).map (·.cls) else some 1
def Im.send (m:Im) (fuel:Nat) (frm:Option Nat) (to:Vl) (sel:ByteArray) (args:List Vl) (fs:List Fr):Go1 :=
 match m.find sel frm with
 | some (c,ws)=>if 32≤fs.length then .stop { m with looks:=m.looks+1 } 4 else .on { m with looks:=m.looks+1 } fuel (⟨ws,c,to,args,0,[]⟩::fs)
 | none=>match m.find nmDnu frm with
  | some (c,ws)=>if 32≤fs.length then .stop { m with looks:=m.looks+2 } 4 else .on { m with looks:=m.looks+2 } fuel (⟨ws,c,to,[⟨false,args.length⟩],0,[]⟩::fs)
  | none=>.stop { m with looks:=m.looks+2 } 1
def tellTo (m:Im) (fuel:Nat) (v:Vl):List Fr→Go1
 | []=>.told m v
 | f::fs=>.on m fuel ({ f with st:=v::f.st }::fs)
def wrap64 (n:Int):Int:=IntKind.i64.wrap n
def b2v (b:Bool):Vl:=⟨false,if b then 1 else 0⟩
def wordM (m:Im) (fuel:Nat) (x:W) (f:Fr) (fs:List Fr):Go1 :=
 let lay:=fun v=>Go1.on m fuel ({ f with st:=v::f.st }::fs)
 if x.k=110 then lay ⟨false,x.n⟩
 else if x.k=109 then lay f.self
 else if x.k=97 then lay (f.args[x.n.toNat]?.getD Vl.zero)
 else if x.k=103 then lay (((m.obs[f.self.n.toNat]?).bind (fun o=>o.slots[x.n.toNat]?)).getD Vl.zero)
 else if x.k=112 then match f.st with
  | v::r=>.on { m with obs:=m.obs.modify f.self.n.toNat (fun o=>{ o with slots:=o.slots.set x.n.toNat v }) } fuel ({ f with st:=r }::fs)
  | []=>.stop m 3
 else if x.k=43∨x.k=45∨x.k=42∨x.k=60 then match f.st with
  | b::a::r=>if a.obj||b.obj then .stop m 3 else
   .on m fuel ({ f with st:=(if x.k=43 then ⟨false,wrap64 (a.n+b.n)⟩ else if x.k=45 then ⟨false,wrap64 (a.n - b.n)⟩ else if x.k=42 then ⟨false,wrap64 (a.n*b.n)⟩ else b2v (decide (a.n < b.n)))::r }::fs)
  | _=>.stop m 3
 else if x.k=61 then match f.st with
  | b::a::r=>.on m fuel ({ f with st:=b2v (decide (a=b))::r }::fs)
  | _=>.stop m 3
 else if x.k=111 then .on m fuel ({ f with st:=f.st.drop 1 }::fs)
 else if x.k=100 then match f.st with
  | v::r=>.on m fuel ({ f with st:=v::v::r }::fs)
  | []=>.stop m 3
 else if x.k=62 then .on m fuel ({ f with pc:=x.n.toNat }::fs)
 else if x.k=63 then match f.st with
  | v::r=>if v.obj then .stop m 3 else .on m fuel ({ f with st:=r,pc:=if v.n=0 then x.n.toNat else f.pc }::fs)
  | []=>.stop m 3
 else if x.k=115 then match f.st.drop x.n.toNat with
  | to::r=>m.send fuel (m.of to) to (ofL x.sel) (f.st.take x.n.toNat).reverse ({ f with st:=r }::fs)
  | []=>.stop m 3
 else if x.k=94 then m.send fuel (m.kl[f.home]?.bind (·.above)) f.self (ofL x.sel) (f.st.take x.n.toNat).reverse ({ f with st:=f.st.drop x.n.toNat }::fs)
 else if x.k=119 then match m.make (ofL x.a) with
  | (v,e,m')=>if e=0 then .on m' fuel ({ f with st:=v::f.st }::fs) else .stop m' 3
 else if x.k=98 then match f.st with
  | v::r=>if v.obj then (match m.be v.n (ofL x.a) with
   | (e,m')=>if e=0 then .on m' fuel (f::fs) else .stop m' 3) else .stop m 3
  | []=>.stop m 3
 else if x.k=120 then match m.drop (ofL x.a) (ofL x.sel) with
  | (e,m')=>if e=0 then .on m' fuel (f::fs) else .stop m' 3
 else if x.k=118 then match m.move (ofL x.a) (ofL x.b) with
  | (e,m')=>if e=0 then .on m' fuel (f::fs) else .stop m' 3
 else if x.k=99 then match m.copy (ofL x.a) (ofL x.sel) (ofL x.b) with
  | (e,m')=>if e=0 then .on m' fuel (f::fs) else .stop m' 3
 else match f.st with
  | v::_=>tellTo m fuel v fs
  | []=>.stop m 3
def stepM (m:Im) (fuel:Nat):List Fr→Go1
 | []=>.stop m 3
 | f::fs=>match f.ws[f.pc]? with
  | none=>tellTo m fuel f.self fs
  | some x=>match fuel with
   | 0=>.stop m 2
   | fuel+1=>wordM m fuel x.1 { f with pc:=f.pc+1 } fs
def runM:Nat→Go1→Go1
 | 0,g=>g
 | k+1,.on m fuel fs=>runM k (stepM m fuel fs)
 | _+1,g=>g
structure Shp (x:W):Prop where
 send:x.k=115∨x.k=94→selector x.sel=true∧x.n=(argsOf x.sel:Nat)
 low:x.k=97∨x.k=103∨x.k=112→0≤x.n
theorem shp_of {k:Nat}{n:Int}{s a b:List UInt8} (h:k≠115∧k≠94) (h':0≤n∨(k≠97∧k≠103∧k≠112)):Shp ⟨k,n,s,a,b⟩:=⟨fun e=>by simp only at e;omega,fun e=>by simp only at e ⊢;omega⟩
theorem shp_rd {l:List UInt8}{x:W} (h:rd l=some x):Shp x:=by
 unfold rd at h
 split at h
 · rename_i y hy
   injection h with h;subst h
   unfold rdPlain at hy
   repeat (first
    | (split at hy
       · injection hy with hy;subst hy
         exact shp_of (by decide) (by decide))
    | cases hy)
 · split at h
   · rename_i y hy
     injection h with h;subst h
     have key:∀ (k:Nat) (s a b:List UInt8),k=119∨k=98∨k=120∨k=118∨k=99→Shp ⟨k,0,s,a,b⟩:=fun k s a b hk=>shp_of (by omega) (by omega)
     unfold rdNamed at hy
     split at hy
     · split at hy
       · injection hy with hy;subst hy;exact key _ _ _ _ (by simp)
       · cases hy
     · split at hy
       · split at hy
         · injection hy with hy;subst hy;exact key _ _ _ _ (by simp)
         · cases hy
       · split at hy
         · cases hy
         · unfold namedRest at hy
           repeat' split at hy
           all_goals first
            | (injection hy with hy;subst hy;exact key _ _ _ _ (by simp))
            | cases hy
   · unfold rdRest at h
     split at h
     · rename_i hs
       injection h with h;subst h
       exact ⟨fun _=>⟨hs,rfl⟩,fun e=>by simp at e⟩
     · unfold rest2 at h
       split at h
       · rename_i hs
         injection h with h;subst h
         exact ⟨fun _=>⟨hs.2,rfl⟩,fun e=>by simp at e⟩
       · unfold rest3 at h
         split at h
         · injection h with h;subst h;exact shp_of (by decide) (.inr (by decide))
         · unfold rest4 at h
           split at h
           · injection h with h;subst h;exact shp_of (by decide) (.inr (by decide))
           · unfold rest5 at h
             split at h
             · rename_i hs
               injection h with h;subst h
               exact shp_of (by omega) (.inl hs.2)
             · unfold rest6 at h
               split at h
               · rename_i hs
                 injection h with h;subst h
                 exact shp_of (by decide) (.inl hs.2.1)
               · unfold rest7 at h
                 split at h
                 · rename_i hs
                   injection h with h;subst h
                   exact shp_of (by decide) (.inl hs.2)
                 · unfold rest8 at h
                   split at h
                   · injection h with h;subst h
                     exact shp_of (by decide) (.inl (by omega))
                   · cases h
theorem words_shp (l:List UInt8) (i:Nat) (x:W×Nat) (h:(wordsAll l).1[i]?=some x):Shp x.1 :=
 (wordsFrom_all Shp (fun l x=>shp_rd) _ l 0 [] (fun y hy=>by cases hy) (by simp)).1 x (List.mem_of_getElem? h)
structure GoodM (ws:List (W×Nat)) (args slots:Nat):Prop where
 shp:∀ (i:Nat) (x:W×Nat),ws[i]?=some x→Shp x.1
 fine:∀ (i:Nat) (x:W×Nat),ws[i]?=some x→Fine0 x.1
 len:ws.length≤40
 num:∀ j,j < ws.length→¬ NumBad ws args slots j
 ok:∀ j,j < ws.length→¬ Wrong ws j
def isI64 (n:Int):Prop:=-9223372036854775808≤n∧n≤9223372036854775807
def VlOk (m:Im) (v:Vl):Prop:=isI64 v.n∧(v.obj=true→m.there v.n=true)
def Im.width (m:Im) (v:Vl):Nat:=if v.obj then ((m.obs[v.n.toNat]?).map (fun o=>o.slots.length)).getD 0 else 0
structure ImOk (m:Im):Prop where
 two:2≤m.kl.length
 few:m.kl.length≤12
 any:∃ ms,m.kl[0]?=some ⟨⟨#[65,110,121]⟩,none,0,ms⟩
 int:∃ ms,m.kl[1]?=some ⟨⟨#[73,110,116]⟩,some 0,0,ms⟩
 names:∀ (c:Nat) (k:Kl),m.kl[c]?=some k→className (bl k.name)=true
 once:∀ (c d:Nat) (k l:Kl),m.kl[c]?=some k→m.kl[d]?=some l→k.name=l.name→c=d
 up:∀ (c:Nat) (k:Kl),m.kl[c]?=some k→c≠0→∃ a,k.above=some a∧a < m.kl.length∧m.tot a≤k.tot
 rank:∃ r:Nat→Nat,(∀ c,r c≤m.kl.length)∧∀ (c:Nat) (k:Kl) (a:Nat),m.kl[c]?=some k→k.above=some a→r a < r c
 tot:∀ (c:Nat) (k:Kl),m.kl[c]?=some k→k.tot≤10
 meth:∀ (c:Nat) (k:Kl) (x:Mt),m.kl[c]?=some k→x∈k.ms→selector (bl x.sel)=true∧GoodM x.ws (argsOf (bl x.sel)) k.tot
 sels:∀ (c:Nat) (k:Kl),m.kl[c]?=some k→(k.ms.map (·.sel)).Nodup
 objs:m.obs.length≤40
 obj:∀ o∈m.obs,o.cls < m.kl.length∧o.cls≠1∧o.slots.length=m.tot o.cls∧∀ v∈o.slots,VlOk m v
structure FrOk (m:Im) (d:Nat) (f:Fr):Prop where
 home:f.home < m.kl.length
 self:VlOk m f.self
 args:∀ v∈f.args,VlOk m v
 few:f.args.length≤3
 good:GoodM f.ws f.args.length (m.tot f.home)
 wide:m.tot f.home≤m.width f.self
 st:∀ v∈f.st,VlOk m v
 at_:Reach f.ws f.pc (f.st.length+d)
theorem good_ok {ws:List (W×Nat)}{args slots i h:Nat} (g:GoodM ws args slots) (hi:i < ws.length) (hr:Reach ws i h):okAt ws i h:=by
 apply Classical.byContradiction
 intro hn
 exact g.ok i hi (.inl ⟨h,hr,hn⟩)
theorem good_of {sel src:List UInt8}{n:Nat} (h:MethodIs sel src n 0 0):(wordsAll src).2=-1∧GoodM (wordsAll src).1 (argsOf sel) n:=by
 rcases h with ⟨_,h,_⟩ | ⟨_,_,h,_⟩ | ⟨_,_,_,h,_⟩ | ⟨_,_,hw,e',i,hf,hr⟩
 · omega
 · omega
 · omega
 · have key:(∀ j,j < (wordsAll src).1.length→¬ NumBad (wordsAll src).1 (argsOf sel) n j)∧∀ j,j < (wordsAll src).1.length→¬ Wrong (wordsAll src).1 j:=by
    rcases hr with ⟨j,x,rfl,hx,he,_⟩ | ⟨rfl,_,_⟩
    · rcases hf with ⟨j',hj',hjj,hb,_,h1,h7⟩ | ⟨_,h6,_⟩
      · by_cases ha:argBad (wordsAll src).1 (argsOf sel) j'
        · have:=h1 ha;omega
        · have:=h7 ha;omega
      · omega
    · rcases hf with ⟨j',_,hjj,_⟩ | ⟨hno,_,hfi⟩
      · omega
      · refine ⟨hno,?_⟩
        rcases hfi with ⟨_,h⟩ | ⟨j,_,hj,_⟩
        · exact h
        · omega
   exact ⟨hw,words_shp src,words_fine src,words_le src,key.1,key.2⟩
structure Ext (m m':Im):Prop where
 kl:m.kl.length≤m'.kl.length
 tot:∀ c,c < m.kl.length→m'.tot c=m.tot c
 obs:m.obs.length≤m'.obs.length
 wide:∀ (i:Nat) (o:Ob),m.obs[i]?=some o→∃ o',m'.obs[i]?=some o'∧o'.slots.length=o.slots.length
theorem Ext.refl (m:Im):Ext m m:=⟨Nat.le_refl _,fun _ _=>rfl,Nat.le_refl _,fun i o h=>⟨o,h,rfl⟩⟩
variable {m : Im}
theorem Im.there_iff {n:Int}:m.there n=true ↔ 0≤n∧n < m.obs.length:=by
 unfold Im.there
 rw [Bool.and_eq_true,decide_eq_true_iff,decide_eq_true_iff]
variable {m' : Im}
theorem VlOk.ext {v:Vl} (h:VlOk m v) (he:Ext m m'):VlOk m' v:=⟨h.1,fun ho=>by
 have:=Im.there_iff.1 (h.2 ho)
 exact Im.there_iff.2 ⟨this.1,by have:=he.obs;omega⟩⟩
theorem width_ext {v:Vl} (h:VlOk m v) (he:Ext m m'):m'.width v=m.width v:=by
 unfold Im.width
 cases ho:v.obj with
 | false=>rfl
 | true =>
  have ht:=Im.there_iff.1 (h.2 ho)
  have hl:v.n.toNat < m.obs.length:=by omega
  obtain ⟨o',h1,e1⟩:=he.wide v.n.toNat _ (List.getElem?_eq_getElem hl)
  rw [h1,List.getElem?_eq_getElem hl]
  simp [e1]
variable {f : Fr}
theorem FrOk.ext {d:Nat} (h:FrOk m d f) (he:Ext m m'):FrOk m' d f :=
 ⟨Nat.lt_of_lt_of_le h.home he.kl,h.self.ext he,fun v hv=>(h.args v hv).ext he,h.few,by rw [he.tot _ h.home];exact h.good,by rw [he.tot _ h.home,width_ext h.self he];exact h.wide,fun v hv=>(h.st v hv).ext he,h.at_⟩
theorem tot_of {c:Nat}{k:Kl} (h:m.kl[c]?=some k):m.tot c=k.tot:=by unfold Im.tot;rw [h];rfl
theorem setKl_get (m:Im) (c:Nat) (f:Kl→Kl) (d:Nat):(m.setKl c f).kl[d]?=if c=d then (m.kl[d]?).map f else m.kl[d]?:=by
 unfold Im.setKl
 simp only [List.getElem?_modify]
 by_cases h:c=d
 · simp [h]
 · simp [h]
theorem setKl_tot (m:Im) (c:Nat) (f:Kl→Kl) (hf:∀ k,(f k).tot=k.tot) (d:Nat):(m.setKl c f).tot d=m.tot d:=by
 unfold Im.tot
 rw [setKl_get]
 by_cases h:c=d
 · rw [if_pos h];cases m.kl[d]? <;> simp [hf]
 · rw [if_neg h]
theorem setKl_len (m:Im) (c:Nat) (f:Kl→Kl):(m.setKl c f).kl.length=m.kl.length:=by simp [Im.setKl]
theorem setKl_ext (m:Im) (c:Nat) (f:Kl→Kl) (hf:∀ k,(f k).tot=k.tot):Ext m (m.setKl c f) :=
 ⟨by rw [setKl_len];exact Nat.le_refl _,fun d _=>setKl_tot m c f hf d,Nat.le_refl _,fun i o h=>⟨o,h,rfl⟩⟩
theorem setMs_ok (h:ImOk m) (c:Nat) (g:Kl→List Mt) (hg:∀ k,m.kl[c]?=some k→(∀ x∈g k,selector (bl x.sel)=true∧GoodM x.ws (argsOf (bl x.sel)) k.tot)∧((g k).map (·.sel)).Nodup):ImOk (m.setKl c (fun k=>{ k with ms:=g k })):=by
 have get:∀ (d:Nat) (k:Kl),(m.setKl c (fun k=>{ k with ms:=g k })).kl[d]?=some k→∃ k0,m.kl[d]?=some k0∧k.name=k0.name∧k.above=k0.above∧k.tot=k0.tot∧((c=d∧k.ms=g k0)∨(c≠d∧k.ms=k0.ms)):=by
  intro d k hk
  rw [setKl_get] at hk
  by_cases e:c=d
  · rw [if_pos e] at hk
    cases hd:m.kl[d]? with
    | none=>rw [hd] at hk;cases hk
    | some k0=>rw [hd] at hk;simp at hk;subst hk;exact ⟨k0,rfl,rfl,rfl,rfl,.inl ⟨e,rfl⟩⟩
  · rw [if_neg e] at hk;exact ⟨k,hk,rfl,rfl,rfl,.inr ⟨e,rfl⟩⟩
 have len:=setKl_len m c (fun k=>{ k with ms:=g k })
 have tot:=setKl_tot m c (fun k=>{ k with ms:=g k }) (fun _=>rfl)
 refine ⟨by rw [len];exact h.two,by rw [len];exact h.few,?_,?_,?_,?_,?_,?_,?_,?_,?_,h.objs,?_⟩
 · obtain ⟨ms,hm⟩:=h.any
   rw [setKl_get,hm]
   by_cases e:c=0
   · exact ⟨_,by rw [if_pos e];rfl⟩
   · exact ⟨_,by rw [if_neg e]⟩
 · obtain ⟨ms,hm⟩:=h.int
   rw [setKl_get,hm]
   by_cases e:c=1
   · exact ⟨_,by rw [if_pos e];rfl⟩
   · exact ⟨_,by rw [if_neg e]⟩
 · intro d k hk
   obtain ⟨k0,h0,hn,_⟩:=get d k hk
   rw [hn];exact h.names d k0 h0
 · intro d e k l hk hl hkl
   obtain ⟨k0,h0,hn,_⟩:=get d k hk
   obtain ⟨l0,h1,hn1,_⟩:=get e l hl
   exact h.once d e k0 l0 h0 h1 (by rw [← hn,← hn1];exact hkl)
 · intro d k hk hd
   obtain ⟨k0,h0,_,ha,ht,_⟩:=get d k hk
   obtain ⟨a,h1,h2,h3⟩:=h.up d k0 h0 hd
   exact ⟨a,by rw [ha];exact h1,by rw [len];exact h2,by rw [tot,ht];exact h3⟩
 · obtain ⟨r,hr,hr2⟩:=h.rank
   refine ⟨r,fun d=>by rw [len];exact hr d,fun d k a hk hka=>?_⟩
   obtain ⟨k0,h0,_,ha,_⟩:=get d k hk
   exact hr2 d k0 a h0 (by rw [← ha];exact hka)
 · intro d k hk
   obtain ⟨k0,h0,_,_,ht,_⟩:=get d k hk
   rw [ht];exact h.tot d k0 h0
 · intro d k x hk hx
   obtain ⟨k0,h0,_,_,ht,hm⟩:=get d k hk
   rcases hm with ⟨rfl,hm⟩ | ⟨_,hm⟩
   · rw [hm] at hx;rw [ht];exact (hg k0 h0).1 x hx
   · rw [hm] at hx;rw [ht];exact h.meth d k0 x h0 hx
 · intro d k hk
   obtain ⟨k0,h0,_,_,ht,hm⟩:=get d k hk
   rcases hm with ⟨rfl,hm⟩ | ⟨_,hm⟩
   · rw [hm];exact (hg k0 h0).2
   · rw [hm];exact h.sels d k0 h0
 · intro o ho
   obtain ⟨h1,h2,h3,h4⟩:=h.obj o ho
   exact ⟨by rw [len];exact h1,h2,by rw [tot];exact h3,fun v hv=>(h4 v hv).ext (setKl_ext m c _ (fun _=>rfl))⟩
theorem drop_ok (h:ImOk m) (a b:ByteArray):ImOk (m.drop a b).2∧Ext m (m.drop a b).2:=by
 unfold Im.drop
 cases m.cls a with
 | none=>exact ⟨h,Ext.refl m⟩
 | some c =>
  simp only
  cases m.own c b with
  | none=>exact ⟨h,Ext.refl m⟩
  | some ws =>
   simp only
   refine ⟨setMs_ok h c (fun k=>k.ms.filter (fun y=>!(y.sel==b))) (fun k hk=>⟨fun x hx=>h.meth c k x hk (List.mem_filter.1 hx).1,?_⟩),setKl_ext m c _ (fun _=>rfl)⟩
   exact (h.sels c k hk).sublist ((List.filter_sublist).map _)
theorem put_ok (h:ImOk m) (c:Nat) (x:Mt) (hx:selector (bl x.sel)=true) (hg:GoodM x.ws (argsOf (bl x.sel)) (m.tot c)):ImOk (m.setKl c (·.put x))∧Ext m (m.setKl c (·.put x)):=by
 refine ⟨setMs_ok h c (fun k=>k.ms.filter (fun y=>!(y.sel==x.sel))++[x]) (fun k hk=>⟨fun y hy=>?_,?_⟩),setKl_ext m c _ (fun _=>rfl)⟩
 · rcases List.mem_append.1 hy with hy | hy
   · exact h.meth c k y hk (List.mem_filter.1 hy).1
   · simp at hy;subst hy
     rw [tot_of hk] at hg
     exact ⟨hx,hg⟩
 · rw [List.map_append,List.nodup_append]
   refine ⟨(h.sels c k hk).sublist ((List.filter_sublist).map _),by simp,?_⟩
   intro a ha b hb hab
   simp at hb
   subst hb
   obtain ⟨y,hy,rfl⟩:=List.mem_map.1 ha
   have:=(List.mem_filter.1 hy).2
   rw [hab,beq_ba_self] at this
   simp at this
theorem foldl_le (ws:List (W×Nat)):∀ n,n≤ws.foldl (fun n x=>if x.1.k=103∨x.1.k=112 then max n (x.1.n.toNat+1) else n) n:=by
 induction ws with
 | nil=>intro n;exact Nat.le_refl _
 | cons y r ih =>
  intro n
  rw [List.foldl_cons]
  refine Nat.le_trans ?_ (ih _)
  split
  · exact Nat.le_max_left _ _
  · exact Nat.le_refl _
theorem greatest_gt:∀ (ws:List (W×Nat)) (n i:Nat) (x:W×Nat),ws[i]?=some x→(x.1.k=103∨x.1.k=112)→x.1.n.toNat < ws.foldl (fun n x=>if x.1.k=103∨x.1.k=112 then max n (x.1.n.toNat+1) else n) n
 | [],n,i,x,h,_=>by simp at h
 | y::r,n,0,x,h,hk=>by
  simp at h;subst h
  rw [List.foldl_cons,if_pos hk]
  exact Nat.lt_of_lt_of_le (by omega) (foldl_le r _)
 | y::r,n,i+1,x,h,hk=>by
  rw [List.foldl_cons]
  exact greatest_gt r _ i x (by simpa using h) hk
theorem good_wide {ws:List (W×Nat)}{args s t:Nat} (g:GoodM ws args s) (h:greatest ws≤t):GoodM ws args t:=by
 refine ⟨g.shp,g.fine,g.len,fun j hj hb=>?_,g.ok⟩
 rcases hb with hb | ⟨hk,hn⟩
 · exact g.num j hj (.inl hb)
 · have hx:ws[j]?=some ws[j]:=List.getElem?_eq_getElem hj
   have hw:wAt ws j=ws[j].1:=by unfold wAt;rw [hx];rfl
   rw [hw] at hk hn
   have:=greatest_gt ws 0 j _ hx hk
   unfold greatest at h
   omega
theorem own_some {c:Nat}{sel:ByteArray}{ws:List (W×Nat)} (h:m.own c sel=some ws):∃ k x,m.kl[c]?=some k∧x∈k.ms∧x.sel=sel∧x.ws=ws:=by
 unfold Im.own at h
 cases hk:m.kl[c]? with
 | none=>rw [hk] at h;cases h
 | some k =>
  rw [hk] at h
  simp only [Option.bind_some] at h
  unfold Kl.own at h
  cases hf:k.ms.find? (fun x=>x.sel==sel) with
  | none=>rw [hf] at h;cases h
  | some x =>
   rw [hf] at h
   simp at h
   exact ⟨k,x,rfl,List.mem_of_find?_eq_some hf,(beq_ba _ _).1 (by simpa using List.find?_some hf),h⟩
theorem own_good (h:ImOk m) {c:Nat}{sel:ByteArray}{ws:List (W×Nat)} (ho:m.own c sel=some ws):selector (bl sel)=true∧GoodM ws (argsOf (bl sel)) (m.tot c):=by
 obtain ⟨k,x,hk,hx,rfl,rfl⟩:=own_some ho
 have:=h.meth c k x hk hx
 rw [tot_of hk]
 exact this
theorem copy_ok (h:ImOk m) (a b d:ByteArray):ImOk (m.copy a b d).2∧Ext m (m.copy a b d).2:=by
 unfold Im.copy
 cases m.cls a with
 | none=>exact ⟨h,Ext.refl m⟩
 | some c =>
  cases m.cls d with
  | none=>exact ⟨h,Ext.refl m⟩
  | some t =>
   simp only
   cases ho:m.own c b with
   | none=>exact ⟨h,Ext.refl m⟩
   | some ws =>
    simp only
    by_cases hl:m.tot t < greatest ws
    · rw [if_pos hl];exact ⟨h,Ext.refl m⟩
    · rw [if_neg hl]
      have:=own_good h ho
      exact put_ok h t ⟨b,ws⟩ this.1 (good_wide this.2 (Nat.le_of_not_lt hl))
theorem rank_bound (hlt:∀ (c:Nat) (k:Kl) (a:Nat),m.kl[c]?=some k→k.above=some a→a < m.kl.length) (h:∃ r:Nat→Nat,∀ (c:Nat) (k:Kl) (a:Nat),m.kl[c]?=some k→k.above=some a→r a < r c) :
 ∃ r:Nat→Nat,(∀ c,r c≤m.kl.length)∧∀ (c:Nat) (k:Kl) (a:Nat),m.kl[c]?=some k→k.above=some a→r a < r c:=by
 obtain ⟨r,hr⟩:=h
 refine ⟨fun c=>(List.range m.kl.length).countP (fun d=>decide (r d < r c)),fun c=>?_,fun c k a hk ha=>?_⟩
 · have:=List.countP_le_length (p:=fun d=>decide (r d < r c)) (l:=List.range m.kl.length)
   rw [List.length_range] at this
   exact this
 · have h1:=hr c k a hk ha
   refine countP_lt _ _ _ (fun x _ hx=>?_) ⟨a,List.mem_range.2 (hlt c k a hk ha),by simpa using h1,by simp⟩
   simp at hx ⊢
   omega
theorem under_fuel {r:Nat→Nat} (hr:∀ (c:Nat) (k:Kl) (a:Nat),m.kl[c]?=some k→k.above=some a→r a < r c) (c:Nat):∀ (f g d:Nat),r d < f→r d < g→m.under c f (some d)=m.under c g (some d)
 | 0,_,_,h,_=>by omega
 | _+1,0,_,_,h=>by omega
 | f+1,g+1,d,hf,hg=>by
  unfold Im.under
  cases hk:m.kl[d]? with
  | none=>cases f <;> cases g <;> simp [Im.under]
  | some k =>
   simp only [Option.bind_some]
   cases ha:k.above with
   | none=>cases f <;> cases g <;> simp [Im.under]
   | some a =>
    have:=hr d k a hk ha
    rw [under_fuel hr c f g a (by omega) (by omega)]
theorem under_step {r:Nat→Nat} (hr:∀ (c:Nat) (k:Kl) (a:Nat),m.kl[c]?=some k→k.above=some a→r a < r c) (hb:∀ c,r c≤m.kl.length) (c d a:Nat) (k:Kl) (hk:m.kl[d]?=some k) (ha:k.above=some a) :
 m.under c (m.kl.length+1) (some d)=(decide (d=c)||m.under c (m.kl.length+1) (some a)):=by
 have h1:=hr d k a hk ha
 have h2:=hb d
 conv=>lhs;unfold Im.under
 rw [hk]
 simp only [Option.bind_some,ha]
 rw [under_fuel hr c m.kl.length (m.kl.length+1) a (by omega) (by omega)]
theorem under_self (m:Im) (c:Nat):m.under c (m.kl.length+1) (some c)=true:=by unfold Im.under;simp
theorem move_ok (h:ImOk m) (s t:ByteArray):ImOk (m.move s t).2∧Ext m (m.move s t).2:=by
 unfold Im.move
 cases hc:m.cls s with
 | none=>exact ⟨h,Ext.refl m⟩
 | some c =>
  cases ha:m.cls t with
  | none=>exact ⟨h,Ext.refl m⟩
  | some a =>
   simp only
   by_cases h2:c < 2
   · rw [if_pos h2];exact ⟨h,Ext.refl m⟩
   rw [if_neg h2]
   by_cases hu:m.under c (m.kl.length+1) (some a)=true
   · rw [if_pos hu];exact ⟨h,Ext.refl m⟩
   rw [if_neg hu]
   by_cases ht:m.tot a≠m.tot ((m.kl[c]?.bind (·.above)).getD 0)
   · rw [if_pos ht];exact ⟨h,Ext.refl m⟩
   rw [if_neg ht]
   have ht':m.tot a=m.tot ((m.kl[c]?.bind (·.above)).getD 0):=Classical.byContradiction fun e=>ht e
   have hal:a < m.kl.length:=by
    unfold Im.cls at ha
    exact (List.findIdx?_eq_some_iff_getElem.1 ha).1
   have get:∀ (d:Nat) (k:Kl),(m.setKl c (fun k=>{ k with above:=some a })).kl[d]?=some k→∃ k0,m.kl[d]?=some k0∧k.name=k0.name∧k.tot=k0.tot∧k.ms=k0.ms∧((c=d∧k.above=some a)∨(c≠d∧k.above=k0.above)):=by
    intro d k hk
    rw [setKl_get] at hk
    by_cases e:c=d
    · rw [if_pos e] at hk
      cases hd:m.kl[d]? with
      | none=>rw [hd] at hk;cases hk
      | some k0=>rw [hd] at hk;simp at hk;subst hk;exact ⟨k0,rfl,rfl,rfl,rfl,.inl ⟨e,rfl⟩⟩
    · rw [if_neg e] at hk;exact ⟨k,hk,rfl,rfl,rfl,.inr ⟨e,rfl⟩⟩
   have len:=setKl_len m c (fun k=>{ k with above:=some a })
   have tot:=setKl_tot m c (fun k=>{ k with above:=some a }) (fun _=>rfl)
   have ext:=setKl_ext m c (fun k=>{ k with above:=some a }) (fun _=>rfl)
   refine ⟨⟨by rw [len];exact h.two,by rw [len];exact h.few,?_,?_,?_,?_,?_,?_,?_,?_,?_,h.objs,?_⟩,ext⟩
   · obtain ⟨ms,hm⟩:=h.any
     rw [setKl_get,hm,if_neg (by omega)]
     exact ⟨_,rfl⟩
   · obtain ⟨ms,hm⟩:=h.int
     rw [setKl_get,hm,if_neg (by omega)]
     exact ⟨_,rfl⟩
   · intro d k hk
     obtain ⟨k0,h0,hn,_⟩:=get d k hk
     rw [hn];exact h.names d k0 h0
   · intro d e k l hk hl hkl
     obtain ⟨k0,h0,hn,_⟩:=get d k hk
     obtain ⟨l0,h1,hn1,_⟩:=get e l hl
     exact h.once d e k0 l0 h0 h1 (by rw [← hn,← hn1];exact hkl)
   · intro d k hk hd
     obtain ⟨k0,h0,_,hto,_,hab⟩:=get d k hk
     obtain ⟨b,h1,hb2,h3⟩:=h.up d k0 h0 hd
     rcases hab with ⟨rfl,hab⟩ | ⟨_,hab⟩
     · refine ⟨a,hab,by rw [len];exact hal,?_⟩
       rw [tot,hto,ht',h0]
       simp only [Option.bind_some,h1,Option.getD_some]
       exact h3
     · exact ⟨b,by rw [hab];exact h1,by rw [len];exact hb2,by rw [tot,hto];exact h3⟩
   · obtain ⟨r,hrb,hr⟩:=h.rank
     refine rank_bound ?_ ⟨fun d=>if m.under c (m.kl.length+1) (some d)=true then r d+r a+1 else r d,?_⟩
     · intro d k b hk hb
       obtain ⟨k0,h0,_,_,_,hab⟩:=get d k hk
       rw [len]
       rcases hab with ⟨rfl,hab⟩ | ⟨_,hab⟩
       · rw [hab] at hb;injection hb with hb;omega
       · rw [hab] at hb
         by_cases hd0:d=0
         · obtain ⟨ms,hm⟩:=h.any
           rw [hd0,hm] at h0
           injection h0 with h0
           rw [← h0] at hb
           cases hb
         · obtain ⟨b',h1,hb2,_⟩:=h.up d k0 h0 hd0
           rw [h1] at hb;injection hb with hb;omega
     · intro d k b hk hb
       obtain ⟨k0,h0,_,_,_,hab⟩:=get d k hk
       rcases hab with ⟨rfl,hab⟩ | ⟨hne,hab⟩
       · rw [hab] at hb;injection hb with hb;subst hb
         simp only [under_self,if_true,if_neg hu]
         omega
       · rw [hab] at hb
         have hs:=under_step hr hrb c d b k0 h0 hb
         have hrd:=hr d k0 b h0 hb
         have hdc:decide (d=c)=false:=by simp;omega
         rw [hdc,Bool.false_or] at hs
         simp only [hs]
         split <;> omega
   · intro d k hk
     obtain ⟨k0,h0,_,ht,_⟩:=get d k hk
     rw [ht];exact h.tot d k0 h0
   · intro d k x hk hx
     obtain ⟨k0,h0,_,ht,hm,_⟩:=get d k hk
     rw [hm] at hx;rw [ht];exact h.meth d k0 x h0 hx
   · intro d k hk
     obtain ⟨k0,h0,_,_,hm,_⟩:=get d k hk
     rw [hm];exact h.sels d k0 h0
   · intro o ho
     obtain ⟨h1,h2,h3,h4⟩:=h.obj o ho
     exact ⟨by rw [len];exact h1,h2,by rw [tot];exact h3,fun v hv=>(h4 v hv).ext ext⟩
theorem im0_ok:ImOk im0:=by
 have g:∀ (c:Nat) (k:Kl),im0.kl[c]?=some k→(c=0∧k=⟨⟨#[65,110,121]⟩,none,0,[]⟩)∨(c=1∧k=⟨⟨#[73,110,116]⟩,some 0,0,[]⟩):=by
  intro c k h
  match c,h with
  | 0,h=>simp [im0] at h;exact .inl ⟨rfl,h.symm⟩
  | 1,h=>simp [im0] at h;exact .inr ⟨rfl,h.symm⟩
  | c+2,h=>simp [im0] at h
 refine ⟨by decide,by decide,⟨[],rfl⟩,⟨[],rfl⟩,?_,?_,?_,⟨fun c=>if c=0 then 0 else 1,?_,?_⟩,?_,?_,?_,by decide,fun o ho=>by cases ho⟩
 · intro c k h
   rcases g c k h with ⟨_,rfl⟩ | ⟨_,rfl⟩ <;> decide
 · intro c d k l h h' e
   rcases g c k h with ⟨rfl,rfl⟩ | ⟨rfl,rfl⟩ <;> rcases g d l h' with ⟨rfl,rfl⟩ | ⟨rfl,rfl⟩
   · rfl
   · simp at e
   · simp at e
   · rfl
 · intro c k h hc
   rcases g c k h with ⟨rfl,rfl⟩ | ⟨rfl,rfl⟩
   · exact absurd rfl hc
   · exact ⟨0,rfl,by decide,by decide⟩
 · intro c
   show (if c=0 then 0 else 1)≤2
   split <;> omega
 · intro c k a h ha
   rcases g c k h with ⟨rfl,rfl⟩ | ⟨rfl,rfl⟩
   · cases ha
   · injection ha with ha;subst ha;decide
 · intro c k h
   rcases g c k h with ⟨_,rfl⟩ | ⟨_,rfl⟩ <;> simp
 · intro c k x h hx
   rcases g c k h with ⟨_,rfl⟩ | ⟨_,rfl⟩ <;> cases hx
 · intro c k h
   rcases g c k h with ⟨_,rfl⟩ | ⟨_,rfl⟩ <;> simp
theorem cls_some {s:ByteArray}{c:Nat} (h:m.cls s=some c):∃ k,m.kl[c]?=some k∧k.name=s:=by
 unfold Im.cls at h
 obtain ⟨hl,he,_⟩:=List.findIdx?_eq_some_iff_getElem.1 h
 exact ⟨_,List.getElem?_eq_getElem hl,(beq_ba _ _).1 he⟩
theorem cls_none {s:ByteArray} (h:m.cls s=none):∀ (c:Nat) (k:Kl),m.kl[c]?=some k→k.name≠s:=by
 unfold Im.cls at h
 intro c k hk e
 have:=List.findIdx?_eq_none_iff.1 h k (List.mem_of_getElem? hk)
 rw [e,beq_ba_self] at this
 cases this
theorem class_ok (h:ImOk m) (s t:ByteArray) (n:Int):ImOk (m.class_ s t n).2∧Ext m (m.class_ s t n).2:=by
 unfold Im.class_
 by_cases h1:className (bl s)=false∨n < 0
 · rw [if_pos h1];exact ⟨h,Ext.refl m⟩
 rw [if_neg h1]
 cases hs:m.cls s with
 | some c=>exact ⟨h,Ext.refl m⟩
 | none =>
  simp only
  cases ht:m.cls t with
  | none=>exact ⟨h,Ext.refl m⟩
  | some a =>
   simp only
   by_cases h2:10 < (m.tot a:Int)+n
   · rw [if_pos h2];exact ⟨h,Ext.refl m⟩
   rw [if_neg h2]
   by_cases h3:12≤m.kl.length
   · rw [if_pos h3];exact ⟨h,Ext.refl m⟩
   rw [if_neg h3]
   simp only
   obtain ⟨ka,hka,_⟩:=cls_some ht
   have hal:a < m.kl.length:=(List.getElem?_eq_some_iff.1 hka).1
   have hn:0≤n:=Int.not_lt.1 fun e=>h1 (.inr e)
   have hcn:className (bl s)=true:=by
    cases e:className (bl s) with
    | true=>rfl
    | false=>exact absurd (.inl e) h1
   have get:∀ (d:Nat) (k:Kl),(m.kl++[⟨s,some a,m.tot a+n.toNat,[]⟩])[d]?=some k→(d < m.kl.length∧m.kl[d]?=some k)∨(d=m.kl.length∧k=⟨s,some a,m.tot a+n.toNat,[]⟩):=by
    intro d k hk
    by_cases hd:d < m.kl.length
    · rw [List.getElem?_append_left hd] at hk;exact .inl ⟨hd,hk⟩
    · rw [List.getElem?_append_right (by omega)] at hk
      have:d - m.kl.length=0:=by
       have:=(List.getElem?_eq_some_iff.1 hk).1
       simp at this
       omega
      rw [this] at hk
      simp at hk
      exact .inr ⟨by omega,hk.symm⟩
   have tot:∀ d,d < m.kl.length→Im.tot { m with kl:=m.kl++[⟨s,some a,m.tot a+n.toNat,[]⟩] } d=m.tot d:=fun d hd=>by
    unfold Im.tot
    rw [List.getElem?_append_left hd]
   have ext:Ext m { m with kl:=m.kl++[⟨s,some a,m.tot a+n.toNat,[]⟩] }:=⟨by simp,tot,Nat.le_refl _,fun i o ho=>⟨o,ho,rfl⟩⟩
   have hlen:(m.kl++[(⟨s,some a,m.tot a+n.toNat,[]⟩:Kl)]).length=m.kl.length+1:=by simp
   refine ⟨⟨by rw [hlen];have:=h.two;omega,by rw [hlen];omega,?_,?_,?_,?_,?_,?_,?_,?_,?_,h.objs,?_⟩,ext⟩
   · obtain ⟨ms,hm⟩:=h.any
     exact ⟨ms,by rw [List.getElem?_append_left (by have:=h.two;omega)];exact hm⟩
   · obtain ⟨ms,hm⟩:=h.int
     exact ⟨ms,by rw [List.getElem?_append_left (by have:=h.two;omega)];exact hm⟩
   · intro d k hk
     rcases get d k hk with ⟨_,hk⟩ | ⟨_,rfl⟩
     · exact h.names d k hk
     · exact hcn
   · intro d e k l hk hl hkl
     rcases get d k hk with ⟨_,hk⟩ | ⟨hd,rfl⟩ <;> rcases get e l hl with ⟨_,hl⟩ | ⟨he,rfl⟩
     · exact h.once d e k l hk hl hkl
     · exact absurd hkl (cls_none hs d k hk)
     · exact absurd hkl.symm (cls_none hs e l hl)
     · omega
   · intro d k hk hd
     rcases get d k hk with ⟨_,hk⟩ | ⟨_,rfl⟩
     · obtain ⟨b,e1,e2,e3⟩:=h.up d k hk hd
       exact ⟨b,e1,by rw [hlen];omega,by rw [tot b e2];exact e3⟩
     · exact ⟨a,rfl,by rw [hlen];omega,by rw [tot a hal];simp⟩
   · obtain ⟨r,hrb,hr⟩:=h.rank
     refine rank_bound ?_ ⟨fun d=>if d < m.kl.length then r d else m.kl.length+1,?_⟩
     · intro d k b hk hb
       rw [hlen]
       rcases get d k hk with ⟨_,hk⟩ | ⟨_,rfl⟩
       · by_cases hd0:d=0
         · obtain ⟨ms,hm⟩:=h.any
           rw [hd0,hm] at hk
           injection hk with hk
           rw [← hk] at hb
           cases hb
         · obtain ⟨b',e1,e2,_⟩:=h.up d k hk hd0
           rw [e1] at hb;injection hb with hb;omega
       · injection hb with hb;omega
     · intro d k b hk hb
       rcases get d k hk with ⟨hd,hk⟩ | ⟨hd,rfl⟩
       · have hr1:=hr d k b hk hb
         have hbl:b < m.kl.length:=by
          by_cases hd0:d=0
          · obtain ⟨ms,hm⟩:=h.any
            rw [hd0,hm] at hk
            injection hk with hk
            rw [← hk] at hb
            cases hb
          · obtain ⟨b',e1,e2,_⟩:=h.up d k hk hd0
            rw [e1] at hb;injection hb with hb;omega
         simp only [if_pos hd,if_pos hbl]
         exact hr1
       · injection hb with hb;subst hb
         have hn':¬ d < m.kl.length:=by omega
         simp only [if_pos hal,if_neg hn']
         have:=hrb a
         omega
   · intro d k hk
     rcases get d k hk with ⟨_,hk⟩ | ⟨_,rfl⟩
     · exact h.tot d k hk
     · simp;omega
   · intro d k x hk hx
     rcases get d k hk with ⟨_,hk⟩ | ⟨_,rfl⟩
     · exact h.meth d k x hk hx
     · cases hx
   · intro d k hk
     rcases get d k hk with ⟨_,hk⟩ | ⟨_,rfl⟩
     · exact h.sels d k hk
     · simp
   · intro o ho
     obtain ⟨e1,e2,e3,e4⟩:=h.obj o ho
     exact ⟨by rw [hlen];omega,e2,by rw [tot _ e1];exact e3,fun v hv=>(e4 v hv).ext ext⟩
theorem made_some {s:ByteArray}{c:Nat} (h:m.made s=some c):c≠1∧m.cls s=some c:=by
 unfold Im.made at h
 cases hc:m.cls s with
 | none=>rw [hc] at h;cases h
 | some d =>
  rw [hc] at h
  match d,h with
  | 0,h=>injection h with h;subst h;exact ⟨by decide,rfl⟩
  | 1,h=>cases h
  | d+2,h=>injection h with h;subst h;exact ⟨by omega,rfl⟩
theorem vl_zero (m:Im):VlOk m Vl.zero:=⟨by unfold isI64 Vl.zero;simp,fun h=>by cases h⟩
theorem make_ok (h:ImOk m) (s:ByteArray):ImOk (m.make s).2.2∧Ext m (m.make s).2.2∧VlOk (m.make s).2.2 (m.make s).1:=by
 unfold Im.make
 cases hc:m.made s with
 | none=>exact ⟨h,Ext.refl m,vl_zero m⟩
 | some c =>
  simp only
  by_cases h4:40≤m.obs.length
  · rw [if_pos h4];exact ⟨h,Ext.refl m,vl_zero m⟩
  · rw [if_neg h4]
    simp only
    obtain ⟨hc1,hcs⟩:=made_some hc
    obtain ⟨k,hk,_⟩:=cls_some hcs
    have hcl:c < m.kl.length:=(List.getElem?_eq_some_iff.1 hk).1
    have ext:Ext m { m with obs:=m.obs++[⟨c,List.replicate (m.tot c) Vl.zero⟩] }:=⟨Nat.le_refl _,fun _ _=>rfl,by simp,fun i o ho=>⟨o,by rw [List.getElem?_append_left (List.getElem?_eq_some_iff.1 ho).1];exact ho,rfl⟩⟩
    refine ⟨⟨h.two,h.few,h.any,h.int,h.names,h.once,h.up,h.rank,h.tot,h.meth,h.sels,by simp;omega,?_⟩,ext,?_⟩
    · intro o ho
      rcases List.mem_append.1 ho with ho | ho
      · obtain ⟨e1,e2,e3,e4⟩:=h.obj o ho
        exact ⟨e1,e2,e3,fun v hv=>(e4 v hv).ext ext⟩
      · simp at ho;subst ho
        refine ⟨hcl,hc1,by simp;rfl,fun v hv=>?_⟩
        rw [(List.mem_replicate.1 hv).2]
        exact vl_zero _
    · exact ⟨by unfold isI64;simp;omega,fun _=>Im.there_iff.2 ⟨by simp,by simp;omega⟩⟩
theorem be_ok (h:ImOk m) (n:Int) (s:ByteArray):ImOk (m.be n s).2∧Ext m (m.be n s).2:=by
 unfold Im.be
 by_cases ht:m.there n=false
 · rw [if_pos ht];exact ⟨h,Ext.refl m⟩
 rw [if_neg ht]
 cases hc:m.made s with
 | none=>exact ⟨h,Ext.refl m⟩
 | some c =>
  simp only
  cases ho:m.obs[n.toNat]? with
  | none=>exact ⟨h,Ext.refl m⟩
  | some o =>
   simp only
   by_cases hw:m.tot c≠o.slots.length
   · rw [if_pos hw];exact ⟨h,Ext.refl m⟩
   rw [if_neg hw]
   simp only
   have hw':m.tot c=o.slots.length:=Classical.byContradiction fun e=>hw e
   obtain ⟨hc1,hcs⟩:=made_some hc
   obtain ⟨k,hk,_⟩:=cls_some hcs
   have hcl:c < m.kl.length:=(List.getElem?_eq_some_iff.1 hk).1
   have hol:n.toNat < m.obs.length:=(List.getElem?_eq_some_iff.1 ho).1
   have ext:Ext m { m with obs:=m.obs.set n.toNat { o with cls:=c } }:=⟨Nat.le_refl _,fun _ _=>rfl,by simp,fun i x hx=>by
    by_cases e:n.toNat=i
    · subst e
      rw [ho] at hx;injection hx with hx;subst hx
      exact ⟨{ o with cls:=c },by simp [hol],rfl⟩
    · exact ⟨x,by simp [e];exact hx,rfl⟩⟩
   refine ⟨⟨h.two,h.few,h.any,h.int,h.names,h.once,h.up,h.rank,h.tot,h.meth,h.sels,by simp;exact h.objs,?_⟩,ext⟩
   intro x hx
   rcases List.mem_or_eq_of_mem_set hx with hx | rfl
   · obtain ⟨e1,e2,e3,e4⟩:=h.obj x hx
     exact ⟨e1,e2,e3,fun v hv=>(e4 v hv).ext ext⟩
   · obtain ⟨e1,e2,e3,e4⟩:=h.obj o (List.mem_of_getElem? ho)
     exact ⟨hcl,hc1,hw'.symm,fun v hv=>(e4 v hv).ext ext⟩
theorem ImOk.looks (h:ImOk m) (n:Nat):ImOk { m with looks:=n }:=⟨h.two,h.few,h.any,h.int,h.names,h.once,h.up,h.rank,h.tot,h.meth,h.sels,h.objs,fun o ho=>h.obj o ho⟩
theorem Ext.looks (m:Im) (n:Nat):Ext m { m with looks:=n }:=⟨Nat.le_refl _,fun _ _=>rfl,Nat.le_refl _,fun i o h=>⟨o,h,rfl⟩⟩
theorem up_some (h:ImOk m) {sel:ByteArray}:∀ (f c d:Nat) (ws:List (W×Nat)),c < m.kl.length→m.up sel f (some c)=some (d,ws)→d < m.kl.length∧m.tot d≤m.tot c∧m.own d sel=some ws
 | 0,_,_,_,_,he=>by cases he
 | f+1,c,d,ws,hc,he=>by
  unfold Im.up at he
  cases ho:m.own c sel with
  | some ws' =>
   rw [ho] at he
   simp only at he
   injection he with he
   injection he with e1 e2
   subst e1 e2
   exact ⟨hc,Nat.le_refl _,ho⟩
  | none =>
   rw [ho] at he
   simp only at he
   have hk:m.kl[c]?=some m.kl[c]:=List.getElem?_eq_getElem hc
   rw [hk] at he
   simp only [Option.bind_some] at he
   cases ha:m.kl[c].above with
   | none=>rw [ha] at he;cases f <;> cases he
   | some a =>
    rw [ha] at he
    have hc0:c≠0:=fun e=>by
     subst e
     obtain ⟨ms,hm⟩:=h.any
     rw [hm] at hk
     injection hk with hk
     rw [← hk] at ha
     cases ha
    obtain ⟨a',e1,e2,e3⟩:=h.up c _ hk hc0
    rw [ha] at e1
    injection e1 with e1
    subst e1
    obtain ⟨r1,r2,r3⟩:=up_some h f a d ws e2 he
    exact ⟨r1,Nat.le_trans r2 (by rw [tot_of hk];exact e3),r3⟩
def FsOk (m:Im):List Fr→Prop
 | []=>False
 | f::r=>FrOk m 0 f∧∀ g∈r,FrOk m 1 g
def Go1.Ok:Go1→Prop
 | .on m fuel fs=>ImOk m∧FsOk m fs∧fs.length≤32
 | .told m v=>ImOk m∧VlOk m v
 | .stop m _=>ImOk m
theorem send_ok (h:ImOk m) (fuel:Nat) (frm:Option Nat) (to:Vl) (sel:ByteArray) (args:List Vl) (fs:List Fr) (hto:VlOk m to) (hargs:∀ v∈args,VlOk m v) (hl:args.length≤3) (hs:selector (bl sel)=true→args.length=argsOf (bl sel))
 (hf:∀ c,frm=some c→c < m.kl.length∧m.tot c≤m.width to) (hfs:∀ g∈fs,FrOk m 1 g) (h32:fs.length≤32):(m.send fuel frm to sel args fs).Ok:=by
 have new:∀ (n d:Nat) (ws:List (W×Nat)) (az:List Vl) (sl:ByteArray),m.find sl frm=some (d,ws)→(selector (bl sl)=true→az.length=argsOf (bl sl))→(∀ v∈az,VlOk m v)→az.length≤3→¬ 32≤fs.length →
  (Go1.on { m with looks:=n } fuel (⟨ws,d,to,az,0,[]⟩::fs)).Ok:=by
  intro n d ws az sl hfind hal hav has h3
  cases frm with
  | none=>unfold Im.find at hfind;cases hm:m.kl.length+1 <;> rw [hm] at hfind <;> cases hfind
  | some c =>
   obtain ⟨hc,hw⟩:=hf c rfl
   obtain ⟨r1,r2,r3⟩:=up_some h _ c d ws hc hfind
   have hg:=own_good h r3
   refine ⟨h.looks n,⟨⟨r1,hto.ext (Ext.looks m n),fun v hv=>(hav v hv).ext (Ext.looks m n),has,by rw [hal hg.1];exact hg.2,Nat.le_trans r2 hw,fun v hv=>(by cases hv),reach_start ws⟩,fun g hg=>(hfs g hg).ext (Ext.looks m n)⟩,?_⟩
   simp only [List.length_cons]
   omega
 unfold Im.send
 cases hfd:m.find sel frm with
 | some p =>
  obtain ⟨d,ws⟩:=p
  simp only
  by_cases h3:32≤fs.length
  · rw [if_pos h3];exact h.looks _
  · rw [if_neg h3];exact new _ d ws args sel hfd hs hargs hl h3
 | none =>
  simp only
  cases hdn:m.find nmDnu frm with
  | some p =>
   obtain ⟨d,ws⟩:=p
   simp only
   by_cases h3:32≤fs.length
   · rw [if_pos h3];exact h.looks _
   · rw [if_neg h3]
     refine new _ d ws [⟨false,args.length⟩] nmDnu hdn (fun _=>(show (1:Nat)=argsOf (bl nmDnu) from by decide)) (fun v hv=>?_) (by simp) h3
     simp at hv;subst hv
     exact ⟨by unfold isI64;simp;omega,fun e=>by cases e⟩
  | none=>exact h.looks _
theorem adv {x:W×Nat}{t:Int}{d:Nat}{st':List Vl} (h:FrOk m 0 f) (he:Ext m m') (hx:f.ws[f.pc]?=some x) (ht:t∈goesOf x.1.k x.1.n f.pc)
 (hl:st'.length+d=f.st.length - (takesOf x.1.k x.1.n).1.toNat+(takesOf x.1.k x.1.n).2.toNat) (hv:∀ v∈st',VlOk m' v):FrOk m' d { f with pc:=t.toNat,st:=st' }:=by
 have h':=h.ext he
 have hlt:f.pc < f.ws.length:=(List.getElem?_eq_some_iff.1 hx).1
 have hw:wAt f.ws f.pc=x.1:=by unfold wAt;rw [hx];rfl
 have hr:Reach f.ws f.pc f.st.length:=h.at_
 have hok:=good_ok h.good hlt hr
 have hs:=reach_step hlt hr hok (i:=t.toNat) (by unfold tg;rw [hw];exact List.mem_map.2 ⟨t,ht,rfl⟩)
 refine ⟨h'.home,h'.self,h'.args,h'.few,h'.good,h'.wide,hv,?_⟩
 show Reach f.ws t.toNat (st'.length+d)
 rw [hl]
 unfold nx tk ly at hs
 rw [hw] at hs
 exact hs
theorem has_st {x:W×Nat} (h:FrOk m 0 f) (hx:f.ws[f.pc]?=some x):(takesOf x.1.k x.1.n).1.toNat≤f.st.length:=by
 have hlt:f.pc < f.ws.length:=(List.getElem?_eq_some_iff.1 hx).1
 have hw:wAt f.ws f.pc=x.1:=by unfold wAt;rw [hx];rfl
 have hok:=good_ok h.good hlt h.at_
 unfold okAt tk at hok
 rw [hw] at hok
 exact hok.1
theorem adv1 {x:W×Nat}{d:Nat}{st':List Vl} (h:FrOk m 0 f) (he:Ext m m') (hx:f.ws[f.pc]?=some x) (ht:((f.pc:Int)+1)∈goesOf x.1.k x.1.n f.pc)
 (hl:st'.length+d=f.st.length - (takesOf x.1.k x.1.n).1.toNat+(takesOf x.1.k x.1.n).2.toNat) (hv:∀ v∈st',VlOk m' v):FrOk m' d { f with pc:=f.pc+1,st:=st' }:=by
 have:=adv h he hx ht hl hv
 have e:((f.pc:Int)+1).toNat=f.pc+1:=by omega
 rw [e] at this
 exact this
theorem store_ok (h:ImOk m) (i j:Nat) (v:Vl) (hv:VlOk m v):ImOk { m with obs:=m.obs.modify i (fun o=>{ o with slots:=o.slots.set j v }) }∧Ext m { m with obs:=m.obs.modify i (fun o=>{ o with slots:=o.slots.set j v }) }:=by
 have ext:Ext m { m with obs:=m.obs.modify i (fun o=>{ o with slots:=o.slots.set j v }) }:=⟨Nat.le_refl _,fun _ _=>rfl,by simp,fun k o ho=>by
  by_cases e:i=k
  · subst e
    exact ⟨{ o with slots:=o.slots.set j v },by simp [List.getElem?_modify,ho],by simp⟩
  · exact ⟨o,by simp [List.getElem?_modify,e,ho],rfl⟩⟩
 refine ⟨⟨h.two,h.few,h.any,h.int,h.names,h.once,h.up,h.rank,h.tot,h.meth,h.sels,by simp;exact h.objs,fun o ho=>?_⟩,ext⟩
 obtain ⟨k,hk⟩:=List.mem_iff_getElem?.1 ho
 rw [List.getElem?_modify] at hk
 cases hko:m.obs[k]? with
 | none=>rw [hko] at hk;simp at hk
 | some o0 =>
  obtain ⟨e1,e2,e3,e4⟩:=h.obj o0 (List.mem_of_getElem? hko)
  rw [hko] at hk
  by_cases e:i=k
  · simp [e] at hk
    subst hk
    refine ⟨e1,e2,by simp;exact e3,fun y hy=>?_⟩
    rcases List.mem_or_eq_of_mem_set hy with hy | rfl
    · exact (e4 y hy).ext ext
    · exact hv.ext ext
  · simp [e] at hk
    subst hk
    exact ⟨e1,e2,e3,fun y hy=>(e4 y hy).ext ext⟩
theorem wrap_i64_ok (n:Int):isI64 (wrap64 n):=by
 unfold isI64 wrap64
 rw [IntKind.wrap_i64]
 omega
theorem num_ok (m:Im) {n:Int} (h:isI64 n):VlOk m ⟨false,n⟩:=⟨h,fun e=>by cases e⟩
theorem b2v_ok (m:Im) (b:Bool):VlOk m (b2v b):=by
 unfold b2v
 cases b <;> exact num_ok m (by unfold isI64;simp)
variable {fs : List Fr}
theorem on_ok {fuel:Nat}{f':Fr} (h:ImOk m') (he:Ext m m') (hf:FrOk m' 0 f') (hfs:∀ g∈fs,FrOk m 1 g) (hl:fs.length+1≤32):(Go1.on m' fuel (f'::fs)).Ok :=
 ⟨h,⟨hf,fun g hg=>(hfs g hg).ext he⟩,by simpa using hl⟩
theorem tell_ok {fuel:Nat}{v:Vl} (h:ImOk m) (hv:VlOk m v) (hfs:∀ g∈fs,FrOk m 1 g) (hl:fs.length≤32):(tellTo m fuel v fs).Ok:=by
 cases fs with
 | nil=>exact ⟨h,hv⟩
 | cons f r =>
  have hf:=hfs f (by simp)
  refine ⟨h,⟨⟨hf.home,hf.self,hf.args,hf.few,hf.good,hf.wide,fun y hy=>?_,?_⟩,fun g hg=>hfs g (by simp [hg])⟩,by simpa using hl⟩
  · rcases List.mem_cons.1 hy with rfl | hy
    · exact hv
    · exact hf.st y hy
  · have:=hf.at_
    simpa using this
theorem arg_there {x:W×Nat} (h:FrOk m 0 f) (hx:f.ws[f.pc]?=some x) (hk:x.1.k=97):x.1.n < f.args.length:=by
 have hlt:f.pc < f.ws.length:=(List.getElem?_eq_some_iff.1 hx).1
 have hw:wAt f.ws f.pc=x.1:=by unfold wAt;rw [hx];rfl
 have hn:=h.good.num f.pc hlt
 unfold NumBad argBad at hn
 rw [hw] at hn
 exact Int.not_le.1 fun e=>hn (.inl (.inl ⟨hk,e⟩))
theorem of_class (h:ImOk m) {v:Vl} (hv:VlOk m v):∀ c,m.of v=some c→c < m.kl.length∧m.tot c≤m.width v:=by
 intro c hc
 unfold Im.of at hc
 cases ho:v.obj with
 | false =>
  rw [ho] at hc
  simp at hc
  subst hc
  obtain ⟨ms,hm⟩:=h.int
  exact ⟨by have:=h.two;omega,by rw [tot_of hm];exact Nat.zero_le _⟩
 | true =>
  rw [ho] at hc
  simp only [if_true] at hc
  cases hob:m.obs[v.n.toNat]? with
  | none=>rw [hob] at hc;cases hc
  | some o =>
   rw [hob] at hc
   simp at hc
   subst hc
   obtain ⟨e1,e2,e3,e4⟩:=h.obj o (List.mem_of_getElem? hob)
   refine ⟨e1,?_⟩
   unfold Im.width
   rw [ho,hob]
   simp [e3]
theorem above_class (h:ImOk m) (hf:FrOk m 0 f):∀ c,m.kl[f.home]?.bind (·.above)=some c→c < m.kl.length∧m.tot c≤m.width f.self:=by
 intro c hc
 have hh:=hf.home
 have hk:m.kl[f.home]?=some m.kl[f.home]:=List.getElem?_eq_getElem hf.home
 rw [hk] at hc
 simp only [Option.bind_some] at hc
 have h0:f.home≠0:=fun e=>by
  obtain ⟨ms,hm⟩:=h.any
  rw [← e] at hm
  rw [hm] at hk
  injection hk with hk
  rw [← hk] at hc
  cases hc
 obtain ⟨a,e1,e2,e3⟩:=h.up f.home _ hk h0
 rw [hc] at e1
 injection e1 with e1
 subst e1
 exact ⟨e2,Nat.le_trans e3 (by have:=hf.wide;rw [tot_of hk] at this;exact this)⟩
theorem word_ok (h:ImOk m) {x:W×Nat} (hf:FrOk m 0 f) (hfs:∀ g∈fs,FrOk m 1 g) (h32:fs.length+1≤32) (hx:f.ws[f.pc]?=some x) (fuel:Nat):(wordM m fuel x.1 { f with pc:=f.pc+1 } fs).Ok:=by
 have hfine:=hf.good.fine f.pc x hx
 have hshp:=hf.good.shp f.pc x hx
 have hst:=has_st hf hx
 have hkd:=hfine.kind
 obtain ⟨⟨k,n,sl,xa,xb⟩,xi⟩:=x
 simp only at hkd hst
 have a1:∀ {m':Im}{d:Nat}{st':List Vl},Ext m m'→((f.pc:Int)+1)∈goesOf k n f.pc→st'.length+d=f.st.length - (takesOf k n).1.toNat+(takesOf k n).2.toNat→(∀ v∈st',VlOk m' v)→FrOk m' d { f with pc:=f.pc+1,st:=st' }:=fun he ht hl hv=>adv1 hf he hx ht hl hv
 simp only [kinds,List.mem_cons,List.not_mem_nil,or_false] at hkd
 unfold wordM
 rcases hkd with rfl | rfl | rfl | rfl | rfl | rfl | rfl | rfl | rfl | rfl | rfl | rfl | rfl | rfl | rfl | rfl | rfl | rfl | rfl | rfl | rfl | rfl
 -- a number
 · simp only [reduceIte,Nat.reduceEqDiff,or_self,or_false,false_or]
   refine on_ok h (Ext.refl m) (a1 (Ext.refl m) (by simp [goesOf]) (by simp [takesOf]) (fun v hv=>?_)) hfs h32
   rcases List.mem_cons.1 hv with rfl | hv
   · exact num_ok m (by have:=hfine.lo;have:=hfine.hi;unfold isI64;simp only at *;omega)
   · exact hf.st v hv
 -- self
 · simp only [reduceIte,Nat.reduceEqDiff,or_self,or_false,false_or]
   refine on_ok h (Ext.refl m) (a1 (Ext.refl m) (by simp [goesOf]) (by simp [takesOf]) (fun v hv=>?_)) hfs h32
   rcases List.mem_cons.1 hv with rfl | hv
   · exact hf.self
   · exact hf.st v hv
 -- an argument
 · simp only [reduceIte,Nat.reduceEqDiff,or_self,or_false,false_or]
   refine on_ok h (Ext.refl m) (a1 (Ext.refl m) (by simp [goesOf]) (by simp [takesOf]) (fun v hv=>?_)) hfs h32
   rcases List.mem_cons.1 hv with rfl | hv
   · have ha:=arg_there hf hx rfl
     cases hg:f.args[n.toNat]? with
     | none=>exact vl_zero m
     | some y=>exact hf.args y (List.mem_of_getElem? hg)
   · exact hf.st v hv
 -- a slot
 · simp only [reduceIte,Nat.reduceEqDiff,or_self,or_false,false_or]
   refine on_ok h (Ext.refl m) (a1 (Ext.refl m) (by simp [goesOf]) (by simp [takesOf]) (fun v hv=>?_)) hfs h32
   rcases List.mem_cons.1 hv with rfl | hv
   · cases hg:(m.obs[f.self.n.toNat]?).bind (fun o=>o.slots[n.toNat]?) with
     | none=>exact vl_zero m
     | some y =>
      cases ho:m.obs[f.self.n.toNat]? with
      | none=>rw [ho] at hg;cases hg
      | some o =>
       rw [ho] at hg
       exact (h.obj o (List.mem_of_getElem? ho)).2.2.2 y (List.mem_of_getElem? hg)
   · exact hf.st v hv
 -- new
 · simp only [reduceIte,Nat.reduceEqDiff,or_self,or_false,false_or,or_true,true_or]
   have hm:=make_ok h (ofL xa)
   rcases hmk:m.make (ofL xa) with ⟨v,e,m'⟩
   rw [hmk] at hm
   simp only at hm ⊢
   by_cases he:e=0
   · rw [if_pos he]
     refine on_ok hm.1 hm.2.1 (a1 hm.2.1 (by simp [goesOf]) (by simp [takesOf]) (fun y hy=>?_)) hfs h32
     rcases List.mem_cons.1 hy with rfl | hy
     · exact hm.2.2
     · exact (hf.st y hy).ext hm.2.1
   · rw [if_neg he];exact hm.1
 -- a store
 · simp only [reduceIte,Nat.reduceEqDiff,or_self,or_false,false_or,or_true,true_or]
   split
   · rename_i v r hs
     have hso:=store_ok h f.self.n.toNat n.toNat v (hf.st v (by rw [hs];simp))
     exact on_ok hso.1 hso.2 (a1 hso.2 (by simp [goesOf]) (by simp [takesOf,hs]) (fun y hy=>(hf.st y (by rw [hs];simp [hy])).ext hso.2)) hfs h32
   · exact h
 -- pop
 · simp only [reduceIte,Nat.reduceEqDiff,or_self,or_false,false_or,or_true,true_or]
   exact on_ok h (Ext.refl m) (a1 (Ext.refl m) (by simp [goesOf]) (by simp [takesOf]) (fun y hy=>hf.st y (List.mem_of_mem_drop hy))) hfs h32
 -- if zero
 · simp only [reduceIte,Nat.reduceEqDiff,or_self,or_false,false_or,or_true,true_or]
   split
   · rename_i v r hs
     by_cases hv:v.obj=true
     · rw [if_pos hv];exact h
     · rw [if_neg hv]
       refine on_ok h (Ext.refl m) ?_ hfs h32
       by_cases hz:v.n=0
       · simp only [if_pos hz]
         exact adv hf (Ext.refl m) hx (by simp [goesOf]) (by simp [takesOf,hs]) (fun y hy=>hf.st y (by rw [hs];simp [hy]))
       · simp only [if_neg hz]
         exact a1 (Ext.refl m) (by simp [goesOf]) (by simp [takesOf,hs]) (fun y hy=>hf.st y (by rw [hs];simp [hy]))
   · exact h
 -- ret
 · simp only [reduceIte,Nat.reduceEqDiff,or_self,or_false,false_or,or_true,true_or]
   split
   · rename_i v r hs
     exact tell_ok h (hf.st v (by rw [hs];simp)) hfs (by omega)
   · exact h
 -- plus
 · simp only [reduceIte,Nat.reduceEqDiff,or_self,or_false,false_or,or_true,true_or]
   split
   · rename_i b a r hs
     by_cases ho:(a.obj||b.obj)=true
     · rw [if_pos ho];exact h
     · rw [if_neg ho]
       refine on_ok h (Ext.refl m) (a1 (Ext.refl m) (by simp [goesOf]) (by simp [takesOf,hs]) (fun y hy=>?_)) hfs h32
       rcases List.mem_cons.1 hy with rfl | hy
       · exact num_ok m (wrap_i64_ok _)
       · exact hf.st y (by rw [hs];simp [hy])
   · exact h
 -- minus
 · simp only [reduceIte,Nat.reduceEqDiff,or_self,or_false,false_or,or_true,true_or]
   split
   · rename_i b a r hs
     by_cases ho:(a.obj||b.obj)=true
     · rw [if_pos ho];exact h
     · rw [if_neg ho]
       refine on_ok h (Ext.refl m) (a1 (Ext.refl m) (by simp [goesOf]) (by simp [takesOf,hs]) (fun y hy=>?_)) hfs h32
       rcases List.mem_cons.1 hy with rfl | hy
       · exact num_ok m (wrap_i64_ok _)
       · exact hf.st y (by rw [hs];simp [hy])
   · exact h
 -- times
 · simp only [reduceIte,Nat.reduceEqDiff,or_self,or_false,false_or,or_true,true_or]
   split
   · rename_i b a r hs
     by_cases ho:(a.obj||b.obj)=true
     · rw [if_pos ho];exact h
     · rw [if_neg ho]
       refine on_ok h (Ext.refl m) (a1 (Ext.refl m) (by simp [goesOf]) (by simp [takesOf,hs]) (fun y hy=>?_)) hfs h32
       rcases List.mem_cons.1 hy with rfl | hy
       · exact num_ok m (wrap_i64_ok _)
       · exact hf.st y (by rw [hs];simp [hy])
   · exact h
 -- less
 · simp only [reduceIte,Nat.reduceEqDiff,or_self,or_false,false_or,or_true,true_or]
   split
   · rename_i b a r hs
     by_cases ho:(a.obj||b.obj)=true
     · rw [if_pos ho];exact h
     · rw [if_neg ho]
       refine on_ok h (Ext.refl m) (a1 (Ext.refl m) (by simp [goesOf]) (by simp [takesOf,hs]) (fun y hy=>?_)) hfs h32
       rcases List.mem_cons.1 hy with rfl | hy
       · exact b2v_ok m _
       · exact hf.st y (by rw [hs];simp [hy])
   · exact h
 -- same
 · simp only [reduceIte,Nat.reduceEqDiff,or_self,or_false,false_or,or_true,true_or]
   split
   · rename_i b a r hs
     refine on_ok h (Ext.refl m) (a1 (Ext.refl m) (by simp [goesOf]) (by simp [takesOf,hs]) (fun y hy=>?_)) hfs h32
     rcases List.mem_cons.1 hy with rfl | hy
     · exact b2v_ok m _
     · exact hf.st y (by rw [hs];simp [hy])
   · exact h
 -- dup
 · simp only [reduceIte,Nat.reduceEqDiff,or_self,or_false,false_or,or_true,true_or]
   split
   · rename_i v r hs
     refine on_ok h (Ext.refl m) (a1 (Ext.refl m) (by simp [goesOf]) (by simp [takesOf,hs]) (fun y hy=>?_)) hfs h32
     rcases List.mem_cons.1 hy with hy | hy
     · rw [hy];exact hf.st v (by rw [hs];simp)
     · exact hf.st y (by rw [hs];exact hy)
   · exact h
 -- a send
 · simp only [reduceIte,Nat.reduceEqDiff,or_self,or_false,false_or,or_true,true_or]
   obtain ⟨hn0,hn3⟩:=hfine.send (.inl rfl)
   obtain ⟨hse,hna⟩:=hshp.send (.inl rfl)
   simp only at hn0 hn3 hse hna
   have htk:(takesOf 115 n).1.toNat=n.toNat+1:=by simp [takesOf];omega
   have hly:(takesOf 115 n).2.toNat=1:=by simp [takesOf]
   rw [htk] at hst
   split
   · rename_i to r hs
     have hlen:(f.st.drop n.toNat).length=r.length+1:=by rw [hs];rfl
     rw [List.length_drop] at hlen
     refine send_ok h fuel _ to _ _ _ (hf.st to (List.mem_of_mem_drop (by rw [hs];simp))) (fun v hv=>hf.st v (List.mem_of_mem_take (List.mem_reverse.1 hv))) (by simp;omega) (fun _=>by rw [show bl (ofL sl)=sl from rfl];simp;omega) (of_class h (hf.st to (List.mem_of_mem_drop (by rw [hs];simp)))) (fun g hg=>?_) (by simpa using h32)
     rcases List.mem_cons.1 hg with rfl | hg
     · exact a1 (Ext.refl m) (by simp [goesOf]) (by rw [htk,hly];omega) (fun y hy=>hf.st y (List.mem_of_mem_drop (by rw [hs];simp [hy])))
     · exact hfs g hg
   · exact h
 -- a send upwards
 · simp only [reduceIte,Nat.reduceEqDiff,or_self,or_false,false_or,or_true,true_or]
   obtain ⟨hn0,hn3⟩:=hfine.send (.inr rfl)
   obtain ⟨hse,hna⟩:=hshp.send (.inr rfl)
   simp only at hn0 hn3 hse hna
   have htk:(takesOf 94 n).1.toNat=n.toNat:=by simp [takesOf]
   have hly:(takesOf 94 n).2.toNat=1:=by simp [takesOf]
   rw [htk] at hst
   refine send_ok h fuel _ f.self _ _ _ hf.self (fun v hv=>hf.st v (List.mem_of_mem_take (List.mem_reverse.1 hv))) (by simp;omega) (fun _=>by rw [show bl (ofL sl)=sl from rfl];simp;omega) (above_class h hf) (fun g hg=>?_) (by simpa using h32)
   rcases List.mem_cons.1 hg with rfl | hg
   · exact a1 (Ext.refl m) (by simp [goesOf]) (by rw [htk,hly,List.length_drop]) (fun y hy=>hf.st y (List.mem_of_mem_drop hy))
   · exact hfs g hg
 -- be
 · simp only [reduceIte,Nat.reduceEqDiff,or_self,or_false,false_or,or_true,true_or]
   split
   · rename_i v r hs
     by_cases hv:v.obj=true
     · rw [if_pos hv]
       have hb:=be_ok h v.n (ofL xa)
       rcases hbe:m.be v.n (ofL xa) with ⟨e,m'⟩
       rw [hbe] at hb
       simp only at hb ⊢
       by_cases he:e=0
       · rw [if_pos he]
         exact on_ok hb.1 hb.2 (a1 hb.2 (by simp [goesOf]) (by simp [takesOf,hs]) (fun y hy=>(hf.st y hy).ext hb.2)) hfs h32
       · rw [if_neg he];exact hb.1
     · rw [if_neg hv];exact h
   · exact h
 -- goto
 · simp only [reduceIte,Nat.reduceEqDiff,or_self,or_false,false_or,or_true,true_or]
   exact on_ok h (Ext.refl m) (adv hf (Ext.refl m) hx (by simp [goesOf]) (by simp [takesOf]) hf.st) hfs h32
 -- drop
 · simp only [reduceIte,Nat.reduceEqDiff,or_self,or_false,false_or,or_true,true_or]
   have hb:=drop_ok h (ofL xa) (ofL sl)
   rcases hbe:m.drop (ofL xa) (ofL sl) with ⟨e,m'⟩
   rw [hbe] at hb
   simp only at hb ⊢
   by_cases he:e=0
   · rw [if_pos he]
     exact on_ok hb.1 hb.2 (a1 hb.2 (by simp [goesOf]) (by simp [takesOf]) (fun y hy=>(hf.st y hy).ext hb.2)) hfs h32
   · rw [if_neg he];exact hb.1
 -- move
 · simp only [reduceIte,Nat.reduceEqDiff,or_self,or_false,false_or,or_true,true_or]
   have hb:=move_ok h (ofL xa) (ofL xb)
   rcases hbe:m.move (ofL xa) (ofL xb) with ⟨e,m'⟩
   rw [hbe] at hb
   simp only at hb ⊢
   by_cases he:e=0
   · rw [if_pos he]
     exact on_ok hb.1 hb.2 (a1 hb.2 (by simp [goesOf]) (by simp [takesOf]) (fun y hy=>(hf.st y hy).ext hb.2)) hfs h32
   · rw [if_neg he];exact hb.1
 -- copy
 · simp only [reduceIte,Nat.reduceEqDiff,or_self,or_false,false_or,or_true,true_or]
   have hb:=copy_ok h (ofL xa) (ofL sl) (ofL xb)
   rcases hbe:m.copy (ofL xa) (ofL sl) (ofL xb) with ⟨e,m'⟩
   rw [hbe] at hb
   simp only at hb ⊢
   by_cases he:e=0
   · rw [if_pos he]
     exact on_ok hb.1 hb.2 (a1 hb.2 (by simp [goesOf]) (by simp [takesOf]) (fun y hy=>(hf.st y hy).ext hb.2)) hfs h32
   · rw [if_neg he];exact hb.1
theorem step_ok {fuel:Nat} (h:(Go1.on m fuel fs).Ok):(stepM m fuel fs).Ok:=by
 obtain ⟨hm,hfs,hl⟩:=h
 match fs,hfs,hl with
 | f::r,hfs,hl =>
  cases hx:f.ws[f.pc]? with
  | none =>
   simp only [stepM,hx]
   exact tell_ok hm hfs.1.self hfs.2 (by simp at hl;omega)
  | some x =>
   cases fuel with
   | zero=>simp only [stepM,hx];exact hm
   | succ fuel=>simp only [stepM,hx];exact word_ok hm hfs.1 hfs.2 (by simpa using hl) hx fuel
end Kn
