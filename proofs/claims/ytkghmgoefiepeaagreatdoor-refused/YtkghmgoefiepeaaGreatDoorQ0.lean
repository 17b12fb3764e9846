import Derived.Deep.RegionHeld3
import Derived.WalkKit
import Derived.ProofKit
import Derived.ChangeMaps5
import Derived.Below
import Derived.Carry
import Derived.OwnWalk
import Derived.ScopeJumps
import Derived.WalkMore
import Derived.LaidEql
import Derived.ChangeKeysEq
import Derived.Maps.RangeRun
set_option linter.unusedSimpArgs false
set_option linter.unusedVariables false
set_option maxHeartbeats 4000000
set_option maxRecDepth 100000
namespace Go
section
variable {P : Program} {md : Region.Mode} {ops : Array Oper} {Q : Exit → Act → World → Prop} {S : World → Prop}
theorem tkH (i:Nat) {oi:Oper}{v:Value}{fuel:Nat}{listed:Array Bool}{a:Act}{w:World}
 (h:wpAnyH P md ops Q S fuel (listed.setIfInBounds i true) (a.put oi.dst v) w)
 (hi:ops[i]?=some oi:=by rfl) (hs:Region.noSelect ops=true:=by kernel_rfl) (hf:Region.free md ops listed i=true:=by kernel_rfl) (hr:(Region.ready md ops listed).contains i=true:=by kernel_rfl)
 (hQ:∀ c a w,Q (.panic c) (a.put oi.dst v) w→Q (.panic c) a w:=by exact fun _ _ _ h=>h) (hw:Region.wanted oi (yielded ops a.tmps)=true:=by rfl)
 (hy:∀ w,S w→(execOp a.eval oi).run P w=.ok (.value v) w:=by intro w hSw;(try dsimp only at hSw);go_simp <;> with_reducible rfl) (hS:S w:=by assumption):wpAnyH P md ops Q S (fuel+1) listed a w :=
 wpAnyH_take hi hs hf hr hQ (Or.inl ⟨hw,hy⟩) hS h
theorem tkL (i:Nat) {oi:Oper}{v:Value}{fuel:Nat}{listed:Array Bool}{a a':Act}{w:World}
 (h:wpAnyH P md ops Q S fuel (listed.setIfInBounds i true) a' w)
 (hi:ops[i]?=some oi:=by rfl) (hs:Region.noSelect ops=true:=by kernel_rfl) (hf:Region.free md ops listed i=true:=by kernel_rfl) (hr:(Region.ready md ops listed).contains i=true:=by kernel_rfl)
 (hQ:∀ c a w,Q (.panic c) (a.put oi.dst v) w→Q (.panic c) a w:=by exact fun _ _ _ h=>h) (hw:Region.wanted oi (yielded ops a.tmps)=true:=by rfl)
 (hy:∀ w,S w→(execOp a.eval oi).run P w=.ok (.value v) w:=by intro w hSw;(try dsimp only at hSw);go_simp <;> with_reducible rfl) (hS:S w:=by assumption)
 (he:a.put oi.dst v=a':=by simp only [Act.put,List.getElem_toArray,List.getElem_cons_zero,List.getElem_cons_succ,List.setIfInBounds_toArray,List.set_cons_zero,List.set_cons_succ];rfl):wpAnyH P md ops Q S (fuel+1) listed a w :=
 wpAnyH_take hi hs hf hr hQ (Or.inl ⟨hw,hy⟩) hS (he ▸ h)
theorem rdH (i:Nat) {o:Oper}{fuel:Nat}{listed:Array Bool}{a:Act}{w:World}
 (h:∀ K':Act→World→Prop,Shut (∀ a w,S w→(S w→wpAnyH P md ops Q S fuel (listed.setIfInBounds i true) a w)→K' a w)→if Region.wanted o (yielded ops a.tmps)=true then Oper.wp P o a w K' Q else K' (a.put o.dst undef) w)
 (hr:Region.ready md ops listed=[i]:=by kernel_rfl) (ho:ops[i]?=some o:=by rfl):wpAnyH P md ops Q S (fuel+1) listed a w :=
 wpAnyH_ready hr (by simp) (AllReadyH.cons ho h AllReadyH.nil)
theorem Shut.go {X K:Act→World→Prop} (k:Shut (∀ a w,S w→(S w→X a w)→K a w)) {a:Act}{w:World} (h:S w→X a w) (hs:S w:=by go_keep):K a w:=k.out a w hs h
theorem lyH {fuel:Nat}{listed:Array Bool}{a a':Act}{w:World} (h:wpAnyH P md ops Q S fuel listed a' w)
 (he:a=a':=by simp only [Act.put,List.getElem_toArray,List.getElem_cons_zero,List.getElem_cons_succ,List.setIfInBounds_toArray,List.set_cons_zero,List.set_cons_succ];rfl):wpAnyH P md ops Q S fuel listed a w:=he ▸ h
end
end Go
namespace Kn
open Go Go.RowKit
theorem beq_ba (a b:ByteArray):(a==b)=true ↔ a=b:=by
 cases a with | mk a=>cases b with | mk b =>
 have e:((⟨a⟩:ByteArray)==⟨b⟩)=(a==b):=rfl
 rw [e,beq_iff_eq]
 exact ⟨fun h=>by rw [h],fun h=>by injection h⟩
theorem beq_ba_false (a b:ByteArray):(a==b)=false ↔ a≠b:=by
 rw [Ne,← beq_ba a b,Bool.not_eq_true]
theorem beq_ba_self (a:ByteArray):(a==a)=true:=(beq_ba a a).2 rfl
def Holds (es:Array MapEntry) (l:List (ByteArray×Value)):Prop:=es.toList.map (fun e=>(e.key,e.val))=l.map (fun p=>(Value.string p.1,p.2))
def StrMap (w:World) (b:Nat) (l:List (ByteArray×Value)):Prop:=∃ es clock,w.heap[b]?=some (.map es clock)∧Holds es l
def put:List (ByteArray×Value)→ByteArray→Value→List (ByteArray×Value)
 | [],s,v=>[(s,v)]
 | (k,x)::r,s,v=>if s==k then (s,v)::r else (k,x)::put r s v
theorem holds_cons {e:MapEntry}{es:List MapEntry}{l:List (ByteArray×Value)} (h:(e::es).map (fun e=>(e.key,e.val))=l.map (fun p=>(Value.string p.1,p.2))) :
 ∃ k v r,l=(k,v)::r∧e.key=.string k∧e.val=v∧es.map (fun e=>(e.key,e.val))=r.map (fun p=>(Value.string p.1,p.2)):=by
 cases l with
 | nil=>simp at h
 | cons p r =>
  simp only [List.map_cons,List.cons.injEq,Prod.mk.injEq] at h
  exact ⟨p.1,p.2,r,rfl,h.1.1,h.1.2,h.2⟩
theorem findNow_str (s:ByteArray):∀ (es:List MapEntry) (l:List (ByteArray×Value)) (i:Nat),es.map (fun e=>(e.key,e.val))=l.map (fun p=>(Value.string p.1,p.2)) →
 (l.lookup s=none∧Instr.findNow .string (.string s) es i=some none∧put l s=fun v=>l++[(s,v)]) ∨
 (∃ j v,l.lookup s=some v∧Instr.findNow .string (.string s) es i=some (some (i+j,v))∧(es[j]?).map (·.key)=some (.string s)∧put l s=fun x=>l.set j (s,x))
 | [],l,i,h=>by
  cases l with
  | nil=>left;exact ⟨rfl,rfl,by funext v;rfl⟩
  | cons p r=>simp at h
 | e::es,l,i,h=>by
  obtain ⟨k,v,r,rfl,hk,hv,hr⟩:=holds_cons h
  cases hs:(s==k) with
  | true =>
   right
   refine ⟨0,v,by simp [List.lookup,hs],by simp [Instr.findNow,hk,Instr.sameNow,hs,hv],?_,?_⟩
   · have e:s=k:=(beq_ba s k).1 hs
     simp [hk,e]
   · funext x;simp [put,hs]
  | false =>
   rcases findNow_str s es r (i+1) hr with ⟨h1,h2,h3⟩ | ⟨j,x,h1,h2,h3,h4⟩
   · left
     refine ⟨by simp [List.lookup,hs,h1],by simp [Instr.findNow,hk,Instr.sameNow,hs,h2],?_⟩
     funext v;simp [put,hs,h3]
   · right
     refine ⟨j+1,x,by simp [List.lookup,hs,h1],by simp [Instr.findNow,hk,Instr.sameNow,hs,h2];omega,by simpa using h3,?_⟩
     funext v;simp [put,hs,h4]
theorem key_str (s:ByteArray):MapKept.IsKey .string (.string s):=by simp [MapKept.IsKey]
variable {w : World}
theorem run_lookup {P:Program}{b:Nat}{l:List (ByteArray×Value)} (h:StrMap w b l) {t k e:TypeId} (ht:P.underlying t=some (.map k e)) (hk:P.underlying k=some .string) {z:Value}
 (hz:(zeroValue e).run P w=.ok z w) (s:ByteArray):(Instr.lookup t (.map (some b)) (.string s) false).run P w=.ok ((l.lookup s).getD z) w:=by
 obtain ⟨es,clock,hb,hl⟩:=h
 rcases findNow_str s es.toList l 0 hl with ⟨h1,h2,_⟩ | ⟨j,x,h1,h2,_,_⟩
 · simp [Instr.lookup,run_underlying ht,MapKept.run_getObj_map hb,MapKept.run_checkKey hk (key_str s),MapKept.run_findKey hk h2,Result.andThen,h1,hz]
 · simp [Instr.lookup,run_underlying ht,MapKept.run_getObj_map hb,MapKept.run_checkKey hk (key_str s),MapKept.run_findKey hk h2,Result.andThen,h1]
theorem StrMap.lt {b:Nat}{l:List (ByteArray×Value)} (h:StrMap w b l):b < w.heap.size:=by
 obtain ⟨es,clock,hb,_⟩:=h
 exact (Array.getElem?_eq_some_iff.1 hb).1
theorem push_below {w wr w1:World}{B:Nat}{e:TypeId}{size n:Nat}{v:Value}{xs:List Value}{o:Obj} (hb:Below B w wr) (hB:B≤w.heap.size) (hown:wr.ownsRow B e size v n xs)
 (hg:(wr.alloc o).grownBy w1 v.ownBlock):Below B w w1 :=
 (hb.alloc (Nat.le_trans hB hb.size) o).grown hg (by have:=hb.size;simp only [World.size_alloc];omega) (fun k hk=>(hown.lt k hk).1)
theorem cells_laid (w:World) (xs:List Value) (e:TypeId):∀ j u,xs[j]?=some u→(w.alloc (.cells xs.toArray e)).cell? ((⟨w.heap.size,0,none⟩:Addr).add j)=some u:=by
 intro j u hj
 have hadd:(⟨w.heap.size,0,none⟩:Addr).add j=⟨w.heap.size,j,none⟩:=by unfold Addr.add;split <;> simp_all
 rw [hadd]
 have e1:=(MapKept.heap_alloc w (.cells xs.toArray e)).1
 simp only [World.cell?,e1]
 simpa using hj
theorem post_below {H:Type}{enc:TypeId×Value→H}{P:Program}{f:Func}{s:ChangeSpec}{apart fresh handsOn again:Bool}{W W':World}{args:Array Value}{v:Value}{ds gs:List (DataW H)}{before pa pv:List MemPlace}
 (hW:DataW.Whole enc P f.params.toList s.vars apart W args.toList ds gs before)
 (hres:∀ (b:Nat) (sp:Nat→Bool) (hd:Bool),DataW.TrodAll enc P W' b sp hd f.resultTypes.toList (v.resultList f.resultTypes.size) (s.fn H (ds++gs)).results [])
 (hargs:∀ sp:Nat→Bool,(∀ p∈before,sp p.block=true)→DataW.TrodAll enc P W' 0 sp true f.params.toList args.toList (s.fn H (ds++gs)).args pa)
 (hvars:∀ sp:Nat→Bool,(∀ p∈before,sp p.block=true)→DataW.TrodVars enc P W' sp s.vars (s.fn H (ds++gs)).vars pv)
 (hps:before=pa++pv) (hb:Below W.heap.size W W')
 (hok:∀ (j:Nat) (t:TypeId) (r:Value),f.resultTypes[j]?=some t→(v.resultList f.resultTypes.size)[j]?=some r→Value.okWide P W' .any 0 t r) :
 s.post enc P f apart fresh handsOn again W args v W':=by
 have hlt:=hW.lt
 have hold:∀ p∈before,(fun b=>decide (b < W.heap.size)) p.block=true:=fun p hp=>by simpa using hlt p hp
 refine ⟨ds,gs,before,[],pa,pv,hW,hres _ _ _,hargs _ hold,hvars _ hold,World.keptBut_mono (fun p hp=>⟨hp,?_⟩) (hb.frame (·∈before)),fun _=>?_⟩
 · exact Or.inr (by simpa [hps] using hp)
 · obtain ⟨_,_,_,_,_,hz,hn⟩:=hW
   refine ⟨hok,_,_,([]++pa)++pv,⟨[]++pa,pv,ChangeShapes.trodAll_append (hargs _ (fun _ _=>rfl)) (hres _ _ _),hvars _ (fun _ _=>rfl),rfl,?_,?_⟩,?_⟩
   · intro b off hp
     have hm:MemPlace.cell b off∈before:=by rw [hps];simpa using hp
     have:=hlt _ hm
     rw [hb.frozen (p:=⟨b,off,none⟩) this]
     exact hz b off hm
   · intro ha
     have:=hn ha
     rw [hps] at this
     simpa using this
   · intro p hp _
     rw [hps]
     simpa using hp
end Kn
namespace Kn
open Go
def gotos (P:Program) (c:Code) (Q:Exit→Act→World→Prop):Nat→Exit→Act→World→Prop
 | 0,.goto _,_,_=>False
 | n+1,.goto l,a,w=>∃ rest,findLabel c l=some rest∧rest.wp P (gotos P c Q n) a w
 | _,e,a,w=>Q e a w
variable {w : World}
theorem gotos_normal {P:Program}{c:Code}{Q:Exit→Act→World→Prop}{n:Nat}{a:Act}:gotos P c Q n .normal a w=Q .normal a w:=by cases n <;> rfl
theorem gotos_exit {P:Program}{c:Code}{Q:Exit→Act→World→Prop}{n i:Nat}{a:Act}:gotos P c Q n (.exit i) a w=Q (.exit i) a w:=by cases n <;> rfl
theorem gotos_ret {P:Program}{c:Code}{Q:Exit→Act→World→Prop}{n:Nat}{a:Act}:gotos P c Q n .ret a w=Q .ret a w:=by cases n <;> rfl
theorem gotos_panic {P:Program}{c:Code}{Q:Exit→Act→World→Prop}{n:Nat}{ch:List PanicEntry}{a:Act}:gotos P c Q n (.panic ch) a w=Q (.panic ch) a w:=by cases n <;> rfl
theorem gotos_outgrown {P:Program}{c:Code}{Q:Exit→Act→World→Prop}{n:Nat}{a:Act}:gotos P c Q n .outgrown a w=Q .outgrown a w:=by cases n <;> rfl
def byLabel (J:Nat→Act→World→Prop) (Q:Exit→Act→World→Prop):Exit→Act→World→Prop
 | .goto l,a,w=>J l a w
 | e,a,w=>Q e a w
theorem wp_scope_labels {P:Program}{a:Act}{Q:Exit→Act→World→Prop}{c:Code} (J:Nat→Nat→Act→World→Prop)
 (first:c.wp P (byLabel (fun l a w=>∃ n,J n l a w) Q) a w)
 (pass:∀ n l a w,J n l a w→∃ rest,findLabel c l=some rest∧rest.wp P (byLabel (fun l' a' w'=>∃ n',n' < n∧J n' l' a' w') Q) a w):(Code.scope c).wp P Q a w:=by
 intro b k cs
 have key:∀ n l a w,J n l a w→∃ e a' w',Q e a' w'∧∀ rest,findLabel c l=some rest→Arrives P (lone (b.at a (.code rest::.inScope c::k)) cs w) b k cs e a' w':=by
  intro n
  induction n using Nat.strongRecOn with
  | _ n ih =>
   intro l a w hJ
   obtain ⟨rest,hf,hw⟩:=pass n l a w hJ
   obtain ⟨e,a₁,w₁,hq,harr⟩:=hw b (.inScope c::k) cs
   have one:∀ {r},findLabel c l=some r→r=rest:=fun h=>by rw [hf] at h;injection h with h;exact h.symm
   cases e with
   | normal=>exact ⟨.normal,a₁,w₁,hq,fun r hr=>by rw [one hr];exact Steps.trans harr (.one step_inScope)⟩
   | exit id=>exact ⟨.exit id,a₁,w₁,hq,fun r hr=>by rw [one hr];exact fun k' hk=>harr k' (by simp [exitTo,hk])⟩
   | goto l' =>
    obtain ⟨n',hlt,hJ'⟩:=hq
    obtain ⟨rest',hf',_⟩:=pass n' l' a₁ w₁ hJ'
    have hg:gotoIn l' (.inScope c::k)=some (.code rest'::.inScope c::k):=by simp [gotoIn,hf']
    obtain ⟨e₂,a₂,w₂,hq₂,harr₂⟩:=ih _ hlt l' a₁ w₁ hJ'
    exact ⟨e₂,a₂,w₂,hq₂,fun r hr=>by rw [one hr];exact .of_steps (harr _ hg) (harr₂ rest' hf')⟩
   | ret=>exact ⟨_,a₁,w₁,hq,fun r hr=>by rw [one hr];exact harr⟩
   | panic ch=>exact ⟨_,a₁,w₁,hq,fun r hr=>by rw [one hr];exact harr⟩
   | outgrown=>exact ⟨_,a₁,w₁,hq,fun r hr=>by rw [one hr];exact harr⟩
 obtain ⟨e,a₁,w₁,hq,harr⟩:=first b (.inScope c::k) cs
 cases e with
 | normal=>exact ⟨.normal,a₁,w₁,hq,.head step_scope (Steps.trans harr (.one step_inScope))⟩
 | exit id=>exact ⟨.exit id,a₁,w₁,hq,fun k' hk=>.head step_scope (harr k' (by simp [exitTo,hk]))⟩
 | goto l' =>
  obtain ⟨n,hJ'⟩:=hq
  obtain ⟨rest',hf',_⟩:=pass n l' a₁ w₁ hJ'
  have hg:gotoIn l' (.inScope c::k)=some (.code rest'::.inScope c::k):=by simp [gotoIn,hf']
  obtain ⟨e₂,a₂,w₂,hq₂,harr₂⟩:=key _ l' a₁ w₁ hJ'
  exact ⟨e₂,a₂,w₂,hq₂,.of_steps (.head step_scope (harr _ hg)) (harr₂ rest' hf')⟩
 | ret=>exact ⟨_,a₁,w₁,hq,.of_steps (.one step_scope) harr⟩
 | panic ch=>exact ⟨_,a₁,w₁,hq,.of_steps (.one step_scope) harr⟩
 | outgrown=>exact ⟨_,a₁,w₁,hq,.of_steps (.one step_scope) harr⟩
theorem wp_mono' {P:Program}{c:Code}{Q Q':Exit→Act→World→Prop}{a:Act} (h:c.wp P Q a w) (hQ:∀ e a w,Q e a w→Q' e a w):c.wp P Q' a w:=by
 intro b k cs
 obtain ⟨e,a₁,w₁,hq,harr⟩:=h b k cs
 exact ⟨e,a₁,w₁,hQ _ _ _ hq,harr⟩
theorem wp_scope_gotos {P:Program}{a:Act}{Q:Exit→Act→World→Prop}{c:Code} (n:Nat) (h:c.wp P (gotos P c Q n) a w):(Code.scope c).wp P Q a w:=by
 refine wp_scope_labels (fun m l a w=>gotos P c Q m (.goto l) a w) (wp_mono' h ?_) ?_
 · intro e a w he
   cases e with
   | goto l=>exact ⟨n,he⟩
   | normal=>rw [gotos_normal] at he;exact he
   | exit i=>rw [gotos_exit] at he;exact he
   | ret=>rw [gotos_ret] at he;exact he
   | panic ch=>rw [gotos_panic] at he;exact he
   | outgrown=>rw [gotos_outgrown] at he;exact he
 · intro m l a w hm
   cases m with
   | zero=>exact hm.elim
   | succ m =>
    obtain ⟨rest,hf,hw⟩:=hm
    refine ⟨rest,hf,wp_mono' hw ?_⟩
    intro e a w he
    cases e with
    | goto l=>exact ⟨m,Nat.lt_succ_self m,he⟩
    | normal=>rw [gotos_normal] at he;exact he
    | exit i=>rw [gotos_exit] at he;exact he
    | ret=>rw [gotos_ret] at he;exact he
    | panic ch=>rw [gotos_panic] at he;exact he
    | outgrown=>rw [gotos_outgrown] at he;exact he
theorem wp_scope_walk {P:Program}{a:Act}{Q:Exit→Act→World→Prop}{c:Code} (n:Nat)
 (h:∀ G:Nat→Exit→Act→World→Prop,RowKit.Hid (∀ m a w,Q .ret a w→G m .ret a w)→RowKit.Hid (∀ m l rest a w,findLabel c l=some rest→rest.wp P (G m) a w→G (m+1) (.goto l) a w)→c.wp P (G n) a w):(Code.scope c).wp P Q a w :=
 wp_scope_gotos n (h (gotos P c Q) (fun m a w hq=>by show gotos P c Q m .ret a w;rw [gotos_ret];exact hq) (fun m l rest a w hf hw=>⟨rest,hf,hw⟩))
theorem wp_scope_from {P:Program}{a:Act}{Q:Exit→Act→World→Prop}{c:Code} (J:Nat→Nat→Act→World→Prop)
 (pass:∀ n l a w,J n l a w→∀ G:Exit→Act→World→Prop,RowKit.Hid (∀ a w,Q .ret a w→G .ret a w)→RowKit.Hid (∀ n' l' a' w',n' < n→J n' l' a' w'→G (.goto l') a' w')→∃ rest,findLabel c l=some (.seq .skip rest)∧rest.wp P G a w)
 (first:∀ G:Exit→Act→World→Prop,RowKit.Hid (∀ n l rest a w,J n l a w→findLabel c l=some (.seq .skip rest)→rest.wp P G a w)→c.wp P G a w):(Code.scope c).wp P Q a w :=
 wp_scope_labels J (first _ (fun n l rest a w h hf=>by
  obtain ⟨rest',hf',hw⟩:=pass n l a w h (byLabel (fun l a w=>∃ n,J n l a w) Q) (fun a w h=>h) (fun n' l' a' w' _ h=>⟨n',h⟩)
  rw [hf] at hf'
  injection hf' with e
  injection e with _ e
  rw [e];exact hw)) (fun n l a w h=>by
   obtain ⟨rest,hf,hw⟩:=pass n l a w h (byLabel (fun l' a' w'=>∃ n',n' < n∧J n' l' a' w') Q) (fun a w h=>h) (fun n' l' a' w' hlt h=>⟨n',hlt,h⟩)
   exact ⟨_,hf,wp_seq (wp_skip hw)⟩)
end Kn
namespace Kn
open Go Go.RowKit
structure Chg (w w':World) (S:Nat→Prop):Prop where
 os:w'.os=w.os
 tape:w'.tape=w.tape
 output:w'.output=w.output
 size:w.heap.size≤w'.heap.size
 block:∀ k,k < w.heap.size→¬ S k→w'.heap[k]?=w.heap[k]?
theorem Chg.refl (w:World) (S:Nat→Prop):Chg w w S:=⟨rfl,rfl,rfl,Nat.le_refl _,fun _ _ _=>rfl⟩
variable {w w' : World}
theorem Chg.of_below (h:Below w.heap.size w w') (S:Nat→Prop):Chg w w' S:=⟨h.os,h.tape,h.output,h.size,fun k hk _=>h.block k hk⟩
theorem Chg.of_grown {k:Nat} (h:w.grownBy w' (some k)):Chg w w' (·=k):=⟨h.os,h.tape,h.output,h.size,fun j hj hn=>h.block j hj (fun e=>by injection e with e;exact hn e)⟩
theorem Chg.mono {S S':Nat→Prop} (h:Chg w w' S) (hS:∀ k,k < w.heap.size→S k→S' k):Chg w w' S':=⟨h.os,h.tape,h.output,h.size,fun k hk hn=>h.block k hk (fun hs=>hn (hS k hk hs))⟩
variable {w1 w2 : World}
theorem Chg.trans {S:Nat→Prop} (h1:Chg w w1 S) (h2:Chg w1 w2 S):Chg w w2 S :=
 ⟨h2.os.trans h1.os,h2.tape.trans h1.tape,h2.output.trans h1.output,Nat.le_trans h1.size h2.size,fun k hk hn=>(h2.block k (Nat.lt_of_lt_of_le hk h1.size) hn).trans (h1.block k hk hn)⟩
theorem Chg.then {S S':Nat→Prop} (h1:Chg w w1 S) (h2:Chg w1 w2 S') (hS:∀ k,k < w.heap.size→S' k→S k):Chg w w2 S :=
 ⟨h2.os.trans h1.os,h2.tape.trans h1.tape,h2.output.trans h1.output,Nat.le_trans h1.size h2.size,fun k hk hn=>(h2.block k (Nat.lt_of_lt_of_le hk h1.size) (fun hs=>hn (hS k hk hs))).trans (h1.block k hk hn)⟩
theorem Chg.below {S:Nat→Prop}{B:Nat} (h:Chg w w' S) (hB:B≤w.heap.size) (hS:∀ k,k < w.heap.size→S k→B≤k):Below B w w' :=
 ⟨h.os,h.tape,h.output,h.size,fun k hk=>h.block k (Nat.lt_of_lt_of_le hk hB) (fun hs=>by have:=hS k (Nat.lt_of_lt_of_le hk hB) hs;omega)⟩
theorem Chg.alloc {S:Nat→Prop} (h:Chg w w1 S) (o:Obj):Chg w (w1.alloc o) S:=h.trans ⟨rfl,rfl,rfl,by simp,fun k hk _=>Below.heap_alloc w1 o k hk⟩
theorem Chg.setCell {S:Nat→Prop} (h:Chg w w1 S) (a:Addr) (v:Value) (ha:a.block < w.heap.size→S a.block):Chg w (w1.setCell a v) S :=
 ⟨h.os,h.tape,h.output,by simp only [World.setCell,Array.size_modify];exact h.size,fun k hk hn=>(Below.heap_setCell w1 a v k (fun e=>hn (by subst e;exact ha hk))).trans (h.block k hk hn)⟩
theorem Chg.drew {S:Nat→Prop} (h:Chg w w1 S):Chg w w1.drew S:=⟨h.os,h.tape,h.output,h.size,h.block⟩
theorem ba_apart {a b:ByteArray} (h:¬ a=b):(a.toList==b.toList)=false:=by
 refine beq_eq_false_iff_ne.2 fun e=>h ?_
 rw [ByteArray.toList_eq,ByteArray.toList_eq] at e
 cases a;cases b
 congr 1
 exact Array.toList_inj.1 e
def Cel (w:World) (p:Nat):Prop:=∃ cs t,w.heap[p]?=some (.cells cs t (0,0))
theorem Cel.lt {p:Nat} (h:Cel w p):p < w.heap.size:=by obtain ⟨cs,t,h⟩:=h;exact (Array.getElem?_eq_some_iff.1 h).1
theorem Cel.same {p:Nat} (h:Cel w p) (e:w'.heap[p]?=w.heap[p]?):Cel w' p:=by obtain ⟨cs,t,h⟩:=h;exact ⟨cs,t,e.trans h⟩
theorem Cel.free {p:Nat} (h:Cel w p) (o:Nat):w.frozen? ⟨p,o,none⟩=false:=by
 obtain ⟨cs,t,h⟩:=h
 simp only [World.frozen?,h];simp
theorem Cel.alloc {p:Nat} (h:Cel w p) (o:Obj):Cel (w.alloc o) p:=h.same (Below.heap_alloc w o p h.lt)
theorem Cel.setCell {p:Nat} (h:Cel w p) (a:Addr) (v:Value):Cel (w.setCell a v) p:=by
 by_cases e:p=a.block
 · obtain ⟨cs,t,h⟩:=h
   subst e
   exact ⟨_,t,by simp only [World.setCell,Array.getElem?_modify,if_pos,h];rfl⟩
 · exact h.same (Below.heap_setCell w a v p e)
theorem run_sameAddr {P:Program}{p q:Nat} (hp:Cel w p) (hq:Cel w q):(sameAddr ⟨p,0,none⟩ ⟨q,0,none⟩).run P w=.ok (decide (p=q)) w:=by
 by_cases h:p=q
 · subst h;rw [run_sameAddr_same];simp
 · obtain ⟨_,_,hp⟩:=hp
   obtain ⟨_,_,hq⟩:=hq
   rw [run_sameAddr_other w (fun e=>h (by injection e)) hp hq]
   simp [h]
theorem run_equal_ptr {P:Program}{t e:TypeId}{i:TypeInfo} (ht:P.underlying t=some (.pointer e)) (he:P.info? e=some i) (hs:i.size≠0) {p q:Nat} (hp:Cel w p) (hq:Cel w q) :
 (Op.equal t (.pointer (some ⟨p,0,none⟩)) (.pointer (some ⟨q,0,none⟩))).run P w=.ok (decide (p=q)) w:=by
 have h:∀ d:Nat,(Op.equalIn (d+1) t (.pointer (some ⟨p,0,none⟩)) (.pointer (some ⟨q,0,none⟩))).run P w=.ok (decide (p=q)) w:=fun d=>by
  simp [Op.equalIn,run_underlying ht,Go.sizeOf,typeInfo,he,hs,run_sameAddr hp hq]
 exact h 9999
def Born (es:Array MapEntry) (clock:Nat):Prop:=(∀ x∈es.toList,x.born < clock)∧(es.toList.map (·.born)).Nodup
theorem born_empty:Born #[] 0:=⟨by simp,by simp⟩
theorem born_push {es:Array MapEntry}{clock:Nat} (h:Born es clock) (k v:Value):Born (es.push { key:=k,val:=v,born:=clock }) (clock+1):=by
 refine ⟨fun x hx=>?_,?_⟩
 · simp only [Array.toList_push,List.mem_append,List.mem_singleton] at hx
   rcases hx with hx | rfl
   · have:=h.1 x hx;omega
   · exact Nat.lt_succ_self _
 · simp only [Array.toList_push,List.map_append,List.map_cons,List.map_nil]
   refine List.nodup_append.2 ⟨h.2,by simp,?_⟩
   intro a ha b hb
   simp at hb
   obtain ⟨x,hx,rfl⟩:=List.mem_map.1 ha
   have:=h.1 x hx
   omega
theorem born_same {es es':Array MapEntry}{clock:Nat} (h:Born es clock) (e:es'.toList.map (·.born)=es.toList.map (·.born)):Born es' clock:=by
 refine ⟨fun x hx=>?_,by rw [e];exact h.2⟩
 have hm:x.born∈es.toList.map (·.born):=by rw [← e];exact List.mem_map.2 ⟨x,hx,rfl⟩
 obtain ⟨y,hy,hyx⟩:=List.mem_map.1 hm
 have:=h.1 y hy
 omega
theorem modify_born (es:Array MapEntry) (j:Nat) (k v:Value):(es.modify j fun e=>{ e with key:=k,val:=v }).toList.map (·.born)=es.toList.map (·.born):=by
 apply List.ext_getElem?
 intro i
 simp only [List.getElem?_map,Array.getElem?_toList,Array.getElem?_modify]
 by_cases h:j=i
 · subst h;cases es[j]? <;> simp
 · simp [h]
theorem born_erase {es:Array MapEntry}{clock:Nat} (h:Born es clock) (j:Nat):Born (es.eraseIdxIfInBounds j) clock:=by
 have e:(es.eraseIdxIfInBounds j).toList=es.toList.eraseIdx j:=by
  unfold Array.eraseIdxIfInBounds
  by_cases hj:j < es.size
  · simp [hj]
  · simp [hj]
    rw [List.eraseIdx_of_length_le (by simpa using hj)]
 refine ⟨fun x hx=>h.1 x (by rw [e] at hx;exact (List.eraseIdx_sublist _ _).mem hx),?_⟩
 rw [e]
 exact ((List.eraseIdx_sublist _ _).map _).nodup h.2
def Uniq (l:List (ByteArray×Value)):Prop:=(l.map (·.1)).Nodup
def SMap (w:World) (b:Nat) (l:List (ByteArray×Value)):Prop:=∃ es clock,w.heap[b]?=some (.map es clock)∧Holds es l∧Born es clock∧Uniq l
theorem SMap.str {b:Nat}{l:List (ByteArray×Value)} (h:SMap w b l):StrMap w b l:=by obtain ⟨es,c,h1,h2,_⟩:=h;exact ⟨es,c,h1,h2⟩
theorem SMap.lt {b:Nat}{l:List (ByteArray×Value)} (h:SMap w b l):b < w.heap.size:=h.str.lt
theorem SMap.same {b:Nat}{l:List (ByteArray×Value)} (h:SMap w b l) (e:w'.heap[b]?=w.heap[b]?):SMap w' b l:=by obtain ⟨es,c,h1,h2⟩:=h;exact ⟨es,c,e.trans h1,h2⟩
theorem sMap_empty {b:Nat} (h:w.heap[b]?=some (.map #[] 0)):SMap w b []:=⟨#[],0,h,rfl,born_empty,by simp [Uniq]⟩
theorem lookup_put (l:List (ByteArray×Value)) (s t:ByteArray) (v:Value):(put l s v).lookup t=if t=s then some v else l.lookup t:=by
 induction l with
 | nil =>
  by_cases h:t=s
  · subst h;simp [put,List.lookup,beq_ba_self]
  · simp [put,List.lookup,(beq_ba_false t s).2 h,h]
 | cons p r ih =>
  obtain ⟨k,x⟩:=p
  cases hs:(s==k) with
  | true =>
   have e:s=k:=(beq_ba s k).1 hs
   subst e
   by_cases h:t=s
   · subst h;simp [put,hs,List.lookup,beq_ba_self]
   · simp [put,hs,List.lookup,(beq_ba_false t s).2 h,h]
  | false =>
   simp only [put,hs]
   by_cases h:t=s
   · subst h
     rw [if_pos rfl] at ih ⊢
     simp [List.lookup,hs,ih]
   · rw [if_neg h] at ih ⊢
     cases htk:(t==k) with
     | true=>simp [List.lookup,htk]
     | false=>simp [List.lookup,htk,ih]
theorem mem_put {l:List (ByteArray×Value)}{s t:ByteArray}{v:Value} (h:t∈(put l s v).map (·.1)):t=s∨t∈l.map (·.1):=by
 induction l with
 | nil=>simpa [put] using h
 | cons p r ih =>
  obtain ⟨k,x⟩:=p
  cases hs:(s==k) with
  | true=>simp [put,hs] at h ⊢;rcases h with h | h;exact .inl h;exact .inr (.inr h)
  | false =>
   simp only [put,hs,Bool.false_eq_true,if_false,List.map_cons,List.mem_cons] at h ⊢
   rcases h with h | h
   · exact .inr (.inl h)
   · rcases ih h with h | h
     · exact .inl h
     · exact .inr (.inr h)
theorem uniq_put {l:List (ByteArray×Value)} (h:Uniq l) (s:ByteArray) (v:Value):Uniq (put l s v):=by
 unfold Uniq at h ⊢
 induction l with
 | nil=>simp [put]
 | cons p r ih =>
  obtain ⟨k,x⟩:=p
  rw [List.map_cons,List.nodup_cons] at h
  cases hs:(s==k) with
  | true =>
   have e:s=k:=(beq_ba s k).1 hs
   subst e
   simpa [put,hs] using h
  | false =>
   simp only [put,hs,Bool.false_eq_true,if_false,List.map_cons,List.nodup_cons]
   refine ⟨fun hm=>?_,ih h.2⟩
   rcases mem_put hm with e | hm
   · exact (beq_ba_false s k).1 hs e.symm
   · exact h.1 hm
def del (l:List (ByteArray×Value)) (s:ByteArray):List (ByteArray×Value):=l.filter (fun p=>!(p.1==s))
theorem uniq_del {l:List (ByteArray×Value)} (h:Uniq l) (s:ByteArray):Uniq (del l s):=(List.filter_sublist.map _).nodup h
theorem lookup_del (l:List (ByteArray×Value)) (s t:ByteArray):(del l s).lookup t=if t=s then none else l.lookup t:=by
 unfold del
 induction l with
 | nil=>by_cases h:t=s <;> simp [h,List.lookup]
 | cons p r ih =>
  obtain ⟨k,x⟩:=p
  cases hs:(k==s) with
  | true =>
   have e:k=s:=(beq_ba k s).1 hs
   subst e
   rw [List.filter_cons]
   simp only [hs,Bool.not_true,Bool.false_eq_true,if_false]
   rw [ih]
   by_cases h:t=k
   · simp [h]
   · simp [h,List.lookup,(beq_ba_false t k).2 h]
  | false =>
   rw [List.filter_cons]
   simp only [hs,Bool.not_false,if_true]
   by_cases h:t=s
   · subst h
     have h1:(t==k)=false:=(beq_ba_false t k).2 (fun e=>(beq_ba_false k t).1 hs e.symm)
     simp only [List.lookup,h1]
     simpa using ih
   · cases htk:(t==k) with
     | true=>simp [List.lookup,htk,h]
     | false=>simp only [List.lookup,htk];exact ih
theorem lookup_mem {l:List (ByteArray×Value)}{s:ByteArray}{v:Value} (h:l.lookup s=some v):(s,v)∈l:=by
 induction l with
 | nil=>simp [List.lookup] at h
 | cons p r ih =>
  obtain ⟨k,x⟩:=p
  cases hs:(s==k) with
  | true=>simp [List.lookup,hs] at h;subst h;rw [(beq_ba s k).1 hs];exact List.mem_cons_self
  | false=>simp [List.lookup,hs] at h;exact List.mem_cons_of_mem _ (ih h)
theorem mem_lookup {l:List (ByteArray×Value)} (hu:Uniq l) {s:ByteArray}{v:Value} (h:(s,v)∈l):l.lookup s=some v:=by
 induction l with
 | nil=>cases h
 | cons p r ih =>
  obtain ⟨k,x⟩:=p
  unfold Uniq at hu
  rw [List.map_cons,List.nodup_cons] at hu
  rcases List.mem_cons.1 h with e | h
  · injection e with e1 e2;subst e1 e2;simp [List.lookup,beq_ba_self]
  · have hne:(s==k)=false:=(beq_ba_false s k).2 (fun e=>hu.1 (by rw [← e];exact List.mem_map.2 ⟨_,h,rfl⟩))
    simp only [List.lookup,hne]
    exact ih hu.2 h
theorem run_put {P:Program}{b:Nat}{l:List (ByteArray×Value)} (h:SMap w b l) {t k e:TypeId} (ht:P.underlying t=some (.map k e)) (hk:P.underlying k=some .string) (s:ByteArray) (v:Value) :
 ∃ w',(Instr.mapUpdate t (.map (some b)) (.string s) v).run P w=.ok () w'∧SMap w' b (put l s v)∧w.grownBy w' (some b)∧w'.heap.size=w.heap.size:=by
 obtain ⟨es,clock,hb,hl,hbn,hu⟩:=h
 rcases findNow_str s es.toList l 0 hl with ⟨h1,h2,h3⟩ | ⟨j,x,h1,h2,h3,h4⟩
 · refine ⟨ChangeMaps.setBlock w b (.map (es.push { key:=.string s,val:=v,born:=clock }) (clock+1)),?_,⟨_,_,ChangeMaps.heap_setBlock_same hb _,?_,born_push hbn _ _,uniq_put hu s v⟩,⟨rfl,rfl,rfl,by simp [ChangeMaps.setBlock],fun i _ hi=>ChangeMaps.heap_setBlock_other hb _ (fun e=>hi (by rw [e]))⟩,by simp [ChangeMaps.setBlock]⟩
   · simp [Instr.mapUpdate,run_underlying ht,MapKept.run_getObj_map hb,MapKept.run_checkKey hk (key_str s),MapKept.run_findKey hk h2,MapKept.run_setObj_map _ hb,Result.andThen,ChangeMaps.setBlock]
   · unfold Holds at hl ⊢
     rw [h3]
     simp [hl]
 · obtain ⟨e0,he0,hk0⟩:∃ e0,es.toList[j]?=some e0∧e0.key=.string s:=by
    cases he:es.toList[j]? with
    | none=>simp [he] at h3
    | some e0=>exact ⟨e0,rfl,by simpa [he] using h3⟩
   have he1:es[j]?=some e0:=by simpa using he0
   refine ⟨ChangeMaps.setBlock w b (.map (es.modify j fun e=>{ e with key:=.string s,val:=v }) clock),?_,⟨_,_,ChangeMaps.heap_setBlock_same hb _,?_,born_same hbn (modify_born es j _ _),uniq_put hu s v⟩,⟨rfl,rfl,rfl,by simp [ChangeMaps.setBlock],fun i _ hi=>ChangeMaps.heap_setBlock_other hb _ (fun e=>hi (by rw [e]))⟩,by simp [ChangeMaps.setBlock]⟩
   · simp [Instr.mapUpdate,run_underlying ht,MapKept.run_getObj_map hb,MapKept.run_checkKey hk (key_str s),MapKept.run_findKey hk h2,he1,hk0,MapKept.run_keyThatStays (key_str s),MapKept.run_setObj_map _ hb,Result.andThen,ChangeMaps.setBlock]
   · unfold Holds at hl ⊢
     rw [h4]
     apply List.ext_getElem?
     intro i
     have hi:=congrArg (fun l=>l[i]?) hl
     simp only [List.getElem?_map] at hi ⊢
     rw [Array.toList_modify,ChangeMaps.modify_eq_set _ _ _ _ he0]
     by_cases hij:j=i
     · subst hij
       have hlt:j < es.size:=(Array.getElem?_eq_some_iff.1 he1).1
       have hlen:es.toList.length=l.length:=by simpa using congrArg List.length hl
       have hlt':j < l.length:=by simp at hlen;omega
       simp [hlt,hlt']
     · simp [hij] at hi ⊢
       exact hi
theorem findNow_at (s:ByteArray):∀ (es:List MapEntry) (l:List (ByteArray×Value)) (i:Nat),es.map (fun e=>(e.key,e.val))=l.map (fun p=>(Value.string p.1,p.2))→Uniq l →
 (Instr.findNow .string (.string s) es i=some none∧del l s=l)∨(∃ j v,Instr.findNow .string (.string s) es i=some (some (i+j,v))∧del l s=l.eraseIdx j)
 | [],l,i,h,_=>by
  cases l with
  | nil=>left;exact ⟨rfl,rfl⟩
  | cons p r=>simp at h
 | e::es,l,i,h,hu=>by
  obtain ⟨k,v,r,rfl,hk,hv,hr⟩:=holds_cons h
  unfold Uniq at hu
  rw [List.map_cons,List.nodup_cons] at hu
  cases hs:(s==k) with
  | true =>
   right
   refine ⟨0,v,by simp [Instr.findNow,hk,Instr.sameNow,hs,hv],?_⟩
   have e:s=k:=(beq_ba s k).1 hs
   subst e
   unfold del
   rw [List.filter_cons]
   simp only [hs,Bool.not_true,Bool.false_eq_true,if_false,List.eraseIdx_zero,List.tail_cons]
   refine List.filter_eq_self.2 (fun p hp=>?_)
   have:(p.1==s)=false:=(beq_ba_false _ _).2 (fun e=>hu.1 (by rw [← e];exact List.mem_map.2 ⟨p,hp,rfl⟩))
   simp [this]
  | false =>
   have hks:(k==s)=false:=(beq_ba_false k s).2 (fun e=>(beq_ba_false s k).1 hs e.symm)
   have hd:del ((k,v)::r) s=(k,v)::del r s:=by
    unfold del
    rw [List.filter_cons]
    simp [hks]
   rcases findNow_at s es r (i+1) hr hu.2 with ⟨h2,h3⟩ | ⟨j,x,h2,h3⟩
   · left
     exact ⟨by simp [Instr.findNow,hk,Instr.sameNow,hs,h2],by rw [hd,h3]⟩
   · right
     refine ⟨j+1,x,by simp [Instr.findNow,hk,Instr.sameNow,hs,h2];omega,by rw [hd,h3];rfl⟩
theorem erase_list (es:Array MapEntry) (j:Nat):(es.eraseIdxIfInBounds j).toList=es.toList.eraseIdx j:=by
 unfold Array.eraseIdxIfInBounds
 by_cases hj:j < es.size
 · simp [hj]
 · simp [hj]
   rw [List.eraseIdx_of_length_le (by simpa using hj)]
theorem run_del {P:Program}{b:Nat}{l:List (ByteArray×Value)} (h:SMap w b l) {t k e:TypeId} (ht:P.underlying t=some (.map k e)) (hk:P.underlying k=some .string) (s:ByteArray) (t2 ty:TypeId) :
 ∃ w',(Builtin.delete_ #[t,t2] ty #[.map (some b),.string s]).run P w=.ok (.tuple #[]) w'∧SMap w' b (del l s)∧w.grownBy w' (some b)∧w'.heap.size=w.heap.size:=by
 obtain ⟨es,clock,hb,hl,hbn,hu⟩:=h
 rcases findNow_at s es.toList l 0 hl hu with ⟨h2,h3⟩ | ⟨j,x,h2,h3⟩
 · refine ⟨ChangeMaps.setBlock w b (.map es clock),?_,⟨_,_,ChangeMaps.heap_setBlock_same hb _,by rw [h3];exact hl,hbn,by rw [h3];exact hu⟩,⟨rfl,rfl,rfl,by simp [ChangeMaps.setBlock],fun i _ hi=>ChangeMaps.heap_setBlock_other hb _ (fun e=>hi (by rw [e]))⟩,by simp [ChangeMaps.setBlock]⟩
   simp [Builtin.delete_,run_underlying ht,MapKept.run_getObj_map hb,MapKept.run_checkKey hk (key_str s),MapKept.run_findKey hk h2,MapKept.run_setObj_map _ hb,Result.andThen,ChangeMaps.setBlock]
 · rw [Nat.zero_add] at h2
   refine ⟨ChangeMaps.setBlock w b (.map (es.eraseIdxIfInBounds j) clock),?_,⟨_,_,ChangeMaps.heap_setBlock_same hb _,?_,born_erase hbn j,uniq_del hu s⟩,⟨rfl,rfl,rfl,by simp [ChangeMaps.setBlock],fun i _ hi=>ChangeMaps.heap_setBlock_other hb _ (fun e=>hi (by rw [e]))⟩,by simp [ChangeMaps.setBlock]⟩
   · simp [Builtin.delete_,run_underlying ht,MapKept.run_getObj_map hb,MapKept.run_checkKey hk (key_str s),MapKept.run_findKey hk h2,MapKept.run_setObj_map _ hb,Result.andThen,ChangeMaps.setBlock]
   · unfold Holds at hl ⊢
     rw [erase_list,h3,ChangeMaps.map_eraseIdx,ChangeMaps.map_eraseIdx,hl]
def pkey (p:Nat):Value:=.pointer (some ⟨p,0,none⟩)
def PSet (w:World) (b:Nat) (ps:List Nat):Prop:=∃ es clock,w.heap[b]?=some (.map es clock)∧es.toList.map (·.key)=ps.map pkey∧Born es clock∧ps.Nodup
theorem PSet.lt {b:Nat}{ps:List Nat} (h:PSet w b ps):b < w.heap.size:=by obtain ⟨es,c,h1,_⟩:=h;exact (Array.getElem?_eq_some_iff.1 h1).1
theorem PSet.same {b:Nat}{ps:List Nat} (h:PSet w b ps) (e:w'.heap[b]?=w.heap[b]?):PSet w' b ps:=by obtain ⟨es,c,h1,h2⟩:=h;exact ⟨es,c,e.trans h1,h2⟩
theorem pSet_empty {b:Nat} (h:w.heap[b]?=some (.map #[] 0)):PSet w b []:=⟨#[],0,h,rfl,born_empty,by simp⟩
theorem pkeys_cons {e:MapEntry}{es:List MapEntry}{ps:List Nat} (h:(e::es).map (·.key)=ps.map pkey):∃ p r,ps=p::r∧e.key=pkey p∧es.map (·.key)=r.map pkey:=by
 cases ps with
 | nil=>simp at h
 | cons p r=>simp only [List.map_cons,List.cons.injEq] at h;exact ⟨p,r,rfl,h.1,h.2⟩
structure PtrKey (P:Program) (t:TypeId):Prop where
 und:∃ e i,P.underlying t=some (.pointer e)∧P.info? e=some i∧i.size≠0
theorem findAsking_ptr {P:Program}{t:TypeId} (hk:PtrKey P t) {q:Nat} (hq:Cel w q):∀ (es:List MapEntry) (ps:List Nat) (i:Nat),es.map (·.key)=ps.map pkey→(∀ p∈ps,Cel w p) →
 (q ∉ ps∧(Instr.findAsking t (pkey q) es i).run P w=.ok none w)∨(∃ j v,ps[j]?=some q∧(Instr.findAsking t (pkey q) es i).run P w=.ok (some (i+j,v)) w)
 | [],ps,i,h,_=>by
  cases ps with
  | nil=>left;exact ⟨by simp,rfl⟩
  | cons p r=>simp at h
 | e::es,ps,i,h,hc=>by
  obtain ⟨p,r,rfl,hkey,hr⟩:=pkeys_cons h
  obtain ⟨el,inf,h1,h2,h3⟩:=hk.und
  have heq:=run_equal_ptr (P:=P) (w:=w) h1 h2 h3 hq (hc p (by simp))
  by_cases hpq:q=p
  · subst hpq
    right
    refine ⟨0,e.val,by simp,?_⟩
    unfold Instr.findAsking
    rw [hkey]
    simp [pkey,heq]
  · have hstep:(Instr.findAsking t (pkey q) (e::es) i).run P w=(Instr.findAsking t (pkey q) es (i+1)).run P w:=by
     rw [Instr.findAsking,hkey]
     simp [pkey,heq,hpq]
    rcases findAsking_ptr hk hq es r (i+1) hr (fun x hx=>hc x (by simp [hx])) with ⟨h4,h5⟩ | ⟨j,v,h4,h5⟩
    · left
      exact ⟨by simp [hpq,h4],by rw [hstep];exact h5⟩
    · right
      exact ⟨j+1,v,by simpa using h4,by rw [hstep,h5];congr 3;omega⟩
theorem findKey_ptr {P:Program}{t:TypeId} (hk:PtrKey P t) {q:Nat} (hq:Cel w q) {es:Array MapEntry}{ps:List Nat} (h:es.toList.map (·.key)=ps.map pkey) (hc:∀ p∈ps,Cel w p) :
 (q ∉ ps∧(Instr.findKey t (pkey q) es.toList).run P w=.ok none w)∨(∃ j v,ps[j]?=some q∧(Instr.findKey t (pkey q) es.toList).run P w=.ok (some (j,v)) w):=by
 obtain ⟨el,inf,h1,h2,h3⟩:=hk.und
 cases hl:es.toList with
 | nil =>
  rw [hl] at h
  cases ps with
  | nil=>left;exact ⟨by simp,by simp [Instr.findKey,run_underlying h1,Result.andThen,Instr.findNow]⟩
  | cons p r=>simp at h
 | cons e r =>
  rw [hl] at h
  have hs:(Instr.findKey t (pkey q) (e::r)).run P w=(Instr.findAsking t (pkey q) (e::r)).run P w:=by
   simp [Instr.findKey,run_underlying h1,Result.andThen,Instr.findNow,Instr.sameNow]
  rcases findAsking_ptr hk hq (e::r) ps 0 h hc with ⟨h4,h5⟩ | ⟨j,v,h4,h5⟩
  · exact .inl ⟨h4,by rw [hs];exact h5⟩
  · exact .inr ⟨j,v,h4,by rw [hs,h5];simp⟩
theorem checkKey_ptr {P:Program}{t:TypeId} (hk:PtrKey P t) (e:Bool) (q n:Nat):(Instr.checkKey e (n+1) t (pkey q)).run P w=.ok () w:=by
 obtain ⟨el,inf,h1,h2,h3⟩:=hk.und
 unfold Instr.checkKey
 simp [run_underlying h1,pkey]
theorem run_pput {P:Program}{b:Nat}{ps:List Nat} (h:PSet w b ps) (hc:∀ p∈ps,Cel w p) {t k e:TypeId} (ht:P.underlying t=some (.map k e)) (hk:PtrKey P k) {q:Nat} (hq:Cel w q) (v:Value) :
 ∃ w' ps',(Instr.mapUpdate t (.map (some b)) (pkey q) v).run P w=.ok () w'∧PSet w' b ps'∧(∀ p,p∈ps' ↔ p∈ps∨p=q)∧w.grownBy w' (some b)∧w'.heap.size=w.heap.size:=by
 obtain ⟨es,clock,hb,hl,hbn,hu⟩:=h
 rcases findKey_ptr hk hq hl hc with ⟨h1,h2⟩ | ⟨j,x,h1,h2⟩
 · refine ⟨ChangeMaps.setBlock w b (.map (es.push { key:=pkey q,val:=v,born:=clock }) (clock+1)),ps++[q],?_,⟨_,_,ChangeMaps.heap_setBlock_same hb _,by simp [hl],born_push hbn _ _,?_⟩,by simp,⟨rfl,rfl,rfl,by simp [ChangeMaps.setBlock],fun i _ hi=>ChangeMaps.heap_setBlock_other hb _ (fun e=>hi (by rw [e]))⟩,by simp [ChangeMaps.setBlock]⟩
   · simp [Instr.mapUpdate,run_underlying ht,MapKept.run_getObj_map hb,checkKey_ptr hk,h2,MapKept.run_setObj_map _ hb,Result.andThen,ChangeMaps.setBlock]
   · exact List.nodup_append.2 ⟨hu,by simp,fun a ha b hb e=>by simp at hb;subst hb;subst e;exact h1 ha⟩
 · have hlen:es.toList.length=ps.length:=by simpa using congrArg List.length hl
   have hj:j < ps.length:=(List.getElem?_eq_some_iff.1 h1).1
   have hke:(es[j]?).map (·.key)=some (pkey q):=by
    have:=congrArg (fun l=>l[j]?) hl
    simp only [List.getElem?_map,h1,Array.getElem?_toList] at this
    simpa using this
   obtain ⟨e0,he0,hk0⟩:∃ e0,es[j]?=some e0∧e0.key=pkey q:=by
    cases he:es[j]? with
    | none=>simp [he] at hke
    | some e0=>exact ⟨e0,rfl,by simpa [he] using hke⟩
   refine ⟨ChangeMaps.setBlock w b (.map (es.modify j fun e=>{ e with key:=pkey q,val:=v }) clock),ps,?_,⟨_,_,ChangeMaps.heap_setBlock_same hb _,?_,born_same hbn (modify_born es j _ _),hu⟩,fun p=>?_,⟨rfl,rfl,rfl,by simp [ChangeMaps.setBlock],fun i _ hi=>ChangeMaps.heap_setBlock_other hb _ (fun e=>hi (by rw [e]))⟩,by simp [ChangeMaps.setBlock]⟩
   · have hst:(Instr.keyThatStays (pkey q) (pkey q)).run P w=.ok (pkey q) w:=by simp [Instr.keyThatStays,pkey,Instr.sameBits]
     simp [Instr.mapUpdate,run_underlying ht,MapKept.run_getObj_map hb,checkKey_ptr hk,h2,he0,hk0,hst,MapKept.run_setObj_map _ hb,Result.andThen,ChangeMaps.setBlock]
   · rw [← hl]
     apply List.ext_getElem?
     intro i
     simp only [List.getElem?_map,Array.getElem?_toList,Array.getElem?_modify]
     by_cases hij:j=i
     · subst hij;simp [he0,hk0]
     · simp [hij]
   · exact ⟨.inl,fun h=>by rcases h with h | rfl;exact h;exact List.mem_of_getElem? h1⟩
theorem run_pdel {P:Program}{b:Nat}{ps:List Nat} (h:PSet w b ps) (hc:∀ p∈ps,Cel w p) {t k e:TypeId} (ht:P.underlying t=some (.map k e)) (hk:PtrKey P k) {q:Nat} (hq:Cel w q) (t2 ty:TypeId) :
 ∃ w' ps',(Builtin.delete_ #[t,t2] ty #[.map (some b),pkey q]).run P w=.ok (.tuple #[]) w'∧PSet w' b ps'∧(∀ p,p∈ps' ↔ p∈ps∧p≠q)∧w.grownBy w' (some b)∧w'.heap.size=w.heap.size:=by
 obtain ⟨es,clock,hb,hl,hbn,hu⟩:=h
 rcases findKey_ptr hk hq hl hc with ⟨h1,h2⟩ | ⟨j,x,h1,h2⟩
 · refine ⟨ChangeMaps.setBlock w b (.map es clock),ps,?_,⟨_,_,ChangeMaps.heap_setBlock_same hb _,hl,hbn,hu⟩,fun p=>⟨fun h=>⟨h,fun e=>h1 (e ▸ h)⟩,fun h=>h.1⟩,⟨rfl,rfl,rfl,by simp [ChangeMaps.setBlock],fun i _ hi=>ChangeMaps.heap_setBlock_other hb _ (fun e=>hi (by rw [e]))⟩,by simp [ChangeMaps.setBlock]⟩
   simp [Builtin.delete_,run_underlying ht,MapKept.run_getObj_map hb,checkKey_ptr hk,h2,MapKept.run_setObj_map _ hb,Result.andThen,ChangeMaps.setBlock]
 · refine ⟨ChangeMaps.setBlock w b (.map (es.eraseIdxIfInBounds j) clock),ps.eraseIdx j,?_,⟨_,_,ChangeMaps.heap_setBlock_same hb _,?_,born_erase hbn j,(List.eraseIdx_sublist _ _).nodup hu⟩,fun p=>?_,⟨rfl,rfl,rfl,by simp [ChangeMaps.setBlock],fun i _ hi=>ChangeMaps.heap_setBlock_other hb _ (fun e=>hi (by rw [e]))⟩,by simp [ChangeMaps.setBlock]⟩
   · simp [Builtin.delete_,run_underlying ht,MapKept.run_getObj_map hb,checkKey_ptr hk,h2,MapKept.run_setObj_map _ hb,Result.andThen,ChangeMaps.setBlock]
   · rw [erase_list,ChangeMaps.map_eraseIdx,ChangeMaps.map_eraseIdx,hl]
   · have hj:j < ps.length:=(List.getElem?_eq_some_iff.1 h1).1
     have hjq:ps[j]=q:=(List.getElem?_eq_some_iff.1 h1).2
     have hm:=List.mem_eraseIdx_iff_getElem (l:=ps) (x:=p) (k:=j)
     rw [hm]
     constructor
     · rintro ⟨i,hi,hne,rfl⟩
       exact ⟨List.getElem_mem _,fun e=>hne ((List.getElem_inj hu).1 (e.trans hjq.symm))⟩
     · rintro ⟨hp,hne⟩
       obtain ⟨i,hi,rfl⟩:=List.getElem_of_mem hp
       exact ⟨i,hi,fun e=>hne (by subst e;exact hjq),rfl⟩
theorem run_plen {P:Program}{b:Nat}{ps:List Nat} (h:PSet w b ps) {t:TypeId} (ht:P.underlying t=some (.map (P.mapKeyOf t) (P.mapElemOf t))) (ty:TypeId):(Builtin.len_ #[t] ty #[.map (some b)]).run P w=.ok (.int .i64 (ps.length:Nat)) w:=by
 obtain ⟨es,clock,hb,hl,_⟩:=h
 have e:es.size=ps.length:=by simpa using congrArg List.length hl
 rw [run_len_map w t ty b es clock ht hb,e]
 rfl
end Kn
