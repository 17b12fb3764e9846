import Derived.Test.YtkghmgoefiepeaaGreatDoorQ0
import Derived.Test.YtkghmgoefiepeaaGreatDoorQ27
set_option linter.unusedSimpArgs false
set_option linter.unusedVariables false
set_option maxHeartbeats 4000000
set_option maxRecDepth 100000
namespace Kn
open Go
structure OneMeth (m m':Im) (c0:Nat) (sel:ByteArray) (x:Option (List (W×Nat))):Prop where
 len:m'.kl.length=m.kl.length
 kl:∀ (c:Nat) (k:Kl),m.kl[c]?=some k→∃ k':Kl,m'.kl[c]?=some k'∧k'.name=k.name∧k'.above=k.above∧k'.tot=k.tot
 own:∀ c s,m'.own c s=if c=c0∧s=sel then x else m.own c s
 looks:m'.looks=m.looks
 obs:m'.obs=m.obs
variable {m m' : Im}
theorem OneMeth.ab {c0:Nat}{sel:ByteArray}{x:Option (List (W×Nat))} (h:OneMeth m m' c0 sel x):m'.ab=m.ab:=by
 funext c
 unfold Im.ab
 cases hk:m.kl[c]? with
 | none =>
  have h1:m.kl.length≤c:=List.getElem?_eq_none_iff.1 hk
  have:m'.kl[c]?=none:=List.getElem?_eq_none_iff.2 (by rw [h.len];exact h1)
  rw [this]
 | some k =>
  obtain ⟨k',h1,_,h2,_⟩:=h.kl c k hk
  rw [h1]
  exact h2
theorem findIdx_names {α:Type} (f:α→ByteArray) (s:ByteArray):∀ (l l':List α),l'.length=l.length→(∀ (c:Nat) (k:α),l[c]?=some k→∃ k':α,l'[c]?=some k'∧f k'=f k)→l'.findIdx? (fun k=>f k==s)=l.findIdx? (fun k=>f k==s)
 | [],[],_,_=>rfl
 | [],_::_,h,_=>by cases h
 | _::_,[],h,_=>by cases h
 | x::r,x'::r',h,hx=>by
  obtain ⟨k',e1,e2⟩:=hx 0 x rfl
  simp at e1
  subst e1
  have:=findIdx_names f s r r' (by simpa using h) (fun c k hk=>by simpa using hx (c+1) k (by simpa using hk))
  simp only [List.findIdx?_cons,e2,this]
theorem OneMeth.cls {c0:Nat}{sel:ByteArray}{x:Option (List (W×Nat))} (h:OneMeth m m' c0 sel x) (s:ByteArray):m'.cls s=m.cls s :=
 findIdx_names Kl.name s _ _ h.len (fun c k hk=>by obtain ⟨k',h1,h2,_⟩:=h.kl c k hk;exact ⟨k',h1,h2⟩)
theorem own_set {c0:Nat} (hc:c0 < m.kl.length) (f:Kl→Kl) (c:Nat) (s:ByteArray):(m.setKl c0 f).own c s=if c=c0 then (m.kl[c0]?.bind (fun k=>(f k).own s)) else m.own c s:=by
 unfold Im.own
 rw [setKl_get]
 by_cases e:c=c0
 · subst e;simp [Option.bind_map,Function.comp_def]
 · have e':¬ c0=c:=fun h=>e h.symm
   simp [e,e']
theorem put_own (k:Kl) (x:Mt) (s:ByteArray):(k.put x).own s=if s=x.sel then some x.ws else k.own s:=by
 unfold Kl.put Kl.own
 simp only
 rw [List.find?_append]
 by_cases e:s=x.sel
 · subst e
   have:(k.ms.filter (fun y=>!(y.sel==x.sel))).find? (fun y=>y.sel==x.sel)=none:=by
    rw [List.find?_eq_none]
    intro y hy
    simp only [List.mem_filter] at hy
    simpa using hy.2
   rw [this]
   simp [beq_ba_self]
 · rw [if_neg e]
   have h1:([x]:List Mt).find? (fun y=>y.sel==s)=none:=by
    simp [List.find?_cons,(beq_ba_false x.sel s).2 (fun h=>e h.symm)]
   rw [h1,Option.or_none]
   congr 1
   rw [List.find?_filter]
   congr 1
   funext y
   cases hy:(y.sel==s) with
   | false=>simp
   | true =>
    have:y.sel=s:=(beq_ba y.sel s).1 hy
    rw [this,(beq_ba_false s x.sel).2 e]
    rfl
theorem drop_own (k:Kl) (sel s:ByteArray):(k.drop sel).own s=if s=sel then none else k.own s:=by
 unfold Kl.drop Kl.own
 simp only
 rw [List.find?_filter]
 by_cases e:s=sel
 · subst e
   rw [if_pos rfl]
   have:k.ms.find? (fun y=>decide (!(y.sel==s))&&(y.sel==s))=none:=by
    rw [List.find?_eq_none]
    intro y _
    cases hy:(y.sel==s) <;> simp
   simp only [Option.map_eq_none_iff]
   rw [List.find?_eq_none]
   intro y _
   cases hy:(y.sel==s) <;> simp
 · rw [if_neg e]
   congr 1
   congr 1
   funext y
   cases hy:(y.sel==s) with
   | false=>simp
   | true =>
    have:y.sel=s:=(beq_ba y.sel s).1 hy
    rw [this,(beq_ba_false s sel).2 e]
    rfl
theorem oneMeth_put {c0:Nat} (hc:c0 < m.kl.length) (x:Mt):OneMeth m (m.setKl c0 (·.put x)) c0 x.sel (some x.ws):=by
 refine ⟨setKl_len _ _ _,fun c k hk=>?_,fun c s=>?_,rfl,rfl⟩
 · rw [setKl_get]
   by_cases e:c0=c
   · rw [if_pos e,hk];exact ⟨_,rfl,rfl,rfl,rfl⟩
   · rw [if_neg e];exact ⟨k,hk,rfl,rfl,rfl⟩
 · rw [own_set hc]
   by_cases e:c=c0
   · subst e
     rw [if_pos rfl]
     unfold Im.own
     rw [List.getElem?_eq_getElem hc]
     simp only [Option.bind_some,put_own,true_and]
   · rw [if_neg e,if_neg (fun h=>e h.1)]
theorem oneMeth_drop {c0:Nat} (hc:c0 < m.kl.length) (sel:ByteArray):OneMeth m (m.setKl c0 (·.drop sel)) c0 sel none:=by
 refine ⟨setKl_len _ _ _,fun c k hk=>?_,fun c s=>?_,rfl,rfl⟩
 · rw [setKl_get]
   by_cases e:c0=c
   · rw [if_pos e,hk];exact ⟨_,rfl,rfl,rfl,rfl⟩
   · rw [if_neg e];exact ⟨k,hk,rfl,rfl,rfl⟩
 · rw [own_set hc]
   by_cases e:c=c0
   · subst e
     rw [if_pos rfl]
     unfold Im.own
     rw [List.getElem?_eq_getElem hc]
     simp only [Option.bind_some,drop_own,true_and]
   · rw [if_neg e,if_neg (fun h=>e h.1)]
end Kn
namespace Go.Proofs.YtkghmgoefiepeaaGreatDoor.reads
open Go.ChangeShapes Go.WideShapes Go.ChangeAt Go.RowKit Kn Go.Proofs.YtkghmgoefiepeaaGreatDoor.img
variable {w : World}
variable {m : Im}
variable {K : Kd}
theorem KIm.rowQ (h:KIm w m K):(∀ s r,SdI m K s r→RowQ m K.cb r∧r.sel=s)∧∀ r,SrI m K r→RowQ m K.cb r :=
 ⟨fun s r hr=>⟨.inl (hr.2.rowC h.ok),hr.1⟩,fun r hr=>by rcases hr with hr | hr;exact .inl (hr.rowC h.ok);exact .inr hr⟩
def Kd.meth (K:Kd) (c0:Nat) (sel:ByteArray) (x:Option Nat) (lm':List (ByteArray×Value)) (kc:Kc):Kd :=
 { K with lm:=fun c=>if c=c0 then lm' else K.lm c,mid:=fun c s=>if c=c0∧s=sel then x else K.mid c s,k:=kc }
structure Grew (N:Nat) (K kc:Kc):Prop where
 np:kc.np=K.np
 sb:kc.sb=K.sb
 n:kc.n=K.n
 l:∀ s ib,kc.l.lookup s=some (.map (some ib))→K.l.lookup s=some (.map (some ib))∨N≤ib
 blk:∀ k,CBlk kc k→CBlk K k∨N≤k
 g:∀ j,kc.Mk j→1≤(kc.md j).ws.length→(K.Mk j∧kc.md j=K.md j)∨N≤(kc.md j).g
 md:∀ k,K.Mk k→kc.Mk k∧kc.md k=K.md k
theorem Grew.of_kept {N:Nat}{K:Kc}{l:List (ByteArray×Value)}{ps:Nat→List Nat}{pm:Nat→Mm}{R:Nat→Rw4} (h:Kept N K l pm):Grew N K { K with l:=l,ps:=ps,pm:=pm,R:=R } :=
 ⟨rfl,rfl,rfl,h.l,fun k hk=>CBlk.old (K:=K) (ps:=ps) (R:=R) hk h.l h.arr,fun j hj _=>.inl ⟨hj,rfl⟩,fun k hk=>⟨hk,rfl⟩⟩
variable {w' : World}
variable {m' : Im}
theorem KIm.remeth (h:KIm w m K) {c0:Nat}{sel:ByteArray}{x:Option Nat}{lm':List (ByteArray×Value)}{kc:Kc} (hc0:c0 < m.kl.length) (hm':ImOk m') (ho:OneMeth m m' c0 sel (x.map (fun k=>(kc.md k).ws)))
 (hcor:Cor w' K.b kc (fun _=>False) (fun s r=>SdI m K s r∧leanM m K.cb c0 sel r=false) (fun r=>(SrI m K r∧leanM m K.cb c0 sel r=false)∨r=noRow)) (hgr:Grew w.heap.size K.k kc) (hx:∀ k,x=some k→kc.Mk k)
 (hlm:SMap w' (K.cm c0) lm') (hlk:∀ s,lm'.lookup s=if s=sel then x.map (fun k=>.pointer (some ⟨k,0,none⟩)) else (K.lm c0).lookup s) (hch:Chg w w' (fun j=>j=K.b∨j=K.cm c0∨CBlk K.k j)) (hd:SameHd w w' K.b) :
 Step w w' m K m' (K.meth c0 sel x lm' kc):=by
 have hmid:∀ c s,¬ (c=c0∧s=sel)→(if c=c0∧s=sel then x else K.mid c s)=K.mid c s:=fun c s e=>if_neg e
 have hAns:∀ r,Ans m K.cb K.mid r→leanM m K.cb c0 sel r=false→Ans m' K.cb (K.meth c0 sel x lm' kc).mid r:=fun r hr hl=>hr.ow h.ok hl ho.ab ho.len hmid
 have hcb:∀ c,c < m.kl.length→¬ (K.cb c=K.b∨K.cb c=K.cm c0∨CBlk K.k (K.cb c)):=fun c hc e=>by
  rcases e with e | e | e
  · exact (h.cor.clsn h.cls hc).2 e
  · exact cel_ne_map (h.cls.cel hc) (h.lm c0 hc0) e
  · exact (h.cor.clsn h.cls hc).1 e
 have hcm:∀ c,c < m.kl.length→c≠c0→¬ (K.cm c=K.b∨K.cm c=K.cm c0∨CBlk K.k (K.cm c)):=fun c hc hne e=>by
  obtain ⟨es,ck,hx,_⟩:=id (h.lm c hc)
  have hn:=h.cor.mapn hx (h.ap.cm_sb c hc) (fun s=>h.ap.cm_ib c s hc)
  rcases e with e | e | e
  · exact hn.2 e
  · exact hne (h.ap.cm_inj c c0 hc hc0 e)
  · exact hn.1 e
 have hmb:¬ (K.mb=K.b∨K.mb=K.cm c0∨CBlk K.k K.mb):=fun e=>by
  obtain ⟨es,ck,hx,_⟩:=id h.lc
  have hn:=h.cor.mapn hx h.ap.mb_sb h.ap.mb_ib
  rcases e with e | e | e
  · exact hn.2 e
  · exact h.ap.cm_mb c0 hc0 e.symm
  · exact hn.1 e
 have hob:∀ k,OBlk K.ob K.ov m.obs.length k→¬ (k=K.b∨k=K.cm c0∨CBlk K.k k):=fun k hk e=>by
  obtain ⟨cs,hcs⟩:=h.obs.kind hk
  have hcel:Cel w k:=by rcases hcs with e | e <;> exact ⟨_,_,e⟩
  rcases e with e | e | e
  · obtain ⟨cur,hcur⟩:=h.cor.img
    rw [← e] at hcur
    rcases hcs with hc | hc
    · rw [hcur] at hc;injection hc with hc;injection hc with _ hc _;revert hc;decide
    · rw [hcur] at hc;injection hc with hc;injection hc with _ hc _;revert hc;decide
  · exact cel_ne_map hcel (h.lm c0 hc0) e
  · rcases hcs with hc | hc
    · exact h.cor.other hc (by decide) (by decide) (by decide) e
    · exact h.cor.other hc (by decide) (by decide) (by decide) e
 have hfoot:∀ k,Foot m' (K.meth c0 sel x lm' kc) k→Foot m K k∨w.heap.size≤k:=fun k e=>by
  rcases e with e | e | ⟨c,hc,e⟩ | e | e | ⟨j,hj,h1,e⟩
  · exact .inl (.inl e)
  · exact .inl (.inr (.inl e))
  · exact .inl (.inr (.inr (.inl ⟨c,by rw [← ho.len];exact hc,e⟩)))
  · rcases hgr.blk k e with e | e
    · exact .inl (.inr (.inr (.inr (.inl e))))
    · exact .inr e
  · rw [ho.obs] at e
    exact .inl (.inr (.inr (.inr (.inr (.inl e)))))
  · rcases hgr.g j hj h1 with ⟨h2,h3⟩ | h2
    · have h1':1≤(K.k.md j).ws.length:=by rw [← h3];exact h1
      have e':k=(K.k.md j).g:=by rw [← h3];exact e
      exact .inl (.inr (.inr (.inr (.inr (.inr ⟨j,h2,h1',e'⟩)))))
    · exact .inr (by rw [e];exact h2)
 have hchF:Chg w w' (Foot m K):=hch.mono (fun k _ e=>by
  rcases e with e | e | e
  · exact .inl e
  · exact .inr (.inr (.inl ⟨c0,hc0,.inr e⟩))
  · exact .inr (.inr (.inr (.inl e))))
 have hglo:Glo w':=h.glo.chg hchF (fun k hg e=>h.gl k e hg)
 have hnp:(K.meth c0 sel x lm' kc).np=K.np:=hgr.np
 refine ⟨⟨hm',hcor.weaken (fun s r hr=>⟨hr.1.1,hAns r hr.1.2 hr.2⟩) (fun r hr=>?_),?_,hnp ▸ h.np6,?_,h.lc.same (hch.block _ h.lc.lt hmb),fun s=>?_,?_,?_,fun c hc=>?_,fun c s hc=>?_,fun c s=>?_,fun c s k hk=>?_,?_,?_,hglo,fun k hk hg=>?_⟩,rfl,hnp,hchF,hfoot,by rw [ho.len];exact Nat.le_refl _,fun _ _=>rfl,hgr.md⟩
 · rcases hr with ⟨hr | hr,hl⟩ | hr
   · exact .inl (hAns r hr hl)
   · exact .inr hr
   · exact .inr hr
 · have:=h.hd.hd hd
   exact ⟨this.c0,this.c1,by rw [ho.looks];exact this.c2,this.c3,by rw [hnp];exact this.c4⟩
 · rw [ho.looks];exact h.cll
 · rw [ho.cls s];exact h.lcl s
 · rw [ho.len];exact h.lcn
 · refine ⟨fun c k hk=>?_,fun c d hc hd=>h.cls.inj c d (by rw [← ho.len];exact hc) (by rw [← ho.len];exact hd)⟩
   have hc:c < m.kl.length:=by rw [← ho.len];exact (List.getElem?_eq_some_iff.1 hk).1
   obtain ⟨k',h1,h2,h3,h4⟩:=ho.kl c _ (List.getElem?_eq_getElem hc)
   rw [hk] at h1
   injection h1 with h1
   subst h1
   rw [h2,h3,h4]
   exact (hch.block _ (h.cls.cel hc).lt (hcb c hc)).trans (h.cls.at_ c _ (List.getElem?_eq_getElem hc))
 · have hc':c < m.kl.length:=by rw [← ho.len];exact hc
   by_cases e:c=c0
   · subst e
     show SMap w' (K.cm c) (if c=c then lm' else K.lm c)
     rw [if_pos rfl];exact hlm
   · show SMap w' (K.cm c) (if c=c0 then lm' else K.lm c)
     rw [if_neg e]
     exact (h.lm c hc').same (hch.block _ (h.lm c hc').lt (hcm c hc' e))
 · have hc':c < m.kl.length:=by rw [← ho.len];exact hc
   show (if c=c0 then lm' else K.lm c).lookup s=(if c=c0∧s=sel then x else K.mid c s).map _
   by_cases e:c=c0
   · subst e
     rw [if_pos rfl,hlk s]
     by_cases e2:s=sel
     · rw [if_pos e2,if_pos ⟨rfl,e2⟩]
     · rw [if_neg e2,if_neg (fun h=>e2 h.2)];exact h.mid c s hc'
   · rw [if_neg e,if_neg (fun h=>e h.1)];exact h.mid c s hc'
 · show m'.own c s=(if c=c0∧s=sel then x else K.mid c s).map (fun k=>(kc.md k).ws)
   rw [ho.own c s]
   by_cases e:c=c0∧s=sel
   · rw [if_pos e,if_pos e]
   · rw [if_neg e,if_neg e,h.own c s]
     cases hk:K.mid c s with
     | none=>rfl
     | some k=>simp only [Option.map_some];rw [(hgr.md k (h.isM c s k hk)).2]
 · have hk':(if c=c0∧s=sel then x else K.mid c s)=some k:=hk
   by_cases e:c=c0∧s=sel
   · rw [if_pos e] at hk';exact hx k hk'
   · rw [if_neg e] at hk';exact (hgr.md k (h.isM c s k hk')).1
 · have hnew:∀ k s,k < w.heap.size→K.k.l.lookup s≠some (.map (some k))→kc.l.lookup s≠some (.map (some k)):=fun k s hk hn e=>by
    rcases hgr.l s k e with e | e
    · exact hn e
    · omega
   refine ⟨?_,fun s=>hnew _ s h.lc.lt (h.ap.mb_ib s),fun c hc=>h.ap.cm_mb c (by rw [← ho.len];exact hc),fun c hc=>?_,fun c s hc=>?_,fun c d hc hd=>h.ap.cm_inj c d (by rw [← ho.len];exact hc) (by rw [← ho.len];exact hd)⟩
   · show K.mb≠kc.sb
     rw [hgr.sb];exact h.ap.mb_sb
   · show K.cm c≠kc.sb
     rw [hgr.sb];exact h.ap.cm_sb c (by rw [← ho.len];exact hc)
   · have hc':c < m.kl.length:=by rw [← ho.len];exact hc
     exact hnew _ s (h.lm c hc').lt (h.ap.cm_ib c s hc')
 · rw [ho.obs]
   exact h.obs.same (fun k hk=>hch.block k (h.obs.lt hk) (hob k hk))
 · rcases hfoot k hk with e | e
   · exact h.gl k e hg
   · have:=h.glo.lt hg;omega
theorem KIm.own_none (h:KIm w m K) {c:Nat}{s:ByteArray} (e:K.mid c s=none):m.own c s=none:=by rw [h.own,e];rfl
theorem KIm.own_some (h:KIm w m K) {c k:Nat}{s:ByteArray} (e:K.mid c s=some k):m.own c s=some (K.k.md k).ws:=by rw [h.own,e];rfl
theorem drop_any (h:KIm w m K) (cn sel:ByteArray) :
 Calls Tryz.prog 19 #[.pointer (some ⟨K.b,0,none⟩),.string cn,.string sel] w fun e w'=>e=.returned (.int .i64 (m.drop cn sel).1)∧∃ K',Step w w' m K (m.drop cn sel).2 K':=by
 have lk:=h.look cn
 have c0:=h.hd.c0
 cases hcl:m.cls cn with
 | none =>
  have hdr:m.drop cn sel=(2,m):=by unfold Im.drop;rw [hcl]
  rw [hdr]
  rw [hcl] at lk
  simp only [Option.map_none,cptr] at lk
  have HS:Hid (Step w w m K m K):=Step.refl h
  clear h hdr hcl
  go_enter Tryz.func19,Tryz.ntmps19
  go_wp2
  go_ret
  exact ⟨rfl,K,HS.out⟩
 | some c =>
  have hc:=cls_lt hcl
  rw [hcl] at lk
  simp only [Option.map_some,cptr] at lk
  have c4:=h.cls.meth hc
  have lk2:=h.lookM hc sel
  cases hmi:K.mid c sel with
  | none =>
   have hdr:m.drop cn sel=(4,m):=by unfold Im.drop;rw [hcl];simp only;rw [h.own_none hmi]
   rw [hdr]
   rw [hmi] at lk2
   simp only [Option.map_none,cptr] at lk2
   have HS:Hid (Step w w m K m K):=Step.refl h
   clear h hdr hcl
   go_enter Tryz.func19,Tryz.ntmps19
   go_wp2
   go_ret
   exact ⟨rfl,K,HS.out⟩
  | some k =>
   have hdr:m.drop cn sel=(0,m.setKl c (·.drop sel)):=by unfold Im.drop;rw [hcl];simp only;rw [h.own_some hmi]
   have hok:ImOk (m.drop cn sel).2:=(drop_ok h.ok cn sel).1
   rw [hdr] at hok ⊢
   rw [hmi] at lk2
   simp only [Option.map_some,cptr] at lk2
   have hcall:Calls Tryz.prog 49 #[.pointer (some ⟨K.b,0,none⟩),.pointer (some ⟨K.cb c,0,none⟩),.string sel] w fun e w'=>e=.returned (.tuple #[])∧∃ K',Step w w' m K (m.setKl c (·.drop sel)) K':=by
    refine (takeAway_cor h.cor m K.cb K.cm c k sel (K.lm c) h.ok hc h.cls (h.lm c hc) (h.ap.cm_sb c hc) (fun s=>h.ap.cm_ib c s hc) (h.isM c sel k hmi) (by rw [h.mid c sel hc,hmi];rfl) h.rowQ.1 h.rowQ.2).mono ?_
    rintro e w' ⟨rfl,l,ps,pm,R,hcor,hsm,hkp,hch,hd⟩
    exact ⟨rfl,_,h.remeth (x:=none) hc hok (oneMeth_drop hc sel) hcor (Grew.of_kept hkp) (fun k e=>by cases e) hsm (fun s=>by rw [lookup_del];rfl) hch hd⟩
   clear h hdr hcl hok
   go_enter Tryz.func19,Tryz.ntmps19
   go_wp2_with fail
   refine hcall.mono ?_
   rintro e w' ⟨rfl,hS⟩
   go_wp2
   go_ret
   exact ⟨rfl,hS⟩
theorem greatest_snoc (ws:List (Kn.W×Nat)) (k:Nat) (x:Kn.W×Nat) (hx:ws[k]?=some x):greatest (ws.take (k+1))=if x.1.k=103∨x.1.k=112 then max (greatest (ws.take k)) (x.1.n.toNat+1) else greatest (ws.take k):=by
 unfold greatest
 rw [List.take_add_one,hx,Option.toList_some,List.foldl_append]
 rfl
theorem greatest_le {ws:List (Kn.W×Nat)} (h:∀ (i:Nat) (x:Kn.W×Nat),ws[i]?=some x→(x.1.k=103∨x.1.k=112)→x.1.n < 10):∀ k,k≤ws.length→greatest (ws.take k)≤10
 | 0,_=>by simp [greatest]
 | k+1,hk=>by
  obtain ⟨x,hx⟩:∃ x,ws[k]?=some x:=⟨_,List.getElem?_eq_getElem (by omega)⟩
  rw [greatest_snoc ws k x hx]
  have ih:=greatest_le h k (by omega)
  by_cases e:x.1.k=103∨x.1.k=112
  · rw [if_pos e];have:=h k x hx e;omega
  · rw [if_neg e];exact ih
theorem mslots_any (L:List (Nat×ByteArray)) (k0:Nat) (d:Md) (w:World) (hm:MtAt w L k0 d) (hs:∀ (i:Nat) (x:Kn.W×Nat),d.ws[i]?=some x→(x.1.k=103∨x.1.k=112)→0≤x.1.n∧x.1.n < 10) (hf:∀ (i:Nat) (x:Kn.W×Nat),d.ws[i]?=some x→Fine0 x.1) :
 Calls Tryz.prog 67 #[.pointer (some ⟨k0,0,none⟩)] w fun e w'=>e=.returned (.int .i64 (greatest d.ws:Nat))∧Below w.heap.size w w':=by
 obtain ⟨n0,hb⟩:=hm.blk
 have m0:w.cell? ⟨k0,0,none⟩=some (.slice d.p d.ws.length d.cap):=by simp only [World.cell?,hb];rfl
 have hn:=hm.len
 have HM:Hid (MAt w d.p d.g d.ws d.pl d.ws.length):=hm.mat
 have HS:Hid _:=hs
 have HF:Hid _:=hf
 clear hm hs hf hb
 obtain ⟨ws,p,g,cap,pl⟩:=d
 simp only at m0 hn HM HS HF ⊢
 go_enter Tryz.func67,Tryz.ntmps67
 go_wp2
 go_loopw [3,11] (fun t i wr=>∃ k:Nat,i=.int .i64 k∧k≤ws.length∧t=.int .i64 (greatest (ws.take k):Nat)∧Below w.heap.size w wr) (fun _ i _=>ws.length - (intOf i).toNat)
 case atStart=>exact ⟨0,rfl,by omega,rfl,Below.refl _ _⟩
 case round =>
  obtain ⟨k,rfl,hk,rfl,hbw⟩:=hrel
  by_cases hkn:k < ws.length
  · obtain ⟨x,hx⟩:∃ x,ws[k]?=some x:=⟨_,List.getElem?_eq_getElem hkn⟩
    have hm:=HM.out
    obtain rfl:p=some ⟨g,0,none⟩:=hm.head (by omega)
    have hgl0:=(hm.cel (by omega)).lt
    have hwr:=hm.same (hbw.block g hgl0)
    have hgl:g < wr.heap.size:=Nat.lt_of_lt_of_le hgl0 hbw.size
    have c0:=hwr.c0 k x hx
    have c1:=hwr.c1 k x hx
    have c2:=hwr.c2 k x hx
    have c3:=hwr.c3 k x hx
    have c4:=hwr.c4 k x hx
    have c5:=hwr.c5 k x hx
    obtain ⟨q,hq⟩:∃ q,(if k < ws.length∧sendsW x.1=true then some (⟨pl k,0,none⟩:Addr) else none)=q:=⟨_,rfl⟩
    rw [hq] at c5
    have hgr:=greatest_snoc ws k x hx
    have hg10:greatest (ws.take k)≤10:=greatest_le (fun i x hx e=>(HS.out i x hx e).2) k hk
    have hs10:=HS.out k x hx
    obtain ⟨t,l,sd,jp,st,he⟩:=eff_of x.1.k x.1.n (HF.out k x hx).kind
    have hsl:=he.slot
    have HB:Hid _:=hbw
    have hsz:=hbw.size
    have hcall:=namesSlot_any (kindOf x.1.k) x.1.n (ofL x.1.a) (ofL x.1.sel) (ofL x.1.b) (wr.alloc (.cells #[.int .i64 (kindOf x.1.k:Nat),.int .i64 x.1.n,.string (ofL x.1.a),.string (ofL x.1.sel),.string (ofL x.1.b),.pointer q] 146)) (q:=q)
    have hz:=(MapKept.heap_alloc wr (.cells #[.int .i64 (kindOf x.1.k:Nat),.int .i64 x.1.n,.string (ofL x.1.a),.string (ofL x.1.sel),.string (ofL x.1.b),.pointer q] 146)).1
    clear hm hwr hbw he hq m0 hgl0
    cases hsb:slotB (kindOf x.1.k) with
    | false =>
     rw [hsb] at hcall
     have hno:¬ (x.1.k=103∨x.1.k=112):=fun e=>by have:=hsl.2 e;rw [hsb] at this;cases this
     rw [if_neg hno] at hgr
     have HG:Hid _:=hgr
     clear hs10 hsl hsb hno hgr hx
     go_wp2_with fail
     refine hcall.mono ?_
     rintro e w2 ⟨rfl,hb2⟩
     have HB2:Hid (Below w.heap.size w w2):=(HB.out.alloc hsz _).trans (hb2.mono (by simp;omega))
     clear hb2 hcall c0 c1 c2 c3 c4 c5
     go_wp2
     go_roundw
     case rel=>exact ⟨k+1,by go_num,by omega,by rw [HG.out],HB2.out⟩
     case measure=>simp [intOf] <;> omega
    | true =>
     rw [hsb] at hcall
     have hyes:=hsl.1 hsb
     rw [if_pos hyes] at hgr
     obtain ⟨hn0,hn10⟩:=hs10 hyes
     obtain ⟨xn,hxn⟩:∃ xn:Nat,x.1.n=(xn:Int):=⟨x.1.n.toNat,by omega⟩
     rw [hxn] at hgr hcall hz hn10
     rw [Int.toNat_natCast] at hgr
     have HG:Hid _:=hgr
     rw [hxn] at c1
     clear hs10 hsl hsb hyes hgr hx hn0 hxn
     go_wp2_with fail
     refine hcall.mono ?_
     rintro e w2 ⟨rfl,hb2⟩
     have HB2:Hid (Below w.heap.size w w2):=(HB.out.alloc hsz _).trans (hb2.mono (by simp;omega))
     have z1:w2.cell? ⟨wr.heap.size,1,none⟩=some (.int .i64 (xn:Nat)):=by
      refine (hb2.cell (p:=⟨wr.heap.size,1,none⟩) (by simp)).trans ?_
      simp only [World.cell?,hz];rfl
     clear hb2 hcall c0 c1 c2 c3 c4 c5
     go_wp2
     go_roundw
     case rel=>exact ⟨k+1,by go_num,by omega,by rw [HG.out];congr 1;split <;> omega,HB2.out⟩
     case measure=>simp [intOf] <;> omega
  · obtain rfl:k=ws.length:=by omega
    rw [List.take_length]
    go_wp2
    go_ret
    exact ⟨rfl,hbw⟩
theorem give_any (h:KIm w m K) {t k:Nat} (ht:t < m.kl.length) (hk:K.k.Mk k) (sel:ByteArray) (hok:ImOk (m.setKl t (·.put ⟨sel,(K.k.md k).ws⟩))) :
 Calls Tryz.prog 44 #[.pointer (some ⟨K.b,0,none⟩),.pointer (some ⟨K.cb t,0,none⟩),.string sel,.pointer (some ⟨k,0,none⟩)] w fun e w'=>e=.returned (.tuple #[])∧∃ K',Step w w' m K (m.setKl t (·.put ⟨sel,(K.k.md k).ws⟩)) K':=by
 refine (give_cor h.cor m K.cb K.cm t k sel (K.lm t) (K.mid t sel) h.ok ht h.cls (h.lm t ht) (h.ap.cm_sb t ht) (fun s=>h.ap.cm_ib t s ht) hk (.inl (fun _ e=>e)) (h.mid t sel ht) (fun k0 e=>h.isM t sel k0 e) h.rowQ.1 h.rowQ.2).mono ?_
 rintro e w' ⟨rfl,l,ps,pm,R,hcor,hsm,hkp,hch,hd⟩
 exact ⟨rfl,_,h.remeth (sel:=sel) (x:=some k) (kc:={ K.k with l:=l,ps:=ps,pm:=pm,R:=R }) ht hok (oneMeth_put ht ⟨sel,(K.k.md k).ws⟩) hcor (Grew.of_kept hkp) (fun k' e=>by injection e with e;subst e;exact hk) hsm (fun s=>by rw [lookup_put];rfl) hch hd⟩
theorem KIm.isSlots (h:KIm w m K) {c:Nat}{s:ByteArray}{ws:List (Kn.W×Nat)} (ho:m.own c s=some ws):(∀ (i:Nat) (x:Kn.W×Nat),ws[i]?=some x→(x.1.k=103∨x.1.k=112)→0≤x.1.n∧x.1.n < 10)∧∀ (i:Nat) (x:Kn.W×Nat),ws[i]?=some x→Fine0 x.1:=by
 obtain ⟨_,hg⟩:=own_good h.ok ho
 refine ⟨fun i x hx e=>⟨(hg.shp i x hx).low (by rcases e with e | e;exact .inr (.inl e);exact .inr (.inr e)),?_⟩,hg.fine⟩
 have hi:i < ws.length:=(List.getElem?_eq_some_iff.1 hx).1
 have hn:=hg.num i hi
 have hw:wAt ws i=x.1:=by unfold wAt;rw [hx];rfl
 have htot:m.tot c≤10:=by
  obtain ⟨k,_,hk,_⟩:=Kn.own_some ho
  rw [tot_of hk];exact h.ok.tot c k hk
 apply Classical.byContradiction
 intro hlt
 refine hn (.inr ?_)
 unfold slotBad
 rw [hw]
 exact ⟨e,by omega⟩
theorem copy_any (h:KIm w m K) (cn sel to:ByteArray) (hsz:sel.size≤140737488355328) :
 Calls Tryz.prog 32 #[.pointer (some ⟨K.b,0,none⟩),.string cn,.string sel,.string to] w fun e w'=>e=.returned (.int .i64 (m.copy cn sel to).1)∧∃ K',Step w w' m K (m.copy cn sel to).2 K':=by
 have lk:=h.drew.look cn
 have lk':=h.drew.look to
 have c0:w.cell? ⟨K.b,0,none⟩=some (.map (some K.mb)):=h.hd.c0
 have HS:Hid (Step w w.drew m K m K):=by
  have hx1:Step w w.drew m K m K:=Step.below h ⟨rfl,rfl,rfl,Nat.le_refl _,fun _ _=>rfl⟩
  exact hx1
 cases hcl:m.cls cn with
 | none =>
  have hdr:m.copy cn sel to=(2,m):=by unfold Im.copy;rw [hcl]
  rw [hdr]
  obtain ⟨v,hv⟩:∃ v,cptr ((m.cls to).map K.cb)=v:=⟨_,rfl⟩
  rw [hcl] at lk
  simp only [Option.map_none,cptr] at lk
  rw [hv] at lk'
  clear h hdr hcl hv
  go_enter Tryz.func32,Tryz.ntmps32
  go_wp2_with fail
  go_region
  go_wp2
  go_ret
  exact ⟨rfl,K,HS.out⟩
 | some c =>
  have hc:=cls_lt hcl
  rw [hcl] at lk
  simp only [Option.map_some,cptr] at lk
  cases hcl2:m.cls to with
  | none =>
   have hdr:m.copy cn sel to=(2,m):=by unfold Im.copy;rw [hcl,hcl2]
   rw [hdr]
   rw [hcl2] at lk'
   simp only [Option.map_none,cptr] at lk'
   clear h hdr hcl hcl2
   go_enter Tryz.func32,Tryz.ntmps32
   go_wp2_with fail
   go_region
   go_wp2
   go_ret
   exact ⟨rfl,K,HS.out⟩
  | some t =>
   have ht:=cls_lt hcl2
   rw [hcl2] at lk'
   simp only [Option.map_some,cptr] at lk'
   have c4:w.cell? ⟨K.cb c,4,none⟩=some (.map (some (K.cm c))):=h.cls.meth hc
   have lk2:=h.drew.lookM hc sel
   cases hmi:K.mid c sel with
   | none =>
    have hdr:m.copy cn sel to=(4,m):=by unfold Im.copy;rw [hcl,hcl2];simp only;rw [h.own_none hmi]
    rw [hdr]
    rw [hmi] at lk2
    simp only [Option.map_none,cptr] at lk2
    clear h hdr hcl
    go_enter Tryz.func32,Tryz.ntmps32
    go_wp2_with fail
    go_region
    go_wp2
    go_ret
    exact ⟨rfl,K,HS.out⟩
   | some k =>
    rw [hmi] at lk2
    simp only [Option.map_some,cptr] at lk2
    have how:=h.own_some hmi
    have hsl:=h.isSlots how
    have hmk:=h.isM c sel k hmi
    have hcp:m.copy cn sel to=if m.tot t < greatest (K.k.md k).ws then (7,m) else (0,m.setKl t (·.put ⟨sel,(K.k.md k).ws⟩)):=by unfold Im.copy;rw [hcl,hcl2];simp only;rw [how]
    have hok:=(copy_ok h.ok cn sel to).1
    have ht3:w.cell? ⟨K.cb t,3,none⟩=some (.int .i64 (m.tot t:Nat)):=by
     have:=h.cls.at_ t _ (List.getElem?_eq_getElem ht)
     rw [tot_of (List.getElem?_eq_getElem ht)]
     simp only [World.cell?,this];rfl
    have htl:=World.block_lt_of_cell? w ⟨K.cb t,3,none⟩ ht3
    have htot:m.tot t≤10:=by rw [tot_of (List.getElem?_eq_getElem ht)];exact h.ok.tot t _ (List.getElem?_eq_getElem ht)
    have hgr10:greatest (K.k.md k).ws≤10:=by have:=greatest_le (fun i x hx e=>(hsl.1 i x hx e).2) (K.k.md k).ws.length (Nat.le_refl _);rwa [List.take_length] at this
    have HH:Hid _:=h
    have HK:Hid (K.k.Mk k∧t < m.kl.length):=⟨hmk,ht⟩
    have hms:∀ W:World,Below w.heap.size w W→Calls Tryz.prog 67 #[.pointer (some ⟨k,0,none⟩)] W fun e w'=>e=.returned (.int .i64 (greatest (K.k.md k).ws:Nat))∧Below W.heap.size W w':=fun W hW=>mslots_any K.k.L k (K.k.md k) W ((h.below hW).cor.mt k hmk) hsl.1 hsl.2
    have hcall1:=hms w.drew.drew ⟨rfl,rfl,rfl,Nat.le_refl _,fun _ _=>rfl⟩
    obtain ⟨cr,hcr⟩:∃ cr,m.copy cn sel to=cr:=⟨_,rfl⟩
    rw [hcr] at hok hcp ⊢
    clear h hcl hcl2 hmi hmk hsl how hms hcr
    go_enter Tryz.func32,Tryz.ntmps32
    go_wp2_with fail
    go_region
    go_wp2_with fail
    clear c0 c4 lk lk' lk2
    refine wp_region_noPanic ?_
    refine wp_region_held_drew (S:=(fun w'=>w'.cell? ⟨K.cb t,3,none⟩=some (.int .i64 (m.tot t:Nat)))) (by kernel_rfl) (by go_keep) (fun hHeld=>?_)
    refine tkH 0 ?_
    refine tkH 2 ?_
    refine tkH 3 ?_
    refine tkH 4 ?_
    refine tkL 5 ?_
    refine rdH 1 fun Kmac hKmac=>?_
    go_simp
    refine hcall1.mono ?_;rintro e w2 ⟨rfl,hb2⟩;have ht4:w2.cell? ⟨K.cb t,3,none⟩=some (.int .i64 (m.tot t:Nat)):=(hb2.cell (p:=⟨K.cb t,3,none⟩) htl).trans ht3
    try go_wp2_with fail
    refine hKmac.go fun hHeld=>?_
    clear hKmac Kmac
    try refine lyH ?_
    refine tkL 6 ?_
    refine wpAnyH_done (by kernel_rfl) ?_ _
    refine NoPanic.normal ?_
    clear hHeld
    clear hHeld
    have HB:Hid (Below w.heap.size w w2):=by
     have hx1:Below w.heap.size w w2:=undrew (undrew hb2)
     exact hx1
    clear hb2 hcall1 ht3
    by_cases hlt:m.tot t < greatest (K.k.md k).ws
    · rw [if_pos hlt] at hcp
      have hi:(m.tot t:Int) < (greatest (K.k.md k).ws:Int):=by omega
      subst hcp
      clear hok
      go_wp2
      go_ret
      exact ⟨rfl,K,Step.below HH.out HB.out⟩
    · rw [if_neg hlt] at hcp
      subst hcp
      have hi:¬ (m.tot t:Int) < (greatest (K.k.md k).ws:Int):=by omega
      have HO:Hid _:=hok
      clear hok
      go_wp2_with fail
      refine (clone_any sel _ hsz).mono ?_
      rintro e w3 ⟨rfl,hb3⟩
      have HB3:Hid (Below w.heap.size w w3):=HB.out.trans (hb3.mono HB.out.size)
      have hcall:=give_any (HH.out.below HB3.out) HK.out.2 HK.out.1 sel HO.out
      clear hb3
      go_wp2_with fail
      refine hcall.mono ?_
      rintro e w4 ⟨rfl,K',hS⟩
      have HS4:Hid (∃ K',Step w w4 m K (m.setKl t (·.put ⟨sel,(K.k.md k).ws⟩)) K'):=by
       have hx1:∃ K',Step w w4 m K (m.setKl t (·.put ⟨sel,(K.k.md k).ws⟩)) K':=⟨K',(Step.below HH.out HB3.out).trans hS⟩
       exact hx1
      clear hS hcall
      go_wp2
      go_ret
      exact ⟨rfl,HS4.out⟩
theorem own_sel (h:ImOk m) {c:Nat}{sel:ByteArray}{ws:List (Kn.W×Nat)} (e:m.own c sel=some ws):selector (bl sel)=true:=by
 unfold Im.own at e
 obtain ⟨k,hk,e⟩:=Option.bind_eq_some_iff.1 e
 unfold Kl.own at e
 obtain ⟨x,hx,_⟩:=Option.map_eq_some_iff.1 e
 have h1:=List.find?_some hx
 have h2:=(h.meth c k x hk (List.mem_of_find?_eq_some hx)).1
 have hs:x.sel=sel:=Classical.byContradiction fun hne=>by
  rw [(beq_ba_false _ _).2 hne] at h1
  cases h1
 rw [← hs]
 exact h2
theorem sel_small {s:ByteArray} (h:selector (bl s)=true):s.size≤8:=by
 unfold selector at h
 simp only [Bool.and_eq_true,decide_eq_true_eq] at h
 exact h.1.1.1.1.2
theorem own_small (h:ImOk m) {c:Nat}{sel:ByteArray}{ws:List (Kn.W×Nat)} (e:m.own c sel=some ws):sel.size≤8:=sel_small (own_sel h e)
theorem copy_all (h:KIm w m K) (cn sel to:ByteArray) :
 Calls Tryz.prog 32 #[.pointer (some ⟨K.b,0,none⟩),.string cn,.string sel,.string to] w fun e w'=>e=.returned (.int .i64 (m.copy cn sel to).1)∧∃ K',Step w w' m K (m.copy cn sel to).2 K':=by
 have lk:=h.drew.look cn
 have lk':=h.drew.look to
 have c0:w.cell? ⟨K.b,0,none⟩=some (.map (some K.mb)):=h.hd.c0
 have HS:Hid (Step w w.drew m K m K):=by
  have hx1:Step w w.drew m K m K:=Step.below h ⟨rfl,rfl,rfl,Nat.le_refl _,fun _ _=>rfl⟩
  exact hx1
 cases hcl:m.cls cn with
 | none =>
  have hdr:m.copy cn sel to=(2,m):=by unfold Im.copy;rw [hcl]
  rw [hdr]
  obtain ⟨v,hv⟩:∃ v,cptr ((m.cls to).map K.cb)=v:=⟨_,rfl⟩
  rw [hcl] at lk
  simp only [Option.map_none,cptr] at lk
  rw [hv] at lk'
  clear h hdr hcl hv
  go_enter Tryz.func32,Tryz.ntmps32
  go_wp2_with fail
  go_region
  go_wp2
  go_ret
  exact ⟨rfl,K,HS.out⟩
 | some c =>
  have hc:=cls_lt hcl
  rw [hcl] at lk
  simp only [Option.map_some,cptr] at lk
  cases hcl2:m.cls to with
  | none =>
   have hdr:m.copy cn sel to=(2,m):=by unfold Im.copy;rw [hcl,hcl2]
   rw [hdr]
   rw [hcl2] at lk'
   simp only [Option.map_none,cptr] at lk'
   clear h hdr hcl hcl2
   go_enter Tryz.func32,Tryz.ntmps32
   go_wp2_with fail
   go_region
   go_wp2
   go_ret
   exact ⟨rfl,K,HS.out⟩
  | some t =>
   have ht:=cls_lt hcl2
   rw [hcl2] at lk'
   simp only [Option.map_some,cptr] at lk'
   have c4:w.cell? ⟨K.cb c,4,none⟩=some (.map (some (K.cm c))):=h.cls.meth hc
   have lk2:=h.drew.lookM hc sel
   cases hmi:K.mid c sel with
   | none =>
    have hdr:m.copy cn sel to=(4,m):=by unfold Im.copy;rw [hcl,hcl2];simp only;rw [h.own_none hmi]
    rw [hdr]
    rw [hmi] at lk2
    simp only [Option.map_none,cptr] at lk2
    clear h hdr hcl
    go_enter Tryz.func32,Tryz.ntmps32
    go_wp2_with fail
    go_region
    go_wp2
    go_ret
    exact ⟨rfl,K,HS.out⟩
   | some k=>exact copy_any h cn sel to (by have:=own_small h.ok (h.own_some hmi);omega)
end Go.Proofs.YtkghmgoefiepeaaGreatDoor.reads
