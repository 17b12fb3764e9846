import Derived.Test.YtkghmgoefiepeaaGreatDoorQ0
import Derived.Test.YtkghmgoefiepeaaGreatDoorQ28
set_option linter.unusedSimpArgs false
set_option linter.unusedVariables false
set_option maxHeartbeats 4000000
set_option maxRecDepth 100000
namespace Kn
open Go
variable {m m' : Im}
theorem cls_names (hl:m'.kl.length=m.kl.length) (hk:∀ (c:Nat) (k:Kl),m.kl[c]?=some k→∃ k':Kl,m'.kl[c]?=some k'∧k'.name=k.name) (s:ByteArray):m'.cls s=m.cls s:=findIdx_names Kl.name s _ _ hl hk
theorem cls_two (h:ImOk m) {s:ByteArray}{c:Nat} (hc:m.cls s=some c):(c=0 ↔ s=⟨#[65,110,121]⟩)∧(c=1 ↔ s=⟨#[73,110,116]⟩):=by
 obtain ⟨k,hk,hn⟩:=cls_some hc
 obtain ⟨ms0,h0⟩:=h.any
 obtain ⟨ms1,h1⟩:=h.int
 refine ⟨⟨fun e=>?_,fun e=>?_⟩,⟨fun e=>?_,fun e=>?_⟩⟩
 · subst e;rw [h0] at hk;injection hk with hk;rw [← hn,← hk]
 · exact h.once c 0 k _ hk h0 (by rw [hn,e])
 · subst e;rw [h1] at hk;injection hk with hk;rw [← hn,← hk]
 · exact h.once c 1 k _ hk h1 (by rw [hn,e])
end Kn
namespace Go.Proofs.YtkghmgoefiepeaaGreatDoor.reads
open Go.ChangeShapes Go.WideShapes Go.ChangeAt Go.RowKit Kn Go.Proofs.YtkghmgoefiepeaaGreatDoor.img
variable {w : World}
variable {m : Im}
variable {K : Kd}
theorem KIm.forgotFoot (h:KIm w m K) {k:Nat} (e:k=K.b∨PlBlk K.k.L K.k.pm k):Foot m K k:=by
 rcases e with e | e
 · exact .inl e
 · exact .inr (.inr (.inr (.inl (.inr (.inr (.inl e))))))
theorem KIm.forgotNot (h:KIm w m K):(∀ c,c < m.kl.length→¬ (K.cb c=K.b∨PlBlk K.k.L K.k.pm (K.cb c)))∧(∀ c,c < m.kl.length→¬ (K.cm c=K.b∨PlBlk K.k.L K.k.pm (K.cm c)))∧¬ (K.mb=K.b∨PlBlk K.k.L K.k.pm K.mb)∧∀ k,OBlk K.ob K.ov m.obs.length k→¬ (k=K.b∨PlBlk K.k.L K.k.pm k):=by
 refine ⟨fun c hc e=>?_,fun c hc e=>?_,fun e=>?_,fun k hk e=>?_⟩
 · rcases e with e | e
   · exact (h.cor.clsn h.cls hc).2 e
   · exact (h.cor.clsn h.cls hc).1 (.inr (.inr (.inl e)))
 · obtain ⟨es,ck,hx,_⟩:=id (h.lm c hc)
   have hn:=h.cor.mapn hx (h.ap.cm_sb c hc) (fun s=>h.ap.cm_ib c s hc)
   rcases e with e | e
   · exact hn.2 e
   · exact hn.1 (.inr (.inr (.inl e)))
 · obtain ⟨es,ck,hx,_⟩:=id h.lc
   have hn:=h.cor.mapn hx h.ap.mb_sb h.ap.mb_ib
   rcases e with e | e
   · exact hn.2 e
   · exact hn.1 (.inr (.inr (.inl e)))
 · obtain ⟨cs,hcs⟩:=h.obs.kind hk
   rcases e with e | e
   · obtain ⟨cur,hcur⟩:=h.cor.img
     rw [← e] at hcur
     rcases hcs with hc | hc
     · rw [hcur] at hc;injection hc with hc;injection hc with _ hc _;revert hc;decide
     · rw [hcur] at hc;injection hc with hc;injection hc with _ hc _;revert hc;decide
   · rcases hcs with hc | hc
     · exact h.cor.other hc (by decide) (by decide) (by decide) (.inr (.inr (.inl e)))
     · exact h.cor.other hc (by decide) (by decide) (by decide) (.inr (.inr (.inl e)))
theorem Grew.of_arr {N:Nat}{K:Kc}{pm:Nat→Mm}{R:Nat→Rw4} (h:∀ p q,(pm p).arr=some q→(K.pm p).arr=some q):Grew N K { K with pm:=pm,R:=R } :=
 ⟨rfl,rfl,rfl,fun s ib e=>.inl e,fun k hk=>CBlk.old (K:=K) (l:=K.l) (ps:=K.ps) (R:=R) hk (fun s ib e=>.inl e) (fun p q e=>.inl (h p q e)),fun j hj _=>.inl ⟨hj,rfl⟩,fun k hk=>⟨hk,rfl⟩⟩
variable {w' : World}
theorem KIm.forgot (h:KIm w m K) {pm:Nat→Mm}{R:Nat→Rw4} (hcor:Cor w' K.b { K.k with pm:=pm,R:=R } (fun _=>False) (SdI m K) (SrI m K)) (ha:∀ p q,(pm p).arr=some q→(K.k.pm p).arr=some q) (hch:Chg w w' (fun k=>k=K.b∨PlBlk K.k.L K.k.pm k)) (hd:SameHd w w' K.b) :
 Step w w' m K m { K with k:={ K.k with pm:=pm,R:=R } }:=by
 obtain ⟨n1,n2,n3,n4⟩:=h.forgotNot
 have hgr:Grew w.heap.size K.k { K.k with pm:=pm,R:=R }:=Grew.of_arr ha
 have hfoot:∀ k,Foot m { K with k:={ K.k with pm:=pm,R:=R } } k→Foot m K k∨w.heap.size≤k:=fun k e=>by
  rcases e with e | e | e | e | e | e
  · exact .inl (.inl e)
  · exact .inl (.inr (.inl e))
  · exact .inl (.inr (.inr (.inl e)))
  · rcases hgr.blk k e with e | e
    · exact .inl (.inr (.inr (.inr (.inl e))))
    · exact .inr e
  · exact .inl (.inr (.inr (.inr (.inr (.inl e)))))
  · exact .inl (.inr (.inr (.inr (.inr (.inr e)))))
 have hchF:Chg w w' (Foot m K):=hch.mono (fun k _ e=>h.forgotFoot e)
 have hh:=h.hd.hd hd
 refine ⟨⟨h.ok,hcor,⟨hh.c0,hh.c1,hh.c2,hh.c3,hh.c4⟩,h.np6,h.cll,h.lc.same (hch.block _ h.lc.lt n3),h.lcl,h.lcn,h.cls.chg hch n1,fun c hc=>(h.lm c hc).same (hch.block _ (h.lm c hc).lt (n2 c hc)),h.mid,h.own,h.isM,⟨h.ap.mb_sb,h.ap.mb_ib,h.ap.cm_mb,h.ap.cm_sb,h.ap.cm_ib,h.ap.cm_inj⟩,h.obs.same (fun k hk=>hch.block k (h.obs.lt hk) (n4 k hk)),h.glo.chg hchF (fun k hg e=>h.gl k e hg),fun k hk hg=>?_⟩,rfl,rfl,hchF,hfoot,Nat.le_refl _,fun _ _=>rfl,fun k hk=>⟨hk,rfl⟩⟩
 rcases hfoot k hk with e | e
 · exact h.gl k e hg
 · have:=h.glo.lt hg;omega
def flushE (s:ByteArray):Int:=if s≠⟨#[]⟩∧selector (bl s)=false then 1 else 0
theorem flush_any (h:KIm w m K) (sel:ByteArray) (hsz:sel.size≤140737488355328) :
 Calls Tryz.prog 14 #[.pointer (some ⟨K.b,0,none⟩),.string sel] w fun e w'=>e=.returned (.int .i64 (flushE sel))∧∃ K',Step w w' m K m K':=by
 by_cases he:sel=⟨#[]⟩
 · have hcall:Calls Tryz.prog 35 #[.pointer (some ⟨K.b,0,none⟩)] w fun e w'=>e=.returned (.tuple #[])∧∃ K',Step w w' m K m K':=by
    refine (forgetAll_cor h.cor (.inr rfl)).mono ?_
    rintro e w' ⟨rfl,pm,R,hcor,ha,hch,hd⟩
    exact ⟨rfl,_,h.forgot hcor ha hch hd⟩
   have hfe:flushE sel=0:=by unfold flushE;rw [if_neg];exact fun e=>e.1 he
   rw [hfe]
   subst he
   clear h hfe
   go_enter Tryz.func14,Tryz.ntmps14
   go_wp2_with fail
   refine hcall.mono ?_
   rintro e w' ⟨rfl,hS⟩
   go_wp2
   go_ret
   exact ⟨rfl,hS⟩
 · have hne:¬ sel.toList=[]:=fun e=>by
    have:=ba_apart he
    rw [e] at this
    simp at this
   have hem:sel.toList.isEmpty=false:=by
    cases hx:sel.toList with
    | nil=>exact absurd hx hne
    | cons a l=>rfl
   have HH:Hid _:=h
   have HN:Hid _:=he
   clear h he
   go_enter Tryz.func14,Tryz.ntmps14
   go_wp2_with fail
   refine (isSelector_any sel w hsz).mono ?_
   rintro e w1 ⟨rfl,hb1⟩
   have HB:Hid _:=hb1
   clear hb1
   cases hs:selector (bl sel) with
   | false =>
    have HFE:Hid (flushE sel=1):=by
     have hx1:flushE sel=1:=by unfold flushE;rw [if_pos];exact ⟨HN.out,hs⟩
     exact hx1
    clear hs
    go_wp2
    go_ret
    exact ⟨by rw [HFE.out];rfl,K,Step.below HH.out HB.out⟩
   | true =>
    have HFE:Hid (flushE sel=0):=by
     have hx1:flushE sel=0:=by unfold flushE;rw [if_neg];rw [hs];exact fun e=>by cases e.2
     exact hx1
    have hcall:Calls Tryz.prog 36 #[.pointer (some ⟨K.b,0,none⟩),.string sel] w1 fun e w'=>e=.returned (.tuple #[])∧∃ K',Step w w' m K m K':=by
     have h1:=HH.out.below HB.out
     refine (forgetSel_cor h1.cor (.inr rfl) sel).mono ?_
     rintro e w' ⟨rfl,pm,R,hcor,ha,hch,hd⟩
     exact ⟨rfl,_,(Step.below HH.out HB.out).trans (h1.forgot hcor ha hch hd)⟩
    clear hs
    go_wp2_with fail
    refine hcall.mono ?_
    rintro e w' ⟨rfl,hS⟩
    go_wp2
    go_ret
    exact ⟨by rw [HFE.out];rfl,hS⟩
theorem moveKl_get (m:Im) (c a d:Nat) (k:Kl) (hk:m.kl[d]?=some k):(m.setKl c (fun k=>{ k with above:=some a })).kl[d]?=some (if c=d then { k with above:=some a } else k):=by
 rw [setKl_get,hk]
 by_cases e:c=d
 · rw [if_pos e,if_pos e];rfl
 · rw [if_neg e,if_neg e]
theorem moveKl_own (m:Im) (c a d:Nat) (s:ByteArray):(m.setKl c (fun k=>{ k with above:=some a })).own d s=m.own d s:=by
 unfold Im.own
 rw [setKl_get]
 by_cases e:c=d
 · rw [if_pos e];cases m.kl[d]? <;> rfl
 · rw [if_neg e]
theorem moveKl_ab (m:Im) (c a d:Nat) (hd:d≠c):(m.setKl c (fun k=>{ k with above:=some a })).ab d=m.ab d:=by
 unfold Im.ab
 rw [setKl_get,if_neg (fun e=>hd e.symm)]
theorem Cor.clsg {b:Nat}{K:Kc}{X:Nat→Prop}{Sd:ByteArray→Rw4→Prop}{Sr:Rw4→Prop} (h:Cor w b K X Sd Sr) {cb cm:Nat→Nat} (hcl:Cls w m cb cm) {c:Nat} (hc:c < m.kl.length) {j:Nat} (hj:K.Mk j) (h1:1≤(K.md j).ws.length):(K.md j).g≠cb c:=fun e=>by
 obtain ⟨x,hx⟩:∃ x,(K.md j).ws[0]?=some x:=⟨_,List.getElem?_eq_getElem (by omega)⟩
 have h0:=(h.mt j hj).mat.c5 0 x hx
 have h2:=hcl.at_ c _ (List.getElem?_eq_getElem hc)
 rw [e] at h0
 simp only [World.cell?,h2] at h0
 simp at h0
theorem KIm.moved {w w3:World} (h:KIm w m K) {c a:Nat} (hc:c < m.kl.length) (ha:a < m.kl.length) (hm':ImOk (m.setKl c (fun k=>{ k with above:=some a }))) {pm:Nat→Mm}{R:Nat→Rw4}
 (hcor:Cor w3 K.b { K.k with pm:=pm,R:=R } (fun _=>False) (fun s r=>SdI m K s r∧leanV m K.cb c r=false) (fun r=>(SrI m K r∧leanV m K.cb c r=false)∨r=noRow)) (har:∀ p q,(pm p).arr=some q→(K.k.pm p).arr=some q) (hch:Chg w w3 (fun k=>k=K.b∨PlBlk K.k.L K.k.pm k)) (hd:SameHd w w3 K.b) :
 Step w (w3.setCell ⟨K.cb c,2,none⟩ (.pointer (some ⟨K.cb a,0,none⟩))) m K (m.setKl c (fun k=>{ k with above:=some a })) { K with k:={ K.k with pm:=pm,R:=R } }:=by
 obtain ⟨n1,n2,n3,n4⟩:=h.forgotNot
 have hcl3:Cls w3 m K.cb K.cm:=h.cls.chg hch n1
 have hgr:Grew w.heap.size K.k { K.k with pm:=pm,R:=R }:=Grew.of_arr har
 have hset:∀ j,j≠K.cb c→(w3.setCell ⟨K.cb c,2,none⟩ (.pointer (some ⟨K.cb a,0,none⟩))).heap[j]?=w3.heap[j]?:=fun j hj=>Below.heap_setCell _ _ _ _ hj
 have hlen:(m.setKl c (fun k=>{ k with above:=some a })).kl.length=m.kl.length:=setKl_len _ _ _
 have hAns:∀ r,Ans m K.cb K.mid r→leanV m K.cb c r=false→Ans (m.setKl c (fun k=>{ k with above:=some a })) K.cb K.mid r:=fun r hr hl=>hr.ab h.ok hl (fun d hd=>moveKl_ab m c a d hd) hlen h.cls.inj hc
 have hcls:∀ s,(m.setKl c (fun k=>{ k with above:=some a })).cls s=m.cls s:=cls_names hlen (fun d k hk=>⟨_,moveKl_get m c a d k hk,by by_cases e:c=d <;> simp [e]⟩)
 have hfoot:∀ k,Foot (m.setKl c (fun k=>{ k with above:=some a })) { K with k:={ K.k with pm:=pm,R:=R } } k→Foot m K k∨w.heap.size≤k:=fun k e=>by
  rcases e with e | e | ⟨d,hd,e⟩ | e | e | e
  · exact .inl (.inl e)
  · exact .inl (.inr (.inl e))
  · exact .inl (.inr (.inr (.inl ⟨d,by rw [← hlen];exact hd,e⟩)))
  · rcases hgr.blk k e with e | e
    · exact .inl (.inr (.inr (.inr (.inl e))))
    · exact .inr e
  · exact .inl (.inr (.inr (.inr (.inr (.inl e)))))
  · exact .inl (.inr (.inr (.inr (.inr (.inr e)))))
 have hchF:Chg w (w3.setCell ⟨K.cb c,2,none⟩ (.pointer (some ⟨K.cb a,0,none⟩))) (Foot m K):=(hch.mono (fun k _ e=>h.forgotFoot e)).setCell _ _ (fun _=>.inr (.inr (.inl ⟨c,hc,.inl rfl⟩)))
 have hbn:=(h.cor.clsn h.cls hc).2
 have hh:=h.hd.hd hd
 have hh':∀ o,(w3.setCell ⟨K.cb c,2,none⟩ (.pointer (some ⟨K.cb a,0,none⟩))).cell? ⟨K.b,o,none⟩=w3.cell? ⟨K.b,o,none⟩:=fun o=>World.cell?_of_block (a:=⟨K.b,o,none⟩) (hset K.b hbn.symm)
 have hmapn:∀ k l,SMap w3 k l→(w3.setCell ⟨K.cb c,2,none⟩ (.pointer (some ⟨K.cb a,0,none⟩))).heap[k]?=w3.heap[k]?:=fun k l hs=>hset k (fun e=>cel_ne_map (hcl3.cel hc) hs e.symm)
 have hlc3:SMap w3 K.mb K.lc:=h.lc.same (hch.block _ h.lc.lt n3)
 have hlm3:∀ d,d < m.kl.length→SMap w3 (K.cm d) (K.lm d):=fun d hd=>(h.lm d hd).same (hch.block _ (h.lm d hd).lt (n2 d hd))
 have hcorF:Cor (w3.setCell ⟨K.cb c,2,none⟩ (.pointer (some ⟨K.cb a,0,none⟩))) K.b { K.k with pm:=pm,R:=R } (fun _=>False) (fun s r=>SdI m K s r∧leanV m K.cb c r=false) (fun r=>(SrI m K r∧leanV m K.cb c r=false)∨r=noRow) :=
  hcor.same (hset _ hbn.symm) (fun k e=>hset k (fun e'=>(hcor.clsn hcl3 hc).1 (by rw [← e'];exact e))) (fun k hk h1=>hset _ (hcor.clsg hcl3 hc hk h1))
 refine ⟨⟨hm',hcorF.weaken (fun s r hr=>⟨hr.1.1,hAns r hr.1.2 hr.2⟩) (fun r hr=>?_),⟨(hh' 0).trans hh.c0,(hh' 1).trans hh.c1,(hh' 2).trans hh.c2,(hh' 3).trans hh.c3,(hh' 4).trans hh.c4⟩,h.np6,h.cll,hlc3.same (hmapn _ _ hlc3),fun s=>by rw [hcls s];exact h.lcl s,by rw [hlen];exact h.lcn,?_,fun d hd=>(hlm3 d (by rw [← hlen];exact hd)).same (hmapn _ _ (hlm3 d (by rw [← hlen];exact hd))),fun d s hd=>h.mid d s (by rw [← hlen];exact hd),fun d s=>by rw [moveKl_own];exact h.own d s,h.isM,?_,?_,h.glo.chg hchF (fun k hg e=>h.gl k e hg),fun k hk hg=>?_⟩,rfl,rfl,hchF,hfoot,by rw [hlen];exact Nat.le_refl _,fun _ _=>rfl,fun k hk=>⟨hk,rfl⟩⟩
 · rcases hr with ⟨hr | hr,hl⟩ | hr
   · exact .inl (hAns r hr hl)
   · exact .inr hr
   · exact .inr hr
 · refine ⟨fun d k hk=>?_,fun d e hd he=>h.cls.inj d e (by rw [← hlen];exact hd) (by rw [← hlen];exact he)⟩
   have hd':d < m.kl.length:=by rw [← hlen];exact (List.getElem?_eq_some_iff.1 hk).1
   have hx:=List.getElem?_eq_getElem hd'
   rw [moveKl_get m c a d _ hx] at hk
   injection hk with hk
   have h3:=hcl3.at_ d _ hx
   by_cases e:c=d
   · subst e
     rw [if_pos rfl] at hk
     rw [← hk]
     simp only [World.setCell,Array.getElem?_modify,if_pos,h3]
     rfl
   · rw [if_neg e] at hk
     rw [← hk]
     exact (hset _ (fun e'=>e (h.cls.inj d c hd' hc e').symm)).trans h3
 · exact ⟨h.ap.mb_sb,h.ap.mb_ib,fun d hd=>h.ap.cm_mb d (by rw [← hlen];exact hd),fun d hd=>h.ap.cm_sb d (by rw [← hlen];exact hd),fun d s hd=>h.ap.cm_ib d s (by rw [← hlen];exact hd),fun d e hd he=>h.ap.cm_inj d e (by rw [← hlen];exact hd) (by rw [← hlen];exact he)⟩
 · refine h.obs.same (fun k hk=>(hset k (fun e=>?_)).trans (hch.block k (h.obs.lt hk) (n4 k hk)))
   obtain ⟨cs,hcs⟩:=h.obs.kind hk
   have h1:=h.cls.at_ c _ (List.getElem?_eq_getElem hc)
   rw [← e] at h1
   rcases hcs with hx | hx
   · rw [h1] at hx;injection hx with hx;injection hx with _ hx _;revert hx;decide
   · rw [h1] at hx;injection hx with hx;injection hx with _ hx _;revert hx;decide
 · rcases hfoot k hk with e | e
   · exact h.gl k e hg
   · have:=h.glo.lt hg;omega
theorem not_lit {s:ByteArray}{a:Array UInt8} (h:¬ s=⟨a⟩):¬ s.toList=a.toList:=fun e=>h (by
 rw [ByteArray.toList_eq] at e
 cases s
 congr 1
 exact Array.toList_inj.1 e)
theorem Cls.tot {cb cm:Nat→Nat} (h:Cls w m cb cm) {c:Nat} (hc:c < m.kl.length):w.cell? ⟨cb c,3,none⟩=some (.int .i64 (m.tot c:Nat)):=by
 have:=h.at_ c _ (List.getElem?_eq_getElem hc)
 rw [tot_of (List.getElem?_eq_getElem hc)]
 simp only [World.cell?,this];rfl
theorem tot_le (h:ImOk m) (c:Nat):m.tot c≤10:=by
 by_cases hc:c < m.kl.length
 · rw [tot_of (List.getElem?_eq_getElem hc)];exact h.tot c _ (List.getElem?_eq_getElem hc)
 · unfold Im.tot;rw [List.getElem?_eq_none (by omega)];simp
theorem drew_step (h:KIm w m K):Step w w.drew m K m K:=Step.below h ⟨rfl,rfl,rfl,Nat.le_refl _,fun _ _=>rfl⟩
theorem move_any (h:KIm w m K) (cn an:ByteArray) :
 Calls Tryz.prog 31 #[.pointer (some ⟨K.b,0,none⟩),.string cn,.string an] w fun e w'=>e=.returned (.int .i64 (m.move cn an).1)∧∃ K',Step w w' m K (m.move cn an).2 K':=by
 have lk:=h.drew.look cn
 have lk':=h.drew.look an
 have c0:w.cell? ⟨K.b,0,none⟩=some (.map (some K.mb)):=h.hd.c0
 have HS:Hid (Step w w.drew m K m K):=drew_step h
 obtain ⟨mr,hmr⟩:∃ mr,m.move cn an=mr:=⟨_,rfl⟩
 have hok:=(move_ok h.ok cn an).1
 rw [hmr] at hok ⊢
 cases hcl:m.cls cn with
 | none =>
  have hdr:mr=(2,m):=by rw [← hmr];unfold Im.move;rw [hcl]
  subst hdr
  obtain ⟨v,hv⟩:∃ v,cptr ((m.cls an).map K.cb)=v:=⟨_,rfl⟩
  rw [hcl] at lk
  simp only [Option.map_none,cptr] at lk
  rw [hv] at lk'
  clear h hmr hcl hv hok
  go_enter Tryz.func31,Tryz.ntmps31
  go_wp2_with fail
  go_region
  go_wp2
  go_ret
  exact ⟨rfl,K,HS.out⟩
 | some c =>
  have hc:=cls_lt hcl
  rw [hcl] at lk
  simp only [Option.map_some,cptr] at lk
  cases hcl2:m.cls an with
  | none =>
   have hdr:mr=(2,m):=by rw [← hmr];unfold Im.move;rw [hcl,hcl2]
   subst hdr
   rw [hcl2] at lk'
   simp only [Option.map_none,cptr] at lk'
   clear h hmr hcl hcl2 hok
   go_enter Tryz.func31,Tryz.ntmps31
   go_wp2_with fail
   go_region
   go_wp2
   go_ret
   exact ⟨rfl,K,HS.out⟩
  | some a =>
   have ha:=cls_lt hcl2
   rw [hcl2] at lk'
   simp only [Option.map_some,cptr] at lk'
   obtain ⟨t0,t1⟩:=cls_two h.ok hcl
   by_cases hc2:c < 2
   · have hdr:mr=(2,m):=by rw [← hmr];unfold Im.move;rw [hcl,hcl2];simp only;rw [if_pos hc2]
     subst hdr
     have hor:c=0∨c=1:=by omega
     rcases hor with e | e
     · have he:=t0.1 e
       subst he
       clear h hmr hcl hcl2 t0 t1 hok
       go_enter Tryz.func31,Tryz.ntmps31
       go_wp2_with fail
       go_region
       go_wp2
       go_ret
       exact ⟨rfl,K,HS.out⟩
     · have he:=t1.1 e
       subst he
       clear h hmr hcl hcl2 t0 t1 hok
       go_enter Tryz.func31,Tryz.ntmps31
       go_wp2_with fail
       go_region
       go_wp2
       go_ret
       exact ⟨rfl,K,HS.out⟩
   · have n0:(cn.toList==[65,110,121])=false:=beq_eq_false_iff_ne.2 (not_lit (fun e=>hc2 (by have:=t0.2 e;omega)))
     have n1:(cn.toList==[73,110,116])=false:=beq_eq_false_iff_ne.2 (not_lit (fun e=>hc2 (by have:=t1.2 e;omega)))
     have hbl:=below_any m K.cb K.cm (some a) c w.drew h.ok h.drew.cls (fun x hx=>by injection hx with hx;omega) hc
     simp only [Option.map_some,cptr] at hbl
     have hmv:mr=if m.under c (m.kl.length+1) (some a)=true then (8,m) else if m.tot a≠m.tot ((m.kl[c]?.bind (·.above)).getD 0) then (9,m) else (0,m.setKl c (fun k=>{ k with above:=some a })):=by
      rw [← hmr];unfold Im.move;rw [hcl,hcl2];simp only;rw [if_neg hc2]
     obtain ⟨p,hp⟩:∃ p,m.ab c=some p:=by
      obtain ⟨p,hp,_⟩:=h.ok.up c _ (List.getElem?_eq_getElem hc) (by omega)
      exact ⟨p,by unfold Im.ab;rw [List.getElem?_eq_getElem hc];exact hp⟩
     have hpl:=ab_lt h.ok hp
     have hpg:(m.kl[c]?.bind (·.above)).getD 0=p:=by
      have:m.kl[c]?.bind (·.above)=some p:=hp
      rw [this];rfl
     rw [hpg] at hmv
     have a3:w.cell? ⟨K.cb a,3,none⟩=some (.int .i64 (m.tot a:Nat)):=h.cls.tot ha
     have p3:w.cell? ⟨K.cb p,3,none⟩=some (.int .i64 (m.tot p:Nat)):=h.cls.tot hpl
     have c2:w.cell? ⟨K.cb c,2,none⟩=some (.pointer (some ⟨K.cb p,0,none⟩)):=by rw [h.cls.above hc,hp];rfl
     have ta:=tot_le h.ok a
     have tp:=tot_le h.ok p
     obtain ⟨u,hu⟩:∃ u,m.under c (m.kl.length+1) (some a)=u:=⟨_,rfl⟩
     rw [hu] at hbl hmv
     have HH:Hid (KIm w m K∧c < m.kl.length∧a < m.kl.length):=⟨h,hc,ha⟩
     clear h hmr hcl hcl2 t0 t1 hpg hp hu
     cases u with
     | true =>
      rw [if_pos rfl] at hmv
      subst hmv
      clear hok
      go_enter Tryz.func31,Tryz.ntmps31
      go_wp2_with fail
      go_region
      go_wp2_with fail
      refine hbl.mono ?_
      rintro e w' ⟨rfl,rfl⟩
      go_wp2
      go_ret
      exact ⟨rfl,K,HS.out⟩
     | false =>
      rw [if_neg (by simp)] at hmv
      by_cases hne:m.tot a≠m.tot p
      · rw [if_pos hne] at hmv
        subst hmv
        have hnb:((m.tot a:Int) != (m.tot p:Int))=true:=by simp;omega
        clear hok
        go_enter Tryz.func31,Tryz.ntmps31
        go_wp2_with fail
        go_region
        go_wp2_with fail
        refine hbl.mono ?_
        rintro e w' ⟨rfl,rfl⟩
        go_wp2_with fail
        go_region
        go_wp2
        go_ret
        exact ⟨rfl,K,(HS.out.trans (drew_step HH.out.1.drew))⟩
      · rw [if_neg hne] at hmv
        subst hmv
        have heq:m.tot a=m.tot p:=by omega
        rw [heq] at a3
        have hcall:Calls Tryz.prog 66 #[.pointer (some ⟨K.b,0,none⟩),.pointer (some ⟨K.cb c,0,none⟩)] w.drew.drew fun e w'=>e=.returned (.tuple #[])∧w'.cell? ⟨K.cb c,2,none⟩=some (.pointer (some ⟨K.cb p,0,none⟩))∧(∀ o,w'.frozen? ⟨K.cb c,o,none⟩=false)∧∃ K',Step w (w'.setCell ⟨K.cb c,2,none⟩ (.pointer (some ⟨K.cb a,0,none⟩))) m K (m.setKl c (fun k=>{ k with above:=some a })) K':=by
         obtain ⟨h,hc,ha⟩:=HH.out
         have h2:=h.drew.drew
         have hwd:w.drew.drew.cell? ⟨K.cb c,2,none⟩=some (.pointer (some ⟨K.cb p,0,none⟩)):=c2
         refine (moves_cor h2.cor m K.cb K.cm c h.ok hc h2.cls (fun s r hr=>(h2.rowQ.1 s r hr).1) h2.rowQ.2).mono ?_
         rintro e w' ⟨rfl,pm,R,hcor,har,hch,hd⟩
         have hblk:=hch.block _ (h2.cls.cel hc).lt (h2.forgotNot.1 c hc)
         exact ⟨rfl,(World.cell?_of_block (a:=⟨K.cb c,2,none⟩) hblk).trans hwd,fun o=>((h2.cls.cel hc).same hblk).free o,_,((drew_step h).trans (drew_step h.drew)).trans (h2.moved hc ha hok hcor har hch hd)⟩
        clear hok
        go_enter Tryz.func31,Tryz.ntmps31
        go_wp2_with fail
        go_region
        go_wp2_with fail
        refine hbl.mono ?_
        rintro e w' ⟨rfl,rfl⟩
        go_wp2_with fail
        go_region
        go_wp2_with fail
        refine hcall.mono ?_
        rintro e w3 ⟨rfl,hc3,hf3,hS⟩
        have HS3:Hid _:=hS
        clear hcall hbl lk lk' c0 a3 p3 c2 hS
        go_wp2
        go_ret
        exact ⟨rfl,HS3.out⟩
def newL (ws:List (Kn.W×Nat)) (pl:Nat→Nat):List (Nat×ByteArray):=(List.range ws.length).filterMap (fun i=>(ws[i]?).bind (fun x=>if sendsW x.1=true then some (pl i,ofL x.1.sel) else none))
theorem mem_newL {ws:List (Kn.W×Nat)}{pl:Nat→Nat}{q:Nat}{s:ByteArray}:(q,s)∈newL ws pl ↔ ∃ i x,ws[i]?=some x∧sendsW x.1=true∧q=pl i∧s=ofL x.1.sel:=by
 unfold newL
 rw [List.mem_filterMap]
 constructor
 · rintro ⟨i,_,h⟩
   obtain ⟨x,hx,h⟩:=Option.bind_eq_some_iff.1 h
   by_cases e:sendsW x.1=true
   · rw [if_pos e] at h
     injection h with h
     injection h with h1 h2
     exact ⟨i,x,hx,e,h1.symm,h2.symm⟩
   · rw [if_neg e] at h;cases h
 · rintro ⟨i,x,hx,e,rfl,rfl⟩
   exact ⟨i,List.mem_range.2 (List.getElem?_eq_some_iff.1 hx).1,by rw [hx];simp [e]⟩
theorem newL_nd {ws:List (Kn.W×Nat)}{pl:Nat→Nat} (h:∀ i j x y,i < ws.length→j < ws.length→ws[i]?=some x→ws[j]?=some y→sendsW x.1=true→sendsW y.1=true→pl i=pl j→i=j):((newL ws pl).map (·.1)).Nodup:=by
 unfold newL List.Nodup
 rw [List.pairwise_map,List.pairwise_filterMap]
 refine List.Pairwise.imp_of_mem (R:=(·≠·)) (fun {a a'} ha ha' hne b hb b' hb' e=>hne ?_) List.nodup_range
 obtain ⟨x,hx,hbx⟩:=Option.bind_eq_some_iff.1 hb
 obtain ⟨y,hy,hby⟩:=Option.bind_eq_some_iff.1 hb'
 by_cases ex:sendsW x.1=true
 · by_cases ey:sendsW y.1=true
   · rw [if_pos ex] at hbx
     rw [if_pos ey] at hby
     injection hbx with hbx
     injection hby with hby
     subst hbx hby
     exact h a a' x y (List.mem_range.1 ha) (List.mem_range.1 ha') hx hy ex ey e
   · rw [if_neg ey] at hby;cases hby
 · rw [if_neg ex] at hbx;cases hbx
noncomputable def Kc.newm (K:Kc) (N mb:Nat) (d:Md):Kc :=
 { K with L:=K.L++newL d.ws d.pl,pm:=fun k=>if N≤k then .no else K.pm k,Mk:=fun k=>K.Mk k∨k=mb,md:=fun k=>if k=mb then d else K.md k }
def IsPl (d:Md) (q:Nat):Prop:=∃ i x,d.ws[i]?=some x∧sendsW x.1=true∧q=d.pl i
theorem MtAt.more {L L':List (Nat×ByteArray)}{k:Nat}{d:Md} (h:MtAt w L k d):MtAt w (L++L') k d:=⟨h.blk,h.mat,h.len,fun i x hx hs=>List.mem_append_left _ (h.pls i x hx hs)⟩
theorem Cor.newm {b:Nat}{K:Kc}{Sd:ByteArray→Rw4→Prop}{Sr:Rw4→Prop} (h:Cor w b K (fun _=>False) Sd Sr) {mb g cap:Nat}{p:Option Addr}{ws:List (Kn.W×Nat)}{pl:Nat→Nat} (hn:NewM w w' mb g cap p ws pl) (hl:ws.length≤40) :
 Cor w' b (K.newm w.heap.size mb ⟨ws,p,g,cap,pl⟩) (IsPl ⟨ws,p,g,cap,pl⟩) Sd Sr:=by
 have h':=h.below hn.below
 have hold:∀ q s,(q,s)∈K.L→q < w.heap.size:=fun q s hq=>(h.pls.cel hq).lt
 have hpmo:∀ q s,(q,s)∈K.L→(K.newm w.heap.size mb ⟨ws,p,g,cap,pl⟩).pm q=K.pm q:=fun q s hq=>by
  show (if w.heap.size≤q then Mm.no else K.pm q)=K.pm q
  rw [if_neg (by have:=hold q s hq;omega)]
 have hnew:∀ q s,(q,s)∈newL ws pl→NoMem w' q∧w.heap.size≤q:=fun q s hq=>by
  obtain ⟨i,x,hx,hs,rfl,rfl⟩:=mem_newL.1 hq
  exact hn.np.mem i x (List.getElem?_eq_some_iff.1 hx).1 hx hs
 have hpmn:∀ q s,(q,s)∈newL ws pl→(K.newm w.heap.size mb ⟨ws,p,g,cap,pl⟩).pm q=.no:=fun q s hq=>by
  show (if w.heap.size≤q then Mm.no else K.pm q)=.no
  rw [if_pos (hnew q s hq).2]
 have hmem:∀ q s,(q,s)∈(K.newm w.heap.size mb ⟨ws,p,g,cap,pl⟩).L→(q,s)∈K.L∨(q,s)∈newL ws pl:=fun q s hq=>List.mem_append.1 hq
 have hblk:∀ k,PlBlk (K.newm w.heap.size mb ⟨ws,p,g,cap,pl⟩).L (K.newm w.heap.size mb ⟨ws,p,g,cap,pl⟩).pm k→PlBlk K.L K.pm k∨∃ s,(k,s)∈newL ws pl:=by
  rintro k ⟨q,s,hq,e⟩
  rcases hmem q s hq with hq | hq
  · rw [hpmo q s hq] at e
    exact .inl ⟨q,s,hq,e⟩
  · rcases e with e | e
    · exact .inr ⟨s,by rw [e];exact hq⟩
    · rw [hpmn q s hq] at e;cases e
 refine ⟨h'.img,h'.b5,h'.snd,⟨h.pls.b6,?_,fun q s hq=>?_,fun q s hq=>?_,fun q s r hq hr=>?_,fun q s q' s' a hq hq' ha ha'=>?_⟩,fun s q hr=>List.mem_append_left _ (h.reg s q hr),fun q s hq=>?_,h'.tab,h.rows,fun k hk=>?_,fun k hk h1 e=>?_⟩
 · show ((K.L++newL ws pl).map (·.1)).Nodup
   rw [List.map_append]
   refine List.nodup_append.2 ⟨h.pls.nd,newL_nd (fun i j x y hi hj hx hy hs1 hs2 e=>hn.np.inj i j x y hi hj hx hy hs1 hs2 e),fun a ha c hc=>?_⟩
   obtain ⟨⟨a',s⟩,ha',rfl⟩:=List.mem_map.1 ha
   obtain ⟨⟨c',t⟩,hc',rfl⟩:=List.mem_map.1 hc
   have h1:=hold a' s ha'
   have h2:=(hnew c' t hc').2
   simp only
   omega
 · rcases hmem q s hq with hq | hq
   · rw [hpmo q s hq];exact h'.pls.at_ q s hq
   · rw [hpmn q s hq];exact (hnew q s hq).1
 · rcases hmem q s hq with hq | hq
   · rw [hpmo q s hq];exact h'.pls.ok q s hq
   · rw [hpmn q s hq];exact ⟨trivial,by simp [Mm.rows]⟩
 · rcases hmem q s hq with hq | hq
   · rw [hpmo q s hq] at hr;exact h.pls.rows q s r hq hr
   · rw [hpmn q s hq] at hr;cases hr
 · rcases hmem q s hq with hq | hq
   · rcases hmem q' s' hq' with hq' | hq'
     · rw [hpmo q s hq] at ha
       rw [hpmo q' s' hq'] at ha'
       exact h.pls.arr q s q' s' a hq hq' ha ha'
     · rw [hpmn q' s' hq'] at ha';cases ha'
   · rw [hpmn q s hq] at ha;cases ha
 · rcases hmem q s hq with hq | hq
   · rcases h.told q s hq with e | e | e
     · exact .inl e
     · exact .inr (.inl (by rw [hpmo q s hq];exact e))
     · exact e.elim
   · obtain ⟨i,x,hx,hs,e,_⟩:=mem_newL.1 hq
     exact .inr (.inr ⟨i,x,hx,hs,e⟩)
 · by_cases e:k=mb
   · subst e
     show MtAt w' (K.L++newL ws pl) k (if k=k then ⟨ws,p,g,cap,pl⟩ else K.md k)
     rw [if_pos rfl]
     exact ⟨⟨0,hn.mm⟩,hn.at_,hl,fun i x hx hs=>List.mem_append_right _ (mem_newL.2 ⟨i,x,hx,hs,rfl,rfl⟩)⟩
   · show MtAt w' (K.L++newL ws pl) k (if k=mb then ⟨ws,p,g,cap,pl⟩ else K.md k)
     rw [if_neg e]
     rcases hk with hk | hk
     · exact (h'.mt k hk).more
     · exact absurd hk e
 · by_cases ek:k=mb
   · have hmd:(K.newm w.heap.size mb ⟨ws,p,g,cap,pl⟩).md k=⟨ws,p,g,cap,pl⟩:=by
      show (if k=mb then (⟨ws,p,g,cap,pl⟩:Md) else K.md k)=_
      rw [if_pos ek]
     rw [hmd] at h1 e
     simp only at h1 e
     have hg:=hn.glo h1
     rcases hblk g e with e | ⟨s,e⟩
     · have:=h.pls.lt g e;omega
     · have hnm:=(hnew g s e).1
       obtain ⟨x,hx⟩:∃ x,ws[0]?=some x:=⟨_,List.getElem?_eq_getElem (by omega)⟩
       have h0:=hn.at_.c0 0 x hx
       unfold NoMem at hnm
       simp only [World.cell?,Nat.zero_mul,hnm] at h0
       cases h0
   · have hmd:(K.newm w.heap.size mb ⟨ws,p,g,cap,pl⟩).md k=K.md k:=by
      show (if k=mb then (⟨ws,p,g,cap,pl⟩:Md) else K.md k)=_
      rw [if_neg ek]
     rw [hmd] at h1 e
     have hk':K.Mk k:=by rcases hk with hk | hk;exact hk;exact absurd hk ek
     rcases hblk _ e with e | ⟨s,e⟩
     · exact h.gfr k hk' h1 e
     · have h2:=(hnew _ s e).2
       have h3:=((h.mt k hk').mat.cel h1).lt
       omega
theorem giveNew_any (h:KIm w m K) {c mb g cap:Nat}{p:Option Addr}{ws:List (Kn.W×Nat)}{pl:Nat→Nat} (hc:c < m.kl.length) (hn:NewM w w' mb g cap p ws pl) (hl:ws.length≤40) (sel:ByteArray) (hok:ImOk (m.setKl c (·.put ⟨sel,ws⟩))) :
 Calls Tryz.prog 44 #[.pointer (some ⟨K.b,0,none⟩),.pointer (some ⟨K.cb c,0,none⟩),.string sel,.pointer (some ⟨mb,0,none⟩)] w' fun e w''=>e=.returned (.tuple #[])∧∃ K',Step w w'' m K (m.setKl c (·.put ⟨sel,ws⟩)) K':=by
 have h':=h.below hn.below
 have hcor:=h.cor.newm hn hl
 have hmd:(K.k.newm w.heap.size mb ⟨ws,p,g,cap,pl⟩).md mb=⟨ws,p,g,cap,pl⟩:=by
  show (if mb=mb then (⟨ws,p,g,cap,pl⟩:Md) else K.k.md mb)=_
  rw [if_pos rfl]
 have hmdo:∀ k,K.k.Mk k→(K.k.newm w.heap.size mb ⟨ws,p,g,cap,pl⟩).Mk k∧(K.k.newm w.heap.size mb ⟨ws,p,g,cap,pl⟩).md k=K.k.md k:=fun k hk=>by
  refine ⟨.inl hk,?_⟩
  have:=(h.cor.mt k hk).cel.lt
  have:=hn.lo
  show (if k=mb then (⟨ws,p,g,cap,pl⟩:Md) else K.k.md k)=_
  rw [if_neg (by omega)]
 have m1:w'.cell? ⟨mb,1,none⟩=some (.int .i64 0):=by simp only [World.cell?,hn.mm];rfl
 refine (give_cor hcor m K.cb K.cm c mb sel (K.lm c) (K.mid c sel) h.ok hc h'.cls (h'.lm c hc) (h.ap.cm_sb c hc) (fun s=>h.ap.cm_ib c s hc) (.inr rfl) (.inr ⟨m1,fun q hq=>?_⟩) (h.mid c sel hc) (fun k0 e=>.inl (h.isM c sel k0 e)) h.rowQ.1 h.rowQ.2).mono ?_
 · rw [hmd];exact hq
 rintro e w'' ⟨rfl,l,ps,pm,R,hcorF,hsm,hkp,hch,hd⟩
 have hsz:=hn.below.size
 have hbo:∀ k,CBlk (K.k.newm w.heap.size mb ⟨ws,p,g,cap,pl⟩) k→CBlk K.k k∨w.heap.size≤k:=by
  rintro k (e | e | ⟨q,s,hq,e⟩ | e | e)
  · exact .inl (.inl e)
  · exact .inl (.inr (.inl e))
  · rcases List.mem_append.1 hq with hq | hq
    · have hlt:=(h.cor.pls.cel hq).lt
      have hpm:(K.k.newm w.heap.size mb ⟨ws,p,g,cap,pl⟩).pm q=K.k.pm q:=by
       show (if w.heap.size≤q then Mm.no else K.k.pm q)=K.k.pm q
       rw [if_neg (by omega)]
      rw [hpm] at e
      exact .inl (.inr (.inr (.inl ⟨q,s,hq,e⟩)))
    · obtain ⟨i,x,hx,hs,rfl,rfl⟩:=mem_newL.1 hq
      have hlo:=(hn.np.mem i x (List.getElem?_eq_some_iff.1 hx).1 hx hs).2
      rcases e with e | e
      · exact .inr (by rw [e];exact hlo)
      · have hpm:(K.k.newm w.heap.size mb ⟨ws,p,g,cap,pl⟩).pm (pl i)=.no:=by
         show (if w.heap.size≤pl i then Mm.no else K.k.pm (pl i))=.no
         rw [if_pos hlo]
        rw [show (Md.pl ⟨ws,p,g,cap,pl⟩ i)=pl i from rfl,hpm] at e
        cases e
  · exact .inl (.inr (.inr (.inr e)))
  · exact .inr (by rw [e];exact hn.lo)
 have hgr:Grew w.heap.size K.k { K.k.newm w.heap.size mb ⟨ws,p,g,cap,pl⟩ with l:=l,ps:=ps,pm:=pm,R:=R }:=by
  refine ⟨rfl,rfl,rfl,fun s ib e=>?_,fun k hk=>?_,fun j hj h1=>?_,hmdo⟩
  · rcases hkp.l s ib e with e | e
    · exact .inl e
    · exact .inr (by omega)
  · rcases CBlk.old (K:=K.k.newm w.heap.size mb ⟨ws,p,g,cap,pl⟩) (N:=w'.heap.size) (ps:=ps) (R:=R) hk hkp.l hkp.arr with e | e
    · exact hbo k e
    · exact .inr (by omega)
  · rcases hj with hj | hj
    · exact .inl ⟨hj,(hmdo j hj).2⟩
    · subst hj
      right
      have h1':1≤((K.k.newm w.heap.size j ⟨ws,p,g,cap,pl⟩).md j).ws.length:=h1
      rw [hmd] at h1'
      show w.heap.size≤((K.k.newm w.heap.size j ⟨ws,p,g,cap,pl⟩).md j).g
      rw [hmd]
      exact hn.glo h1'
 refine ⟨rfl,_,h.remeth (sel:=sel) (x:=some mb) (kc:={ K.k.newm w.heap.size mb ⟨ws,p,g,cap,pl⟩ with l:=l,ps:=ps,pm:=pm,R:=R }) hc hok ?_ hcorF hgr (fun k e=>by injection e with e;subst e;exact .inr rfl) hsm (fun s=>by rw [lookup_put];rfl) ?_ ((SameHd.of_block (hn.below.block _ h.cor.tab.cel.lt)).trans hd)⟩
 · have:=oneMeth_put hc (m:=m) ⟨sel,ws⟩
   have e2:(some mb).map (fun k=>(({ K.k.newm w.heap.size mb ⟨ws,p,g,cap,pl⟩ with l:=l,ps:=ps,pm:=pm,R:=R }:Kc).md k).ws)=some ws:=by
    show some (((K.k.newm w.heap.size mb ⟨ws,p,g,cap,pl⟩).md mb).ws)=some ws
    rw [hmd]
   rw [e2]
   exact this
 · refine (Chg.of_below hn.below _).then hch (fun j hj e=>?_)
   rcases e with e | e | e
   · exact .inl e
   · exact .inr (.inl e)
   · rcases hbo j e with e | e
     · exact .inr (.inr e)
     · omega
theorem method_any (h:KIm w m K) (cn sel src:ByteArray) (hs1:sel.size≤140737488355328) (hs2:src.size≤140737488355328) :
 Calls Tryz.prog 17 #[.pointer (some ⟨K.b,0,none⟩),.string cn,.string sel,.string src] w fun e w'=>∃ (r a:Int) (m':Im) (K':Kd),e=.returned (.tuple #[.int .i64 r,.int .i64 a])∧MethRes m cn sel src r a m'∧Step w w' m K m' K':=by
 have lk:=h.look cn
 cases hcl:m.cls cn with
 | none =>
  rw [hcl] at lk
  simp only [Option.map_none,cptr] at lk
  refine (meth_none cn sel src K.b K.mb w h.hd.c0 lk).mono ?_
  rintro e w' ⟨rfl,rfl⟩
  exact ⟨2,0,m,K,rfl,by unfold MethRes;rw [hcl];exact ⟨rfl,rfl,rfl⟩,Step.refl h⟩
 | some c =>
  have hc:=cls_lt hcl
  rw [hcl] at lk
  simp only [Option.map_some,cptr] at lk
  refine (meth_any (m.tot c) cn sel src w K.b K.mb (K.cb c) (fun w'=>∃ K',Step w w' m K (m.setKl c (·.put ⟨sel,(wordsAll (bl src)).1⟩)) K') (tot_le h.ok c) hs1 hs2 h.hd.c0 lk (h.cls.tot hc) h.glo.l0 h.glo.l1 h.glo.l2 h.glo.e h.glo.p h.glo.h ?_).mono ?_
  · intro w' mb g cap p ws pl hws hmi hn
    have hr:MethRes m cn sel src 0 0 (m.setKl c (·.put ⟨sel,(wordsAll (bl src)).1⟩)):=by unfold MethRes;rw [hcl];exact ⟨hmi,by rw [if_pos rfl]⟩
    have hok:=(meth_ok h.ok hr).1
    have hlen:=words_le (bl src)
    rw [hws] at hok hlen ⊢
    exact giveNew_any h hc hn hlen sel hok
  · rintro e w' ⟨r,a,rfl,hmi,⟨hr,hb⟩ | ⟨rfl,K',hS⟩⟩
    · exact ⟨r,a,m,K,rfl,by unfold MethRes;rw [hcl];exact ⟨hmi,by rw [if_neg hr]⟩,Step.below h hb⟩
    · exact ⟨0,a,_,K',rfl,by unfold MethRes;rw [hcl];exact ⟨hmi,by rw [if_pos rfl]⟩,hS⟩
end Go.Proofs.YtkghmgoefiepeaaGreatDoor.reads
