import Derived.Test.YtkghmgoefiepeaaGreatDoorQ0
import Derived.Test.YtkghmgoefiepeaaGreatDoorQ29
set_option linter.unusedSimpArgs false
set_option linter.unusedVariables false
set_option maxHeartbeats 4000000
set_option maxRecDepth 100000
namespace Kn
open Go
theorem put_length {l:List (ByteArray×Value)}{s:ByteArray} (v:Value) (h:l.lookup s=none):(put l s v).length=l.length+1:=by
 induction l with
 | nil=>rfl
 | cons p r ih =>
  obtain ⟨k,x⟩:=p
  cases hs:(s==k) with
  | true=>simp [List.lookup,hs] at h
  | false =>
   simp only [List.lookup,hs] at h
   simp [put,hs,ih h]
variable {m : Im}
theorem cls_snoc {k:Kl} (hn:m.cls k.name=none) (t:ByteArray):({ m with kl:=m.kl++[k] }:Im).cls t=if t=k.name then some m.kl.length else m.cls t:=by
 unfold Im.cls at hn ⊢
 simp only [List.findIdx?_append]
 by_cases e:t=k.name
 · subst e
   rw [hn,if_pos rfl]
   simp [beq_ba_self]
 · rw [if_neg e]
   have:([k]:List Kl).findIdx? (fun x=>x.name==t)=none:=by
    simp [List.findIdx?_cons,(beq_ba_false k.name t).2 (fun h=>e h.symm)]
   rw [this]
   cases m.kl.findIdx? (fun k=>k.name==t) <;> rfl
theorem own_snoc {k:Kl} (hk:k.ms=[]) (c:Nat) (s:ByteArray):({ m with kl:=m.kl++[k] }:Im).own c s=m.own c s:=by
 unfold Im.own
 simp only
 by_cases h:c < m.kl.length
 · rw [List.getElem?_append_left h]
 · rw [List.getElem?_eq_none (by omega:m.kl.length≤c)]
   by_cases e:c=m.kl.length
   · subst e
     rw [List.getElem?_append_right (Nat.le_refl _),Nat.sub_self]
     simp [Kl.own,hk]
   · rw [List.getElem?_eq_none (by simp;omega)]
theorem ab_snoc {k:Kl}{c:Nat} (h:c < m.kl.length):({ m with kl:=m.kl++[k] }:Im).ab c=m.ab c:=by
 unfold Im.ab
 simp only
 rw [List.getElem?_append_left h]
end Kn
namespace Go.Proofs.YtkghmgoefiepeaaGreatDoor.reads
open Go.ChangeShapes Go.WideShapes Go.ChangeAt Go.RowKit Kn Go.Proofs.YtkghmgoefiepeaaGreatDoor.img
def Kd.more (K:Kd) (n cm0:Nat) (s:ByteArray):Kd :=
 { K with cb:=fun c=>if c=n then cm0+1 else K.cb c,cm:=fun c=>if c=n then cm0 else K.cm c,lc:=put K.lc s (.pointer (some ⟨cm0+1,0,none⟩)),lm:=fun c=>if c=n then [] else K.lm c }
variable {w w' : World}
variable {m : Im}
variable {K : Kd}
theorem KIm.newClass (h:KIm w m K) {s:ByteArray}{a cm0 n:Nat} (hno:m.cls s=none) (ha:a < m.kl.length) (hm':ImOk { m with kl:=m.kl++[⟨s,some a,m.tot a+n,[]⟩] }) (hlo:w.heap.size≤cm0)
 (hsm:SMap w' K.mb (put K.lc s (.pointer (some ⟨cm0+1,0,none⟩)))) (hcm:w'.heap[cm0]?=some (.map #[] 0)) (hcb:w'.heap[cm0+1]?=some (.cells #[.string s,.int .i64 (m.kl.length:Nat),.pointer (some ⟨K.cb a,0,none⟩),.int .i64 ((m.tot a:Nat)+(n:Nat)),.map (some cm0)] 101)) (hch:Chg w w' (fun k=>k=K.mb)) :
 Step w w' m K { m with kl:=m.kl++[⟨s,some a,m.tot a+n,[]⟩] } (K.more m.kl.length cm0 s):=by
 have hlen:({ m with kl:=m.kl++[⟨s,some a,m.tot a+n,[]⟩] }:Im).kl.length=m.kl.length+1:=by simp
 have hlen':(m.kl++[(⟨s,some a,m.tot a+n,[]⟩:Kl)]).length=m.kl.length+1:=by simp
 obtain ⟨es,ck,hx,_⟩:=id h.lc
 have hmn:=h.cor.mapn hx h.ap.mb_sb h.ap.mb_ib
 have hcbo:∀ c,c < m.kl.length→(K.more m.kl.length cm0 s).cb c=K.cb c:=fun c hc=>by
  show (if c=m.kl.length then cm0+1 else K.cb c)=_
  rw [if_neg (by omega)]
 have hcmo:∀ c,c < m.kl.length→(K.more m.kl.length cm0 s).cm c=K.cm c:=fun c hc=>by
  show (if c=m.kl.length then cm0 else K.cm c)=_
  rw [if_neg (by omega)]
 have hcbn:(K.more m.kl.length cm0 s).cb m.kl.length=cm0+1:=by
  show (if m.kl.length=m.kl.length then cm0+1 else _)=_
  rw [if_pos rfl]
 have hcmn:(K.more m.kl.length cm0 s).cm m.kl.length=cm0:=by
  show (if m.kl.length=m.kl.length then cm0 else _)=_
  rw [if_pos rfl]
 have hAns:∀ r,Ans m K.cb K.mid r→Ans { m with kl:=m.kl++[⟨s,some a,m.tot a+n,[]⟩] } (K.more m.kl.length cm0 s).cb K.mid r:=fun r hr=>hr.more h.ok hm' (fun c hc=>ab_snoc hc) (by rw [hlen];omega) hcbo (fun _ _ _=>rfl)
 have hcel:∀ k,Cel w k→w'.heap[k]?=w.heap[k]?:=fun k hk=>hch.block k hk.lt (fun e=>cel_ne_map hk h.lc e)
 have hcor':Cor w' K.b K.k (fun _=>False) (SdI m K) (SrI m K):=h.cor.chg hch (fun e=>hmn.2 e.symm) (fun k e e'=>hmn.1 (by rw [← e'];exact e)) (fun k hk h1 e=>cel_ne_map ((h.cor.mt k hk).mat.cel h1) h.lc e)
 have hfoot:∀ k,Foot { m with kl:=m.kl++[⟨s,some a,m.tot a+n,[]⟩] } (K.more m.kl.length cm0 s) k→Foot m K k∨w.heap.size≤k:=fun k e=>by
  rcases e with e | e | ⟨c,hc,e⟩ | e | e | e
  · exact .inl (.inl e)
  · exact .inl (.inr (.inl e))
  · by_cases hcl:c < m.kl.length
    · rw [hcbo c hcl,hcmo c hcl] at e
      exact .inl (.inr (.inr (.inl ⟨c,hcl,e⟩)))
    · have:c=m.kl.length:=by rw [hlen] at hc;omega
      subst this
      rw [hcbn,hcmn] at e
      exact .inr (by omega)
  · exact .inl (.inr (.inr (.inr (.inl e))))
  · exact .inl (.inr (.inr (.inr (.inr (.inl e)))))
  · exact .inl (.inr (.inr (.inr (.inr (.inr e)))))
 have hchF:Chg w w' (Foot m K):=hch.mono (fun k _ e=>.inr (.inl e))
 have hb:=hcel K.b h.cor.tab.cel
 have hh:=h.hd.same hb
 have hkl:∀ c k,(m.kl++[(⟨s,some a,m.tot a+n,[]⟩:Kl)])[c]?=some k→(c < m.kl.length∧m.kl[c]?=some k)∨(c=m.kl.length∧k=⟨s,some a,m.tot a+n,[]⟩):=fun c k hk=>by
  by_cases hc:c < m.kl.length
  · rw [List.getElem?_append_left hc] at hk;exact .inl ⟨hc,hk⟩
  · have hc2:=(List.getElem?_eq_some_iff.1 hk).1
    have:c=m.kl.length:=by rw [hlen'] at hc2;omega
    subst this
    rw [List.getElem?_append_right (Nat.le_refl _),Nat.sub_self] at hk
    injection hk with hk
    exact .inr ⟨rfl,hk.symm⟩
 refine ⟨⟨hm',hcor'.weaken (fun s r hr=>⟨hr.1,hAns r hr.2⟩) (fun r hr=>?_),⟨hh.c0,hh.c1,hh.c2,hh.c3,hh.c4⟩,h.np6,h.cll,hsm,fun t=>?_,?_,⟨fun c k hk=>?_,fun c d hc hd e=>?_⟩,fun c hc=>?_,fun c t hc=>?_,fun c t=>?_,h.isM,⟨h.ap.mb_sb,h.ap.mb_ib,fun c hc=>?_,fun c hc=>?_,fun c t hc=>?_,fun c d hc hd e=>?_⟩,?_,h.glo.chg hchF (fun k hg e=>h.gl k e hg),fun k hk hg=>?_⟩,rfl,rfl,hchF,hfoot,by rw [hlen];omega,hcbo,fun k hk=>⟨hk,rfl⟩⟩
 · rcases hr with hr | hr
   · exact .inl (hAns r hr)
   · exact .inr hr
 · show (put K.lc s (.pointer (some ⟨cm0+1,0,none⟩))).lookup t=_
   rw [lookup_put,cls_snoc (k:=⟨s,some a,m.tot a+n,[]⟩) hno t]
   by_cases e:t=s
   · rw [if_pos e,if_pos e]
     simp only [Option.map_some]
     rw [hcbn]
   · rw [if_neg e,if_neg e,h.lcl t]
     cases hcl:m.cls t with
     | none=>rfl
     | some c =>
      simp only [Option.map_some]
      rw [hcbo c (cls_lt hcl)]
 · show (put K.lc s _).length=_
   rw [put_length _ (by rw [h.lcl s,hno];rfl),hlen,h.lcn]
 · rcases hkl c k hk with ⟨hc,hk'⟩ | ⟨rfl,rfl⟩
   · have h1:=h.cls.at_ c k hk'
     rw [hcbo c hc,hcmo c hc]
     have hab:k.above.map (K.more m.kl.length cm0 s).cb=k.above.map K.cb:=by
      cases hka:k.above with
      | none=>rfl
      | some p =>
       simp only [Option.map_some]
       rw [hcbo p (ab_lt h.ok (c:=c) (by unfold Im.ab;rw [hk'];exact hka))]
     rw [hab]
     exact (hcel _ (h.cls.cel hc)).trans h1
   · rw [hcbn,hcmn]
     simp only [Option.map_some]
     rw [hcbo a ha]
     have e1:((m.tot a+n:Nat):Int)=(m.tot a:Int)+(n:Int):=by omega
     rw [e1]
     exact hcb
 · rw [hlen] at hc hd
   by_cases hc':c < m.kl.length
   · by_cases hd':d < m.kl.length
     · rw [hcbo c hc',hcbo d hd'] at e
       exact h.cls.inj c d hc' hd' e
     · have:d=m.kl.length:=by omega
       subst this
       rw [hcbo c hc',hcbn] at e
       have:=(h.cls.cel hc').lt
       omega
   · have:c=m.kl.length:=by omega
     subst this
     by_cases hd':d < m.kl.length
     · rw [hcbo d hd',hcbn] at e
       have:=(h.cls.cel hd').lt
       omega
     · omega
 · rw [hlen] at hc
   by_cases hc':c < m.kl.length
   · rw [hcmo c hc']
     show SMap w' (K.cm c) (if c=m.kl.length then [] else K.lm c)
     rw [if_neg (by omega)]
     exact (h.lm c hc').same (hch.block _ (h.lm c hc').lt (h.ap.cm_mb c hc'))
   · have:c=m.kl.length:=by omega
     subst this
     rw [hcmn]
     show SMap w' cm0 (if m.kl.length=m.kl.length then [] else K.lm m.kl.length)
     rw [if_pos rfl]
     exact sMap_empty hcm
 · rw [hlen] at hc
   show (if c=m.kl.length then [] else K.lm c).lookup t=(K.mid c t).map _
   by_cases hc':c < m.kl.length
   · rw [if_neg (by omega)];exact h.mid c t hc'
   · have:c=m.kl.length:=by omega
     subst this
     rw [if_pos rfl]
     have hon:m.own m.kl.length t=none:=by unfold Im.own;rw [List.getElem?_eq_none (Nat.le_refl _)];rfl
     rw [h.own] at hon
     rw [Option.map_eq_none_iff] at hon
     rw [hon]
     rfl
 · rw [own_snoc rfl];exact h.own c t
 · rw [hlen] at hc
   show (K.more m.kl.length cm0 s).cm c≠K.mb
   by_cases hc':c < m.kl.length
   · rw [hcmo c hc'];exact h.ap.cm_mb c hc'
   · have:c=m.kl.length:=by omega
     subst this
     rw [hcmn]
     have:=h.lc.lt
     omega
 · rw [hlen] at hc
   show (K.more m.kl.length cm0 s).cm c≠K.k.sb
   by_cases hc':c < m.kl.length
   · rw [hcmo c hc'];exact h.ap.cm_sb c hc'
   · have:c=m.kl.length:=by omega
     subst this
     rw [hcmn]
     have:=h.cor.snd.map.lt
     omega
 · rw [hlen] at hc
   show K.k.l.lookup t≠some (.map (some ((K.more m.kl.length cm0 s).cm c)))
   by_cases hc':c < m.kl.length
   · rw [hcmo c hc'];exact h.ap.cm_ib c t hc'
   · have:c=m.kl.length:=by omega
     subst this
     rw [hcmn]
     intro e
     have:=h.cor.lt (.inr (.inl ⟨t,e⟩))
     omega
 · rw [hlen] at hc hd
   by_cases hc':c < m.kl.length
   · by_cases hd':d < m.kl.length
     · rw [hcmo c hc',hcmo d hd'] at e
       exact h.ap.cm_inj c d hc' hd' e
     · have:d=m.kl.length:=by omega
       subst this
       rw [hcmo c hc',hcmn] at e
       have:=(h.lm c hc').lt
       omega
   · have:c=m.kl.length:=by omega
     subst this
     by_cases hd':d < m.kl.length
     · rw [hcmo d hd',hcmn] at e
       have:=(h.lm d hd').lt
       omega
     · omega
 · have ho:=h.obs.same (w':=w') (fun k hk=>by
    obtain ⟨cs,hcs⟩:=h.obs.kind hk
    exact hcel k (by rcases hcs with e | e <;> exact ⟨_,_,e⟩))
   refine ⟨?_,ho.at_,ho.inj,ho.nil⟩
   have e1:ocs (K.more m.kl.length cm0 s).cb K.ob 0 m.obs=ocs K.cb K.ob 0 m.obs:=ocs_congr m.obs m.obs 0 rfl (fun i o o' h1 h2=>by
    rw [h1] at h2
    injection h2 with h2
    subst h2
    exact ⟨hcbo _ (h.ok.obj o (List.mem_of_getElem? h1)).1,rfl,rfl⟩)
   show w'.ownsRow 0 105 2 K.ov m.obs.length (ocs (K.more m.kl.length cm0 s).cb K.ob 0 m.obs)
   rw [e1]
   exact ho.own
 · rcases hfoot k hk with e | e
   · exact h.gl k e hg
   · have:=h.glo.lt hg;omega
theorem class_any (h:KIm w m K) (s t:ByteArray) (n:Int) (hs:s.size≤140737488355328) :
 Calls Tryz.prog 15 #[.pointer (some ⟨K.b,0,none⟩),.string s,.string t,.int .i64 n] w fun e w'=>e=.returned (.int .i64 (m.class_ s t n).1)∧∃ K',Step w w' m K (m.class_ s t n).2 K':=by
 have hok:=(Kn.class_ok h.ok s t n).1
 obtain ⟨cr,hcr⟩:∃ cr,m.class_ s t n=cr:=⟨_,rfl⟩
 rw [hcr] at hok ⊢
 unfold Im.class_ at hcr
 by_cases hbad:className (bl s)=false∨n < 0
 · rw [if_pos hbad] at hcr
   subst hcr
   refine (class_bad s t n K.b w hs hbad).mono ?_
   rintro e w' ⟨rfl,hb⟩
   exact ⟨rfl,K,Step.below h hb⟩
 · rw [if_neg hbad] at hcr
   have hcn:className (bl s)=true:=by
    cases hx:className (bl s) with
    | true=>rfl
    | false=>exact absurd (.inl hx) hbad
   have hn:0≤n:=by
    apply Classical.byContradiction
    intro hx
    exact hbad (.inr (by omega))
   have err:∀ r:Int,cr=(r,m)→(((∃ p,K.lc.lookup s=some (.pointer (some p)))∧r=3)∨(K.lc.lookup s=none∧K.lc.lookup t=none∧r=2) ∨
    (∃ a tot,K.lc.lookup s=none∧K.lc.lookup t=some (.pointer (some ⟨a,0,none⟩))∧w.cell? ⟨a,3,none⟩=some (.int .i64 tot)∧0≤tot∧tot≤10∧((10 - tot < n∧r=9)∨(n≤10 - tot∧K.lc.length=12∧r=10)))) →
    Calls Tryz.prog 15 #[.pointer (some ⟨K.b,0,none⟩),.string s,.string t,.int .i64 n] w fun e w'=>e=.returned (.int .i64 cr.1)∧∃ K',Step w w' m K cr.2 K':=by
    intro r hr hh
    subst hr
    refine (class_err s t n K.b K.mb K.lc w hs hcn hn h.hd.c0 h.lc r hh).mono ?_
    rintro e w' ⟨rfl,hb⟩
    exact ⟨rfl,K,Step.below h hb⟩
   cases hcs:m.cls s with
   | some c =>
    rw [hcs] at hcr
    exact err 3 hcr.symm (.inl ⟨⟨_,by rw [h.lcl s,hcs];rfl⟩,rfl⟩)
   | none =>
    rw [hcs] at hcr
    simp only at hcr
    have hls:K.lc.lookup s=none:=by rw [h.lcl s,hcs];rfl
    cases hct:m.cls t with
    | none =>
     rw [hct] at hcr
     exact err 2 hcr.symm (.inr (.inl ⟨hls,by rw [h.lcl t,hct];rfl,rfl⟩))
    | some a =>
     rw [hct] at hcr
     simp only at hcr
     have ha:=cls_lt hct
     have hlt:K.lc.lookup t=some (.pointer (some ⟨K.cb a,0,none⟩)):=by rw [h.lcl t,hct];rfl
     have h3:=h.cls.tot ha
     have htot:=tot_le h.ok a
     by_cases h9:10 < (m.tot a:Int)+n
     · rw [if_pos h9] at hcr
       exact err 9 hcr.symm (.inr (.inr ⟨K.cb a,_,hls,hlt,h3,by omega,by omega,.inl ⟨by omega,rfl⟩⟩))
     · rw [if_neg h9] at hcr
       by_cases h10:12≤m.kl.length
       · rw [if_pos h10] at hcr
         have:=h.ok.few
         exact err 10 hcr.symm (.inr (.inr ⟨K.cb a,_,hls,hlt,h3,by omega,by omega,.inr ⟨by omega,by rw [h.lcn];omega,rfl⟩⟩))
       · rw [if_neg h10] at hcr
         subst hcr
         obtain ⟨n',rfl⟩:∃ n':Nat,n=(n':Int):=⟨n.toNat,by omega⟩
         refine (class_ok s t (n':Int) (m.tot a:Int) K.b K.mb (K.cb a) K.lc w hs hcn hn h.hd.c0 h.lc hls hlt h3 (by omega) (by omega) (by omega) (by rw [h.lcn];omega)).mono ?_
         rintro e w' ⟨rfl,cm0,hlo,hsm,hcm,hcb,hch⟩
         rw [h.lcn] at hcb
         rw [Int.toNat_natCast] at hok ⊢
         exact ⟨rfl,_,h.newClass hcs ha hok hlo hsm hcm hcb hch⟩
def GoodNew (a0 a1:Int):Prop:=0≤a0∧a0≤6∧1≤a1∧a1≤64∧(bits BinOp.and IntKind.i64 a1 (a1 - 1)==0)=true
def Kd.new (s j np n:Nat):Kd where
 b:=s+2
 mb:=s
 cb:=fun c=>if c=0 then s+4 else j+1
 cm:=fun c=>if c=0 then s+3 else j
 lc:=[(nmAny,.pointer (some ⟨s+4,0,none⟩)),(nmInt,.pointer (some ⟨j+1,0,none⟩))]
 lm:=fun _=>[]
 mid:=fun _ _=>none
 climbs:=0
 k:={ np:=np,sb:=s+1,n:=n,l:=[],ps:=fun _=>[],L:=[],pm:=fun _=>.no,R:=fun _=>noRow,Mk:=fun _=>False,md:=fun _=>⟨[],none,0,0,fun _=>0⟩ }
 ov:=.slice none 0 0
 ob:=fun _=>0
theorem im0_len:im0.kl.length=2:=rfl
theorem kim_new {j:Nat}{a0 a1:Int} (hg:Glo w) (h:GoodNew a0 a1) (hn:NewAt w' w.heap.size j a0 a1) (hb:Below w.heap.size w w'):KIm w' im0 (Kd.new w.heap.size j a0.toNat a1.toNat)∧∀ k,Foot im0 (Kd.new w.heap.size j a0.toNat a1.toNat) k→w.heap.size≤k:=by
 obtain ⟨h0,h1,h2,h3,h4⟩:=h
 obtain ⟨n0,rfl⟩:∃ n0:Nat,a0=(n0:Int):=⟨a0.toNat,by omega⟩
 obtain ⟨n1,rfl⟩:∃ n1:Nat,a1=(n1:Int):=⟨a1.toNat,by omega⟩
 rw [Int.toNat_natCast,Int.toNat_natCast]
 have hlo:=hn.lo
 obtain ⟨i0,i1,i2,i3,i4,i5⟩:=img_heads hn.img
 have hfoot:∀ k,Foot im0 (Kd.new w.heap.size j n0 n1) k→w.heap.size≤k:=fun k e=>by
  rcases e with e | e | ⟨c,hc,e | e⟩ | e | e | ⟨i,hi,_⟩
  · have e:k=w.heap.size+2:=e;omega
  · have e:k=w.heap.size:=e;omega
  · have e:k=if c=0 then w.heap.size+4 else j+1:=e
    split at e <;> omega
  · have e:k=if c=0 then w.heap.size+3 else j:=e
    split at e <;> omega
  · rcases e with e | ⟨s,e⟩ | ⟨p,s,hps,_⟩ | e
    · have e:k=w.heap.size+1:=e;omega
    · cases e
    · cases hps
    · exact e.elim
  · rcases e with e | ⟨i,hi,_⟩
    · cases e
    · exact absurd hi (by show ¬ i < 0;omega)
  · exact hi.elim
 have hglo:Glo w':=hg.same hb.size (fun k hk=>hb.block k (hg.lt hk))
 refine ⟨⟨im0_ok,⟨⟨_,hn.img⟩,i5,new_snd hn.snd,⟨by show n0≤6;omega,by simp [Kd.new],fun p s hps=>(by cases hps),fun p s hps=>(by cases hps),fun p s r hps=>(by cases hps),fun p s p' s' q hps=>(by cases hps)⟩,fun s p ⟨ib,e,_⟩=>(by cases e),fun p s hps=>(by cases hps),new_tab hn.img (by show 1≤n1;omega) (by show n1≤64;omega),fun i _=>.inr rfl,fun k hk=>hk.elim,fun k hk=>hk.elim⟩,⟨i0,i1,?_,?_,i4⟩,by show n0≤6;omega,Nat.le_refl _,hn.cls,fun s=>?_,rfl,⟨fun c k hk=>?_,fun c d hc hd e=>?_⟩,fun c hc=>?_,fun c s hc=>rfl,fun c s=>?_,fun c s k hk=>(by cases hk),⟨?_,fun s e=>(by cases e),fun c hc=>?_,fun c hc=>?_,fun c s hc e=>(by cases e),fun c d hc hd e=>?_⟩,⟨World.ownsRow_nil _ _ _ _,fun i o ho=>(by cases ho),fun i k hi=>absurd hi (by show ¬ i < 0;omega),fun _=>rfl⟩,hglo,fun k hk hgl=>?_⟩,hfoot⟩
 · rw [show Go.RowKit.wrap64 ((im0.looks:Nat):Int)=0 from by unfold Go.RowKit.wrap64;simp [im0]];exact i2
 · rw [show Go.RowKit.wrap64 (((Kd.new w.heap.size j n0 n1).climbs:Nat):Int)=0 from by unfold Go.RowKit.wrap64;simp [Kd.new]];exact i3
 · show List.lookup s [(nmAny,_),(nmInt,_)]=_
   by_cases e0:s=nmAny
   · subst e0
     have:im0.cls nmAny=some 0:=by decide
     rw [this]
     simp [List.lookup,beq_ba_self,Kd.new]
   · by_cases e1:s=nmInt
     · subst e1
       have:im0.cls nmInt=some 1:=by decide
       rw [this]
       have:(nmInt==nmAny)=false:=by decide
       simp [List.lookup,this,beq_ba_self,Kd.new]
     · have h0':(s==nmAny)=false:=(beq_ba_false _ _).2 e0
       have h1':(s==nmInt)=false:=(beq_ba_false _ _).2 e1
       have h0'':((⟨#[65,110,121]⟩:ByteArray)==s)=false:=(beq_ba_false _ _).2 (fun e=>e0 e.symm)
       have h1'':((⟨#[73,110,116]⟩:ByteArray)==s)=false:=(beq_ba_false _ _).2 (fun e=>e1 e.symm)
       have:im0.cls s=none:=by unfold Im.cls im0;simp [List.findIdx?_cons,h0'',h1'']
       rw [this]
       simp [List.lookup,h0',h1']
 · match c,hk with
   | 0,hk =>
    have hk:(⟨⟨#[65,110,121]⟩,none,0,[]⟩:Kl)=k:=by simpa [im0] using hk
    subst hk
    exact hn.anyC
   | 1,hk =>
    have hk:(⟨⟨#[73,110,116]⟩,some 0,0,[]⟩:Kl)=k:=by simpa [im0] using hk
    subst hk
    exact hn.intC
   | c+2,hk=>simp [im0] at hk
 · have e:(if c=0 then w.heap.size+4 else j+1)=(if d=0 then w.heap.size+4 else j+1):=e
   rw [im0_len] at hc hd
   split at e <;> split at e <;> omega
 · rw [im0_len] at hc
   show SMap w' (if c=0 then w.heap.size+3 else j) []
   by_cases e:c=0
   · rw [if_pos e];exact sMap_empty hn.anyM
   · rw [if_neg e];exact sMap_empty hn.intM
 · show im0.own c s=none
   unfold Im.own
   match c with
   | 0=>rfl
   | 1=>rfl
   | c+2=>simp [im0]
 · show w.heap.size≠w.heap.size+1;omega
 · show (if c=0 then w.heap.size+3 else j)≠w.heap.size
   split <;> omega
 · show (if c=0 then w.heap.size+3 else j)≠w.heap.size+1
   split <;> omega
 · have e:(if c=0 then w.heap.size+3 else j)=(if d=0 then w.heap.size+3 else j):=e
   rw [im0_len] at hc hd
   split at e <;> split at e <;> omega
 · have h1:=hfoot k hk
   have h2:=hg.lt hgl
   omega
theorem new_any (a0 a1:Int) (w:World) (hg:Glo w) (h:GoodNew a0 a1) :
 Calls Tryz.prog 7 #[.int .i64 a0,.int .i64 a1] w fun e w'=>∃ K,e=.returned (.tuple #[.pointer (some ⟨K.b,0,none⟩),.int .i64 0])∧KIm w' im0 K∧(∀ k,Foot im0 K k→w.heap.size≤k)∧Below w.heap.size w w':=by
 refine (new_ok a0 a1 w h.1 h.2.1 h.2.2.1 h.2.2.2.1 h.2.2.2.2).mono ?_
 rintro e w' ⟨rfl,⟨j,hn⟩,hb⟩
 obtain ⟨h1,h2⟩:=kim_new hg h hn hb
 exact ⟨_,rfl,h1,h2,hb⟩
theorem new_no (a0 a1:Int) (w:World) (h:¬ GoodNew a0 a1) :
 Calls Tryz.prog 7 #[.int .i64 a0,.int .i64 a1] w fun e w'=>e=.returned (.tuple #[.pointer none,.int .i64 1])∧w'=w:=by
 by_cases h0:0≤a0
 · by_cases h1:a0≤6
   · by_cases h2:1≤a1
     · by_cases h3:a1≤64
       · have h4:(bits BinOp.and IntKind.i64 a1 (a1 - 1)==0)=false:=by
          simpa [GoodNew,h0,h1,h2,h3] using h
         go_enter Tryz.func7,Tryz.ntmps7
         go_wp2
         all_goals (go_ret2;exact ⟨rfl,rfl⟩)
       all_goals
        go_enter Tryz.func7,Tryz.ntmps7
        go_wp2
        all_goals (go_ret2;exact ⟨rfl,rfl⟩)
     all_goals
      go_enter Tryz.func7,Tryz.ntmps7
      go_wp2
      all_goals (go_ret2;exact ⟨rfl,rfl⟩)
   all_goals
    go_enter Tryz.func7,Tryz.ntmps7
    go_wp2
    all_goals (go_ret2;exact ⟨rfl,rfl⟩)
 all_goals
  go_enter Tryz.func7,Tryz.ntmps7
  go_wp2
  all_goals (go_ret2;exact ⟨rfl,rfl⟩)
end Go.Proofs.YtkghmgoefiepeaaGreatDoor.reads
namespace Kn
open Go
def Im.slot (m:Im) (o j:Int):Vl×Int:=match (if m.there o=true then m.obs[o.toNat]? else none) with
 | none=>(Vl.zero,4)
 | some x=>if 0≤j then (match x.slots[j.toNat]? with
  | some v=>(v,0)
  | none=>(Vl.zero,4)) else (Vl.zero,4)
def Im.ofE (m:Im) (o:Int):ByteArray×Int:=match (if m.there o=true then m.obs[o.toNat]? else none) with
 | none=>(⟨#[]⟩,4)
 | some x=>((m.kl[x.cls]?.map (·.name)).getD ⟨#[]⟩,0)
def Vl.val (v:Vl):Value:=.agg #[.bool v.obj,.int .i64 v.n]
end Kn
namespace Go.Proofs.YtkghmgoefiepeaaGreatDoor.reads
open Go.ChangeShapes Go.WideShapes Go.ChangeAt Go.RowKit Kn Go.Proofs.YtkghmgoefiepeaaGreatDoor.img
structure ObF (w:World) (cb ob:Nat→Nat) (p:Option Addr) (obs:List Ob) (i:Nat) (o:Ob) (g:Nat):Prop where
 p:p=some ⟨g,0,none⟩
 c0:w.cell? ⟨g,i*2,none⟩=some (.pointer (some ⟨cb o.cls,0,none⟩))
 c1:w.cell? ⟨g,i*2+1,none⟩=some (.slice (some ⟨ob i,0,none⟩) o.slots.length o.slots.length)
 fz:∀ k,w.frozen? ⟨g,k,none⟩=false
 typ:∃ cs,w.heap[g]?=some (.cells cs 105)
variable {w : World}
theorem ObsAt.form {cb ob:Nat→Nat}{v:Value}{obs:List Ob} (h:ObsAt w cb ob v obs):∃ p cap,v=.slice p obs.length cap∧∀ i o,obs[i]?=some o→∃ g,v.ownBlock=some g∧ObF w cb ob p obs i o g:=by
 have hown:=h.own
 rcases h.own.2 with ⟨e,hn⟩ | ⟨g,cap,cur,e,h1,h2,h3⟩
 · refine ⟨none,0,by rw [e,hn],fun i o ho=>?_⟩
   have:=(List.getElem?_eq_some_iff.1 ho).1
   omega
 · refine ⟨some ⟨g,0,none⟩,cap,e,fun i o ho=>⟨g,by rw [e];rfl,rfl,?_,?_,fun k=>Cel.free ⟨_,_,h2⟩ k,⟨cur,h2⟩⟩⟩
   · have hi:=(List.getElem?_eq_some_iff.1 ho).1
     rw [e] at hown
     rw [hown.cellAt (i*2) (by omega)]
     exact (ocs_get cb ob obs 0 i o ho).1
   · have hi:=(List.getElem?_eq_some_iff.1 ho).1
     rw [e] at hown
     rw [hown.cellAt (i*2+1) (by omega)]
     have:=(ocs_get cb ob obs 0 i o ho).2
     rw [Nat.zero_add] at this
     exact this
variable {m : Im}
theorem there_get {o:Int} (h:m.there o=true):∃ i x,o=((i:Nat):Int)∧m.obs[i]?=some x∧o.toNat=i∧i < m.obs.length:=by
 obtain ⟨h0,h1⟩:=Im.there_iff.1 h
 have hi:o.toNat < m.obs.length:=by omega
 exact ⟨o.toNat,_,by omega,List.getElem?_eq_getElem hi,rfl,hi⟩
theorem has_any {b:Nat}{p:Option Addr}{n cap:Nat} (hn:n≤40) (h1:w.cell? ⟨b,1,none⟩=some (.slice p n cap)) (o:Int) :
 Calls Tryz.prog 52 #[.pointer (some ⟨b,0,none⟩),.int .i64 o] w fun e w'=>e=.returned (.bool (decide (0≤o)&&decide (o < (n:Int))))∧w'=w:=by
 by_cases h0:0≤o
 · by_cases hl:o < (n:Int)
   · rw [show (decide (0≤o)&&decide (o < (n:Int)))=true from by simp [h0,hl]]
     go_enter Tryz.func52,Tryz.ntmps52
     go_wp2
     go_ret
     exact ⟨by first | rfl | simp,rfl⟩
   · rw [show (decide (0≤o)&&decide (o < (n:Int)))=false from by simp [hl]]
     go_enter Tryz.func52,Tryz.ntmps52
     go_wp2
     go_ret
     exact ⟨by first | rfl | simp,rfl⟩
 · rw [show (decide (0≤o)&&decide (o < (n:Int)))=false from by simp [h0]]
   go_enter Tryz.func52,Tryz.ntmps52
   go_wp2
   go_ret
   exact ⟨by first | rfl | simp,rfl⟩
theorem made_eq (h:ImOk m) (s:ByteArray):m.made s=if s=⟨#[73,110,116]⟩ then none else m.cls s:=by
 unfold Im.made
 by_cases e:s=⟨#[73,110,116]⟩
 · rw [if_pos e]
   cases hc:m.cls s with
   | none=>rfl
   | some c =>
    have:=(cls_two h hc).2.2 e
    subst this
    rfl
 · rw [if_neg e]
   cases hc:m.cls s with
   | none=>rfl
   | some c =>
    have:c≠1:=fun e1=>e ((cls_two h hc).2.1 e1)
    match c,this with
    | 0,_=>rfl
    | 1,h=>exact absurd rfl h
    | c+2,_=>rfl
variable {K : Kd}
theorem madeOf_any (h:KIm w m K) (s:ByteArray) :
 Calls Tryz.prog 39 #[.pointer (some ⟨K.b,0,none⟩),.string s] w fun e w'=>e=.returned (.pointer (cptr ((m.made s).map K.cb)))∧w'=w:=by
 have lk:=h.look s
 have c0:=h.hd.c0
 have hmd:=made_eq h.ok s
 by_cases e:s=⟨#[73,110,116]⟩
 · rw [if_pos e] at hmd
   rw [hmd]
   subst e
   clear h hmd
   go_enter Tryz.func39,Tryz.ntmps39
   go_wp2
   go_ret
   exact ⟨rfl,rfl⟩
 · have n1:(s.toList==[73,110,116])=false:=beq_eq_false_iff_ne.2 (not_lit e)
   rw [if_neg e] at hmd
   rw [hmd]
   clear h hmd
   go_enter Tryz.func39,Tryz.ntmps39
   go_wp2
   go_ret
   exact ⟨rfl,rfl⟩
theorem Cls.name {cb cm:Nat→Nat} (h:Cls w m cb cm) {c:Nat}{k:Kl} (hk:m.kl[c]?=some k):w.cell? ⟨cb c,0,none⟩=some (.string k.name):=by
 have:=h.at_ c k hk
 simp only [World.cell?,this];rfl
theorem of_any (h:KIm w m K) (o:Int) :
 Calls Tryz.prog 25 #[.pointer (some ⟨K.b,0,none⟩),.int .i64 o] w fun e w'=>e=.returned (.tuple #[.string (m.ofE o).1,.int .i64 (m.ofE o).2])∧w'=w:=by
 obtain ⟨p,cap,hv,hf⟩:=h.obs.form
 have c1:=h.hd.c1
 rw [hv] at c1
 have hn:=h.ok.objs
 have hcall:=has_any hn c1 o
 rw [show (decide (0≤o)&&decide (o < (m.obs.length:Int)))=m.there o from rfl] at hcall
 obtain ⟨r,hr⟩:∃ r,m.ofE o=r:=⟨_,rfl⟩
 rw [hr]
 cases ht:m.there o with
 | false =>
  have hdr:r=(⟨#[]⟩,4):=by rw [← hr];unfold Im.ofE;rw [ht];rfl
  subst hdr
  rw [ht] at hcall
  clear h hr ht hf hv
  go_enter Tryz.func25,Tryz.ntmps25
  go_wp2_with fail
  refine hcall.mono ?_
  rintro e w' ⟨rfl,rfl⟩
  go_wp2
  go_ret2
  exact ⟨rfl,rfl⟩
 | true =>
  obtain ⟨i,x,rfl,hx,hi,hil⟩:=there_get ht
  obtain ⟨g,hg,hF⟩:=hf i x hx
  have hxo:=h.ok.obj x (List.mem_of_getElem? hx)
  obtain ⟨kc,hk⟩:∃ kc,m.kl[x.cls]?=some kc:=⟨_,List.getElem?_eq_getElem hxo.1⟩
  have hdr:r=(kc.name,0):=by rw [← hr];unfold Im.ofE;rw [ht,if_pos rfl,hi,hx];simp only;rw [hk];rfl
  subst hdr
  have n0:=h.cls.name hk
  obtain ⟨rfl⟩:=hF.p
  have o0:=hF.c0
  rw [ht] at hcall
  have hil':(i:Int) < (m.obs.length:Int):=by omega
  clear h hr ht hf hv hF hg hxo hk hx
  go_enter Tryz.func25,Tryz.ntmps25
  go_wp2_with fail
  refine hcall.mono ?_
  rintro e w' ⟨rfl,rfl⟩
  go_wp2
  go_ret2
  exact ⟨rfl,rfl⟩
theorem results_val {fn:Func}{p k:Tmp} (h:fn.results=#[.cell p 33,.tmp k]) {tmps:Array Value}{z:Nat} (v0 v1 v:Value) (hp:tmps.getD p undef=.pointer (some ⟨z,0,none⟩)) (hk:tmps.getD k undef=v) (z0:w.cell? ⟨z,0,none⟩=some v0) (z1:w.cell? ⟨z,1,none⟩=some v1) :
 (results fn tmps).run Tryz.prog w=.ok (.tuple #[.agg #[v0,v1],v]) w:=by
 have hp2:tmps[p]?.getD undef=.pointer (some ⟨z,0,none⟩):=by rw [← hp];simp
 have hk2:tmps[k]?.getD undef=v:=by rw [← hk];simp
 simp [results,h,hp2,hk2,go_sem,z0,z1]
theorem ObsAt.val {cb ob:Nat→Nat}{v:Value}{obs:List Ob} (h:ObsAt w cb ob v obs) {i:Nat}{o:Ob} (ho:obs[i]?=some o) {j:Nat}{x:Vl} (hx:o.slots[j]?=some x):w.cell? ⟨ob i,j*2,none⟩=some (.bool x.obj)∧w.cell? ⟨ob i,j*2+1,none⟩=some (.int .i64 x.n):=by
 have hb:=h.at_ i o ho
 have:=vcs_get o.slots j x hx
 simp only [World.cell?,hb]
 simpa using this
theorem slot_any (h:KIm w m K) (o j:Int) :
 Calls Tryz.prog 23 #[.pointer (some ⟨K.b,0,none⟩),.int .i64 o,.int .i64 j] w fun e w'=>e=.returned (.tuple #[(m.slot o j).1.val,.int .i64 (m.slot o j).2])∧Below w.heap.size w w':=by
 obtain ⟨p,cap,hv,hf⟩:=h.obs.form
 have c1:=h.hd.c1
 rw [hv] at c1
 have hn:=h.ok.objs
 have hbl:=World.block_lt_of_cell? w ⟨K.b,1,none⟩ c1
 have c1':(w.alloc (.cells #[.bool false,.int .i64 0] 33)).cell? ⟨K.b,1,none⟩=some (.slice p m.obs.length cap):=by go_keep
 have hcall:=has_any hn c1' o
 rw [show (decide (0≤o)&&decide (o < (m.obs.length:Int)))=m.there o from rfl] at hcall
 obtain ⟨r,hr⟩:∃ r,m.slot o j=r:=⟨_,rfl⟩
 rw [hr]
 have hz:=(MapKept.heap_alloc w (.cells #[.bool false,.int .i64 0] 33)).1
 have z0:(w.alloc (.cells #[.bool false,.int .i64 0] 33)).cell? ⟨w.heap.size,0,none⟩=some (.bool false):=by simp only [World.cell?,hz];rfl
 have z1:(w.alloc (.cells #[.bool false,.int .i64 0] 33)).cell? ⟨w.heap.size,1,none⟩=some (.int .i64 0):=by simp only [World.cell?,hz];rfl
 have HB:Hid (Below w.heap.size w (w.alloc (.cells #[.bool false,.int .i64 0] 33))):=(Below.refl _ w).alloc (Nat.le_refl _) _
 cases ht:m.there o with
 | false =>
  have hdr:r=(Vl.zero,4):=by rw [← hr];unfold Im.slot;rw [ht];rfl
  subst hdr
  rw [ht] at hcall
  clear h hr ht hf hv
  go_enter Tryz.func23,Tryz.ntmps23
  go_wp2_with fail
  refine hcall.mono ?_
  rintro e w' ⟨rfl,rfl⟩
  go_wp2
  refine bodyPost_ret (results_val rfl _ _ _ rfl rfl z0 z1) rfl ?_
  exact ⟨rfl,HB.out⟩
 | true =>
  obtain ⟨i,x,rfl,hx,hi,hil⟩:=there_get ht
  obtain ⟨g,hg,hF⟩:=hf i x hx
  have hxo:=h.ok.obj x (List.mem_of_getElem? hx)
  have htot:x.slots.length≤10:=by rw [hxo.2.2.1];exact tot_le h.ok x.cls
  have hsl:m.slot (i:Int) j=(if 0≤j then (match x.slots[j.toNat]? with
   | some v=>(v,(0:Int))
   | none=>(Vl.zero,(4:Int))) else (Vl.zero,(4:Int))):=by unfold Im.slot;rw [ht,if_pos rfl,hi,hx]
  obtain ⟨rfl⟩:=hF.p
  have hgl:=World.block_lt_of_cell? w ⟨g,i*2+1,none⟩ hF.c1
  have o1:(w.alloc (.cells #[.bool false,.int .i64 0] 33)).cell? ⟨g,i*2+1,none⟩=some (.slice (some ⟨K.ob i,0,none⟩) x.slots.length x.slots.length):=(World.cell?_of_block (a:=⟨g,i*2+1,none⟩) (Below.heap_alloc w _ g hgl)).trans hF.c1
  rw [ht] at hcall
  have hil':(i:Int) < (m.obs.length:Int):=by omega
  have HO:Hid (ObsAt w K.cb K.ob K.ov m.obs∧m.obs[i]?=some x):=⟨h.obs,hx⟩
  clear h ht hf hv hF hg hxo hx
  by_cases hj:0≤j
  · by_cases hjl:j < (x.slots.length:Int)
    · obtain ⟨jn,rfl⟩:∃ jn:Nat,j=(jn:Int):=⟨j.toNat,by omega⟩
      obtain ⟨u,hu⟩:∃ u,x.slots[jn]?=some u:=⟨_,List.getElem?_eq_getElem (by omega)⟩
      have hdr:r=(u,0):=by rw [← hr,hsl,if_pos hj,Int.toNat_natCast,hu]
      subst hdr
      have hbo:=HO.out.1.at_ i x HO.out.2
      have hol:=(Array.getElem?_eq_some_iff.1 hbo).1
      obtain ⟨u0,u1⟩:=HO.out.1.val HO.out.2 hu
      have s0:(w.alloc (.cells #[.bool false,.int .i64 0] 33)).cell? ⟨K.ob i,jn*2,none⟩=some (.bool u.obj):=(World.cell?_of_block (a:=⟨K.ob i,jn*2,none⟩) (Below.heap_alloc w _ _ hol)).trans u0
      have s1:(w.alloc (.cells #[.bool false,.int .i64 0] 33)).cell? ⟨K.ob i,jn*2+1,none⟩=some (.int .i64 u.n):=(World.cell?_of_block (a:=⟨K.ob i,jn*2+1,none⟩) (Below.heap_alloc w _ _ hol)).trans u1
      have hz':=(MapKept.heap_alloc w (.cells #[.bool u.obj,.int .i64 u.n] 33)).1
      have y0:(w.alloc (.cells #[.bool u.obj,.int .i64 u.n] 33)).cell? ⟨w.heap.size,0,none⟩=some (.bool u.obj):=by simp only [World.cell?,hz'];rfl
      have y1:(w.alloc (.cells #[.bool u.obj,.int .i64 u.n] 33)).cell? ⟨w.heap.size,1,none⟩=some (.int .i64 u.n):=by simp only [World.cell?,hz'];rfl
      have HB':Hid (Below w.heap.size w (w.alloc (.cells #[.bool u.obj,.int .i64 u.n] 33))):=(Below.refl _ w).alloc (Nat.le_refl _) _
      clear hr hsl hbo u0 u1 hu hz hz'
      go_enter Tryz.func23,Tryz.ntmps23
      go_wp2_with fail
      refine hcall.mono ?_
      rintro e w' ⟨rfl,rfl⟩
      go_wp2
      refine bodyPost_ret (results_val rfl _ _ _ rfl rfl y0 y1) rfl ?_
      exact ⟨rfl,HB'.out⟩
    · have hdr:r=(Vl.zero,4):=by rw [← hr,hsl,if_pos hj,List.getElem?_eq_none (by omega)]
      subst hdr
      clear hr hsl
      go_enter Tryz.func23,Tryz.ntmps23
      go_wp2_with fail
      refine hcall.mono ?_
      rintro e w' ⟨rfl,rfl⟩
      go_wp2
      refine bodyPost_ret (results_val rfl _ _ _ rfl rfl z0 z1) rfl ?_
      exact ⟨rfl,HB.out⟩
  · have hdr:r=(Vl.zero,4):=by rw [← hr,hsl,if_neg hj]
    subst hdr
    clear hr hsl
    go_enter Tryz.func23,Tryz.ntmps23
    go_wp2_with fail
    refine hcall.mono ?_
    rintro e w' ⟨rfl,rfl⟩
    go_wp2
    refine bodyPost_ret (results_val rfl _ _ _ rfl rfl z0 z1) rfl ?_
    exact ⟨rfl,HB.out⟩
variable {w' : World}
theorem KIm.reobs (h:KIm w m K) {obs:List Ob}{ov:Value}{ob:Nat→Nat} (hm':ImOk { m with obs:=obs }) (ho:ObsAt w' K.cb ob ov obs) (hob:∀ k,OBlk ob ov obs.length k→OBlk K.ob K.ov m.obs.length k∨w.heap.size≤k)
 (hch:Chg w w' (fun k=>k=K.b∨OBlk K.ob K.ov m.obs.length k)) (htyp:∃ cur,w'.heap[K.b]?=some (.cells cur 70)) (hcell:∀ o,o≠1→w'.cell? ⟨K.b,o,none⟩=w.cell? ⟨K.b,o,none⟩) (hc1:w'.cell? ⟨K.b,1,none⟩=some ov) :
 Step w w' m K { m with obs:=obs } { K with ov:=ov,ob:=ob }:=by
 have hon:∀ k,OBlk K.ob K.ov m.obs.length k→Cel w k∧(∀ cs t fz,w.heap[k]?=some (.cells cs t fz)→t=105∨t=33):=fun k hk=>by
  obtain ⟨cs,hcs⟩:=h.obs.kind hk
  rcases hcs with e | e
  · exact ⟨⟨_,_,e⟩,fun cs' t fz e'=>by rw [e] at e';injection e' with e';injection e' with _ e' _;exact .inl e'.symm⟩
  · exact ⟨⟨_,_,e⟩,fun cs' t fz e'=>by rw [e] at e';injection e' with e';injection e' with _ e' _;exact .inr e'.symm⟩
 have hty:∀ k cs t fz,w.heap[k]?=some (.cells cs t fz)→t≠105→t≠33→¬ OBlk K.ob K.ov m.obs.length k:=fun k cs t fz hk h1 h2 e=>by
  rcases (hon k e).2 cs t fz hk with e | e
  · exact h1 e
  · exact h2 e
 have hmp:∀ k l,SMap w k l→¬ (k=K.b∨OBlk K.ob K.ov m.obs.length k):=fun k l hs e=>by
  rcases e with e | e
  · exact cel_ne_map h.cor.tab.cel hs e.symm
  · exact cel_ne_map (hon k e).1 hs rfl
 have hcl:∀ c,c < m.kl.length→¬ (K.cb c=K.b∨OBlk K.ob K.ov m.obs.length (K.cb c)):=fun c hc e=>by
  rcases e with e | e
  · exact (h.cor.clsn h.cls hc).2 e
  · exact hty _ _ _ _ (h.cls.at_ c _ (List.getElem?_eq_getElem hc)) (by decide) (by decide) e
 have hcb:∀ k,CBlk K.k k→¬ (k=K.b∨OBlk K.ob K.ov m.obs.length k):=fun k hk e=>by
  rcases e with e | e
  · exact h.cor.bn (by rw [← e];exact hk)
  · obtain ⟨cs,hcs⟩:=h.obs.kind e
    rcases hcs with hc | hc
    · exact h.cor.other hc (by decide) (by decide) (by decide) hk
    · exact h.cor.other hc (by decide) (by decide) (by decide) hk
 have hg:∀ j,K.k.Mk j→1≤(K.k.md j).ws.length→¬ ((K.k.md j).g=K.b∨OBlk K.ob K.ov m.obs.length (K.k.md j).g):=fun j hj h1 e=>by
  rcases e with e | e
  · exact (h.cor.gn hj h1).2 e
  · obtain ⟨x,hx⟩:∃ x,(K.k.md j).ws[0]?=some x:=⟨_,List.getElem?_eq_getElem (by omega)⟩
    have c0:=(h.cor.mt j hj).mat.c0 0 x hx
    rw [Nat.zero_mul] at c0
    rcases e with e | ⟨i,hi,e⟩
    · obtain ⟨p,cap,hv,hf⟩:=h.obs.form
      by_cases hn:0 < m.obs.length
      · obtain ⟨g',hg',hF⟩:=hf 0 _ (List.getElem?_eq_getElem hn)
        rw [hg'] at e
        injection e with e
        have:=hF.c0
        rw [e,Nat.zero_mul,c0] at this
        cases this
      · have hnil:=h.obs.nil (List.eq_nil_of_length_eq_zero (by omega))
        rw [hnil] at e
        cases e
    · have hb:=h.obs.at_ i _ (List.getElem?_eq_getElem hi)
      rw [e] at c0
      simp only [World.cell?,hb] at c0
      cases hsl:(m.obs[i]).slots with
      | nil=>rw [hsl] at c0;simp [vcs] at c0
      | cons a l=>rw [hsl] at c0;simp [vcs] at c0
 have hfoot:∀ k,Foot { m with obs:=obs } { K with ov:=ov,ob:=ob } k→Foot m K k∨w.heap.size≤k:=fun k e=>by
  rcases e with e | e | e | e | e | e
  · exact .inl (.inl e)
  · exact .inl (.inr (.inl e))
  · exact .inl (.inr (.inr (.inl e)))
  · exact .inl (.inr (.inr (.inr (.inl e))))
  · rcases hob k e with e | e
    · exact .inl (.inr (.inr (.inr (.inr (.inl e)))))
    · exact .inr e
  · exact .inl (.inr (.inr (.inr (.inr (.inr e)))))
 have hchF:Chg w w' (Foot m K):=hch.mono (fun k _ e=>by
  rcases e with e | e
  · exact .inl e
  · exact .inr (.inr (.inr (.inr (.inl e)))))
 have hcor:Cor w' K.b K.k (fun _=>False) (SdI m K) (SrI m K):=by
  have hcc:=h.cor
  have hblk:∀ k,CBlk K.k k→w'.heap[k]?=w.heap[k]?:=fun k e=>hch.block k (hcc.lt e) (hcb k e)
  have ht:=hcc.tab
  refine ⟨htyp,(hcell 5 (by omega)).trans hcc.b5,⟨hcc.snd.map.same (hblk _ (.inl rfl)),fun s v hv=>?_,hcc.snd.inj,fun s ib p hs hp=>(hcc.snd.cel s ib p hs hp).same (hblk p (.inr (.inr (.inl ⟨p,s,hcc.reg s p ⟨ib,hs,hp⟩,.inl rfl⟩))))⟩,hcc.pls.same (fun k e=>hblk k (.inr (.inr (.inl e)))),hcc.reg,hcc.told,⟨?_,ht.n1,ht.n64,(hcell _ (by omega)).trans ht.sz,fun i hi=>(hcell _ (by omega)).trans (ht.c0 i hi),fun i hi=>(hcell _ (by omega)).trans (ht.c1 i hi),fun i hi=>(hcell _ (by omega)).trans (ht.c2 i hi),fun i hi=>(hcell _ (by omega)).trans (ht.c3 i hi)⟩,hcc.rows,fun k e=>(hcc.mt k e).same (hblk k (.inr (.inr (.inr e)))) (fun h1=>hch.block _ ((hcc.mt k e).mat.cel h1).lt (hg k e h1)),hcc.gfr⟩
  · obtain ⟨ib,rfl,h4,h5⟩:=hcc.snd.inn s v hv
    exact ⟨ib,rfl,h4.same (hblk _ (.inr (.inl ⟨s,hv⟩))),h5⟩
  · obtain ⟨cur,hcur⟩:=htyp
    exact ⟨_,_,hcur⟩
 have hh:=h.hd
 refine ⟨⟨hm',hcor,⟨(hcell 0 (by omega)).trans hh.c0,hc1,(hcell 2 (by omega)).trans hh.c2,(hcell 3 (by omega)).trans hh.c3,(hcell 4 (by omega)).trans hh.c4⟩,h.np6,h.cll,h.lc.same (hch.block _ h.lc.lt (hmp _ _ h.lc)),h.lcl,h.lcn,⟨(h.cls.chg hch hcl).at_,h.cls.inj⟩,fun c hc=>(h.lm c hc).same (hch.block _ (h.lm c hc).lt (hmp _ _ (h.lm c hc))),h.mid,h.own,h.isM,⟨h.ap.mb_sb,h.ap.mb_ib,h.ap.cm_mb,h.ap.cm_sb,h.ap.cm_ib,h.ap.cm_inj⟩,ho,h.glo.chg hchF (fun k hg e=>h.gl k e hg),fun k hk hgl=>?_⟩,rfl,rfl,hchF,hfoot,Nat.le_refl _,fun _ _=>rfl,fun k hk=>⟨hk,rfl⟩⟩
 rcases hfoot k hk with e | e
 · exact h.gl k e hgl
 · have:=h.glo.lt hgl;omega
end Go.Proofs.YtkghmgoefiepeaaGreatDoor.reads
