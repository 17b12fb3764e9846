import Derived.Laws.BitsLemmas
import Derived.Test.YtkghmgoefiepeaaGreatDoorQ0
import Derived.Test.YtkghmgoefiepeaaGreatDoorQ1
set_option linter.unusedSimpArgs false
set_option linter.unusedVariables false
set_option maxHeartbeats 4000000
set_option maxRecDepth 100000
namespace Kn
open Go
def spanL (p:UInt8→Bool) (m:Nat) (r:List UInt8):List UInt8:=(r.take m).takeWhile p
def isD2 (c:UInt8):Bool:=decide (48≤c.toNat)&&decide (c.toNat≤50)
def isD3 (c:UInt8):Bool:=decide (48≤c.toNat)&&decide (c.toNat≤51)
def kName (r:List UInt8):List UInt8:=if spanL isCap 1 r=[] then [] else spanL isCap 1 r++spanL isSmall 5 (r.drop 1)
def kSel (r:List UInt8):List UInt8 :=
 if spanL isSmall 6 r=[] then []
 else if r[(spanL isSmall 6 r).length]?=some 47 then
  (if spanL isD3 1 (r.drop ((spanL isSmall 6 r).length+1))=[] then [] else spanL isSmall 6 r++47::spanL isD3 1 (r.drop ((spanL isSmall 6 r).length+1)))
 else []
def kNum (k:Nat) (p:UInt8→Bool) (m:Nat) (ahead:Nat) (r:List UInt8):Option (W×Nat):=if spanL p m r=[] then none else some (⟨k,(numOf (spanL p m r):Nat),[],[],[]⟩,ahead+(spanL p m r).length)
def kSend (k:Nat) (ahead:Nat) (r:List UInt8):Option (W×Nat):=if kSel r=[] then none else some (⟨k,(argsOf (kSel r):Nat),kSel r,[],[]⟩,ahead+(kSel r).length)
def kHead (l:List UInt8):Nat :=
 if l=[110,101,119] then 119 else if l=[98,101] then 98 else if l=[100,114,111,112] then 120 else if l=[109,111,118,101] then 118 else if l=[99,111,112,121] then 99 else 0
def kPlain (l:List UInt8):Nat:=match rdPlain l with | some x=>x.k | none=>0
def kClass (k:Nat) (ahead:Nat) (r:List UInt8):Option (W×Nat) :=
 if kName r=[] then none
 else if k=119∨k=98 then some (⟨k,0,[],kName r,[]⟩,ahead+(kName r).length)
 else if k=120∨k=99 then
  (if r[(kName r).length]? = some 46 then
   (if kSel (r.drop ((kName r).length + 1)) = [] then none
    else if k=120 then some (⟨k,0,kSel (r.drop ((kName r).length+1)),kName r,[]⟩,ahead+(kName r).length+1+(kSel (r.drop ((kName r).length+1))).length)
    else if r[(kName r).length+1+(kSel (r.drop ((kName r).length+1))).length]?=some 46 then
     (if kName (r.drop ((kName r).length + 1 + (kSel (r.drop ((kName r).length + 1))).length + 1)) = [] then none
      else some (⟨k,0,kSel (r.drop ((kName r).length+1)),kName r,kName (r.drop ((kName r).length+1+(kSel (r.drop ((kName r).length+1))).length+1))⟩,
       ahead+(kName r).length+1+(kSel (r.drop ((kName r).length+1))).length+1+(kName (r.drop ((kName r).length+1+(kSel (r.drop ((kName r).length+1))).length+1))).length))
    else none)
   else none)
 else if k=118 then
  (if r[(kName r).length]? = some 46 then
   (if kName (r.drop ((kName r).length + 1)) = [] then none
    else some (⟨k,0,[],kName r,kName (r.drop ((kName r).length+1))⟩,ahead+(kName r).length+1+(kName (r.drop ((kName r).length+1))).length))
   else none)
 else none
def kw (r:List UInt8):Option (W×Nat) :=
 if first r=45 then (if r.length=1∨r[1]?=some 32 then some (⟨45,0,[],[],[]⟩,1) else (kNum 110 isDig 4 1 (r.drop 1)).map fun q=>(⟨110,-q.1.n,[],[],[]⟩,q.2))
 else if first r=61 then (if r[1]?=some 115 then kNum 112 isDig 1 2 (r.drop 2) else some (⟨61,0,[],[],[]⟩,1))
 else if first r=94 then kSend 94 1 (r.drop 1)
 else if first r=62 then kNum 62 isDig 2 1 (r.drop 1)
 else if first r=63 then kNum 63 isDig 2 1 (r.drop 1)
 else if first r=43∨first r=42∨first r=60 then some (⟨first r,0,[],[],[]⟩,1)
 else if spanL isSmall 6 r=[] then kNum 110 isDig 4 0 r
 else if r[(spanL isSmall 6 r).length]?=some 58 then kClass (kHead (spanL isSmall 6 r)) ((spanL isSmall 6 r).length+1) (r.drop ((spanL isSmall 6 r).length+1))
 else if r[(spanL isSmall 6 r).length]?=some 47 then kSend 115 0 r
 else if spanL isSmall 6 r=[97] then kNum 97 isD2 1 1 (r.drop 1)
 else if spanL isSmall 6 r=[115] then kNum 103 isDig 1 1 (r.drop 1)
 else if kPlain (spanL isSmall 6 r)=0 then none else some (⟨kPlain (spanL isSmall 6 r),0,[],[],[]⟩,(spanL isSmall 6 r).length)
def kWhole (r:List UInt8):Option W:=match kw r with | some (x,n)=>if n=r.length∨r[n]?=some 32 then some x else none | none=>none
theorem spanL_pre (p:UInt8→Bool) (m:Nat) (r:List UInt8):∃ t,r=spanL p m r++t:=by
 obtain ⟨t,ht⟩:=(List.takeWhile_prefix p (l:=r.take m)).trans (List.take_prefix m r)
 exact ⟨t,ht.symm⟩
theorem spanL_all (p:UInt8→Bool) (m:Nat) (r:List UInt8):∀ c∈spanL p m r,p c=true:=fun c hc=>by
 exact List.all_eq_true.1 List.all_takeWhile c hc
theorem spanL_le (p:UInt8→Bool) (m:Nat) (r:List UInt8):(spanL p m r).length≤m:=by
 unfold spanL
 have h1:=(List.takeWhile_prefix p (l:=r.take m)).length_le
 rw [List.length_take] at h1
 omega
theorem spanL_eq (p:UInt8→Bool) (m:Nat) (l t:List UInt8) (hl:∀ c∈l,p c=true) (hm:l.length≤m) (ht:l.length=m∨∀ c,t[0]?=some c→p c=false):spanL p m (l++t)=l:=by
 unfold spanL
 rw [List.take_append]
 rw [List.take_of_length_le hm]
 rw [List.takeWhile_append_of_pos hl]
 rcases ht with h | h
 · rw [h,Nat.sub_self];simp
 · cases t with
   | nil=>simp
   | cons c t =>
    cases hk:m - l.length with
    | zero=>simp
    | succ k=>rw [List.take_succ_cons,List.takeWhile_cons_of_neg (by rw [h c rfl];simp)];simp
def Digs (d:List UInt8) (m:Nat):Prop:=1≤d.length∧d.length≤m∧∀ c∈d,isDig c=true
def Form (t:List UInt8) (x:W):Prop :=
 rdPlain t=some x ∨
 (∃ nm,className nm=true∧t=110::101::119::58::nm∧x=⟨119,0,[],nm,[]⟩) ∨
 (∃ nm,className nm=true∧t=98::101::58::nm∧x=⟨98,0,[],nm,[]⟩) ∨
 (∃ nm sl,className nm=true∧selector sl=true∧t=100::114::111::112::58::(nm++46::sl)∧x=⟨120,0,sl,nm,[]⟩) ∨
 (∃ nm nn,className nm=true∧className nn=true∧t=109::111::118::101::58::(nm++46::nn)∧x=⟨118,0,[],nm,nn⟩) ∨
 (∃ nm sl nn,className nm=true∧selector sl=true∧className nn=true∧t=99::111::112::121::58::(nm++46::(sl++46::nn))∧x=⟨99,0,sl,nm,nn⟩) ∨
 (selector t=true∧x=⟨115,(argsOf t:Nat),t,[],[]⟩) ∨
 (∃ sl,selector sl=true∧t=94::sl∧x=⟨94,(argsOf sl:Nat),sl,[],[]⟩) ∨
 (Digs t 4∧x=⟨110,(numOf t:Nat),[],[],[]⟩) ∨
 (∃ d,Digs d 4∧t=45::d∧x=⟨110,-((numOf d:Nat):Int),[],[],[]⟩) ∨
 (∃ d,Digs d 2∧t=62::d∧x=⟨62,(numOf d:Nat),[],[],[]⟩) ∨
 (∃ d,Digs d 2∧t=63::d∧x=⟨63,(numOf d:Nat),[],[],[]⟩) ∨
 (∃ d,Digs d 1∧numOf d < 3∧t=97::d∧x=⟨97,(numOf d:Nat),[],[],[]⟩) ∨
 (∃ d,Digs d 1∧t=115::d∧x=⟨103,(numOf d:Nat),[],[],[]⟩) ∨
 (∃ d,Digs d 1∧t=61::115::d∧x=⟨112,(numOf d:Nat),[],[],[]⟩)
theorem digs_numI {d:List UInt8}{m:Nat} (h:Digs d m):numI d m=(numOf d:Nat):=by
 unfold numI
 rw [number_some d m h.1 h.2.1 (List.all_eq_true.2 h.2.2)]
theorem numI_digs {d:List UInt8}{m:Nat} (h:0≤numI d m):Digs d m∧numI d m=(numOf d:Nat):=by
 have hd:Digs d m:=by
  by_cases hc:1≤d.length∧d.length≤m∧d.all isDig=true
  · exact ⟨hc.1,hc.2.1,List.all_eq_true.1 hc.2.2⟩
  · unfold numI at h
    rw [number_none d m hc] at h
    simp at h
 exact ⟨hd,digs_numI hd⟩
theorem numI_not {d:List UInt8}{m:Nat} (h:¬ Digs d m):numI d m=-1:=by
 unfold numI
 rw [number_none d m (fun hc=>h ⟨hc.1,hc.2.1,List.all_eq_true.1 hc.2.2⟩)]
theorem className_chars {l:List UInt8} (h:className l=true):1≤l.length∧l.length≤6∧isCap (l[0]?.getD 0)=true∧∀ c∈l.drop 1,isSmall c=true:=by
 unfold className at h
 simp only [Bool.and_eq_true,decide_eq_true_eq] at h
 exact ⟨h.1.1.1,h.1.1.2,h.1.2,List.all_eq_true.1 h.2⟩
theorem className_form {l:List UInt8} (h:className l=true):∃ c r,l=c::r∧isCap c=true∧r.length≤5∧∀ x∈r,isSmall x=true:=by
 obtain ⟨h1,h2,h3,h4⟩:=className_chars h
 match l,h1 with
 | c::r,_=>exact ⟨c,r,rfl,by simpa using h3,by simp at h2;omega,by simpa using h4⟩
theorem className_mk {c:UInt8}{r:List UInt8} (hc:isCap c=true) (hl:r.length≤5) (hr:∀ x∈r,isSmall x=true):className (c::r)=true:=by
 unfold className
 simp only [Bool.and_eq_true,decide_eq_true_eq,List.drop_succ_cons,List.drop_zero]
 exact ⟨⟨⟨by simp,by simp;omega⟩,by simpa using hc⟩,List.all_eq_true.2 hr⟩
theorem selector_form {l:List UInt8} (h:selector l=true):∃ a d,l=a++[47,d]∧1≤a.length∧a.length≤6∧(∀ x∈a,isSmall x=true)∧isD3 d=true:=by
 unfold selector at h
 simp only [Bool.and_eq_true,decide_eq_true_eq] at h
 obtain ⟨⟨⟨⟨⟨h3,h8⟩,h47⟩,hd1⟩,hd2⟩,hall⟩:=h
 have e:l=l.take (l.length - 2)++l.drop (l.length - 2):=(List.take_append_drop _ _).symm
 have hlen:(l.drop (l.length - 2)).length=2:=by rw [List.length_drop];omega
 match hdr:l.drop (l.length - 2),hlen with
 | [y,z],_ =>
  have e1:l[l.length - 2]?=some y:=by
   have:(l.drop (l.length - 2))[0]?=some y:=by rw [hdr];rfl
   rw [List.getElem?_drop,Nat.add_zero] at this;exact this
  have e2:l[l.length - 1]?=some z:=by
   have:(l.drop (l.length - 2))[1]?=some z:=by rw [hdr];rfl
   rw [List.getElem?_drop,show l.length - 2+1=l.length - 1 from by omega] at this;exact this
  rw [e1] at h47
  rw [e2] at hd1 hd2
  simp only [Option.getD_some] at h47 hd1 hd2
  subst h47
  refine ⟨l.take (l.length - 2),z,by rw [← hdr];exact e,by rw [List.length_take];omega,by rw [List.length_take];omega,List.all_eq_true.1 hall,?_⟩
  unfold isD3;simp [hd1,hd2]
theorem selector_mk {a:List UInt8}{d:UInt8} (h1:1≤a.length) (h6:a.length≤6) (ha:∀ x∈a,isSmall x=true) (hd:isD3 d=true):selector (a++[47,d])=true:=by
 unfold isD3 at hd
 simp only [Bool.and_eq_true,decide_eq_true_eq] at hd
 unfold selector
 have hl:(a++[47,d]).length=a.length+2:=by simp
 rw [hl,show a.length+2 - 2=a.length from rfl,show a.length+2 - 1=a.length+1 from rfl]
 have e1:(a++[47,d])[a.length]?=some 47:=by rw [List.getElem?_append_right (Nat.le_refl _),Nat.sub_self];rfl
 have e2:(a++[47,d])[a.length+1]?=some d:=by rw [List.getElem?_append_right (by omega),show a.length+1 - a.length=1 from by omega];rfl
 rw [e1,e2]
 simp only [Bool.and_eq_true,decide_eq_true_eq,Option.getD_some]
 refine ⟨⟨⟨⟨⟨by omega,by omega⟩,trivial⟩,hd.1⟩,hd.2⟩,?_⟩
 rw [List.take_left']
 · exact List.all_eq_true.2 ha
 · rfl
theorem small_ne {c:UInt8} (h:isSmall c=true) (k:UInt8) (hk:isSmall k=false):c≠k:=fun e=>by rw [e,hk] at h;cases h
theorem className_no46 {l:List UInt8} (h:className l=true):∀ c∈l,c≠46:=by
 obtain ⟨c,r,rfl,hc,_,hr⟩:=className_form h
 intro x hx
 rcases List.mem_cons.1 hx with rfl | hx
 · intro e;rw [e] at hc;simp [isCap] at hc
 · exact small_ne (hr x hx) 46 (by decide)
theorem selector_chars {l:List UInt8} (h:selector l=true):∀ c∈l,isSmall c=true∨c=47∨isD3 c=true:=by
 obtain ⟨a,d,rfl,_,_,ha,hd⟩:=selector_form h
 intro x hx
 rcases List.mem_append.1 hx with hx | hx
 · exact .inl (ha x hx)
 · simp at hx
   rcases hx with rfl | rfl
   · exact .inr (.inl rfl)
   · exact .inr (.inr hd)
theorem selector_no {l:List UInt8} (h:selector l=true) (k:UInt8) (h1:isSmall k=false) (h2:k≠47) (h3:isD3 k=false):∀ c∈l,c≠k:=fun c hc e=>by
 subst e
 rcases selector_chars h c hc with h' | h' | h'
 · rw [h1] at h';cases h'
 · exact h2 h'
 · rw [h3] at h';cases h'
def joinDots:List (List UInt8)→List UInt8
 | []=>[]
 | [p]=>p
 | p::q::r=>p++46::joinDots (q::r)
theorem joinDots_cons (p:List UInt8) (c:UInt8) (r:List (List UInt8)):joinDots ((c::p)::r)=c::joinDots (p::r):=by
 cases r <;> rfl
theorem splitDots_join:∀ (l:List UInt8),joinDots (splitDots l)=l
 | []=>rfl
 | c::r=>by
  have ih:=splitDots_join r
  rw [splitDots]
  split
  · rename_i e
    have hne:=splitDots_ne r
    cases hs:splitDots r with
    | nil=>exact absurd hs hne
    | cons p q=>rw [hs] at ih;show []++46::joinDots (p::q)=_;rw [ih,e];rfl
  · cases hs:splitDots r with
    | nil=>exact absurd hs (splitDots_ne r)
    | cons p q=>rw [hs] at ih;show joinDots ((c::p)::q)=_;rw [joinDots_cons,ih]
theorem splitDots_join2 {l p q:List UInt8} (h:splitDots l=[p,q]):l=p++46::q:=by
 have:=splitDots_join l
 rw [h] at this
 exact this.symm
theorem splitDots_join3 {l p q r:List UInt8} (h:splitDots l=[p,q,r]):l=p++46::(q++46::r):=by
 have:=splitDots_join l
 rw [h] at this
 exact this.symm
theorem form_named {t:List UInt8}{x:W} (h:rdNamed t=some x):Form t x:=by
 unfold rdNamed at h
 split at h
 · rename_i hp
   obtain ⟨r,rfl⟩:=List.isPrefixOf_iff_prefix.1 hp
   split at h
   · rename_i hc
     injection h with h
     exact .inr (.inl ⟨r,hc,rfl,h.symm⟩)
   · cases h
 · split at h
   · rename_i hp
     obtain ⟨r,rfl⟩:=List.isPrefixOf_iff_prefix.1 hp
     split at h
     · rename_i hc
       injection h with h
       exact .inr (.inr (.inl ⟨r,hc,rfl,h.symm⟩))
     · cases h
   · split at h
     · cases h
     · unfold namedRest at h
       split at h
       · rename_i p q hsp
         split at h
         · rename_i hp
           obtain ⟨r,rfl⟩:=List.isPrefixOf_iff_prefix.1 hp
           split at h
           · rename_i hc
             simp only [Bool.and_eq_true] at hc
             injection h with h
             have hj:=splitDots_join2 (by simpa using hsp)
             exact .inr (.inr (.inr (.inl ⟨p,q,hc.1,hc.2,by rw [← hj];rfl,h.symm⟩)))
           · cases h
         · split at h
           · rename_i hp
             obtain ⟨r,rfl⟩:=List.isPrefixOf_iff_prefix.1 hp
             split at h
             · rename_i hc
               simp only [Bool.and_eq_true] at hc
               injection h with h
               have hj:=splitDots_join2 (by simpa using hsp)
               exact .inr (.inr (.inr (.inr (.inl ⟨p,q,hc.1,hc.2,by rw [← hj];rfl,h.symm⟩))))
             · cases h
           · cases h
       · rename_i p q r' hsp
         split at h
         · rename_i hp
           obtain ⟨r,rfl⟩:=List.isPrefixOf_iff_prefix.1 hp
           split at h
           · rename_i hc
             simp only [Bool.and_eq_true] at hc
             injection h with h
             have hj:=splitDots_join3 (by simpa using hsp)
             exact .inr (.inr (.inr (.inr (.inr (.inl ⟨p,q,r',hc.1.1,hc.1.2,hc.2,by rw [← hj];rfl,h.symm⟩)))))
           · cases h
         · cases h
       · cases h
theorem first_cons (c:UInt8) (r:List UInt8):first (c::r)=c.toNat:=rfl
theorem first_eq {t:List UInt8}{k:UInt8} (h:first t=k.toNat) (hk:k.toNat≠0):∃ r,t=k::r:=by
 cases t with
 | nil=>exact absurd h.symm hk
 | cons c r=>exact ⟨r,by rw [show c=k from UInt8.toNat_inj.1 h]⟩
theorem form_rest {t:List UInt8}{x:W} (h:rdRest t=some x):Form t x:=by
 unfold rdRest at h
 split at h
 · rename_i hs
   injection h with h
   exact .inr (.inr (.inr (.inr (.inr (.inr (.inl ⟨hs,h.symm⟩))))))
 · unfold rest2 at h
   split at h
   · rename_i hs
     obtain ⟨r,rfl⟩:=first_eq (k:=94) hs.1 (by decide)
     injection h with h
     exact .inr (.inr (.inr (.inr (.inr (.inr (.inr (.inl ⟨r,hs.2,rfl,h.symm⟩)))))))
   · unfold rest3 at h
     split at h
     · rename_i hs
       obtain ⟨hd,e⟩:=numI_digs hs
       injection h with h
       exact .inr (.inr (.inr (.inr (.inr (.inr (.inr (.inr (.inl ⟨hd,by rw [← h,e]⟩))))))))
     · unfold rest4 at h
       split at h
       · rename_i hs
         obtain ⟨r,rfl⟩:=first_eq (k:=45) hs.1 (by decide)
         obtain ⟨hd,e⟩:=numI_digs hs.2
         injection h with h
         exact .inr (.inr (.inr (.inr (.inr (.inr (.inr (.inr (.inr (.inl ⟨r,hd,rfl,by rw [← h,e];rfl⟩)))))))))
       · unfold rest5 at h
         split at h
         · rename_i hs
           obtain ⟨hd,e⟩:=numI_digs hs.2
           rcases hs.1 with hf | hf
           · obtain ⟨r,rfl⟩:=first_eq (k:=62) hf (by decide)
             injection h with h
             exact .inr (.inr (.inr (.inr (.inr (.inr (.inr (.inr (.inr (.inr (.inl ⟨r,hd,rfl,by rw [← h,e];rfl⟩))))))))))
           · obtain ⟨r,rfl⟩:=first_eq (k:=63) hf (by decide)
             injection h with h
             exact .inr (.inr (.inr (.inr (.inr (.inr (.inr (.inr (.inr (.inr (.inr (.inl ⟨r,hd,rfl,by rw [← h,e];rfl⟩)))))))))))
         · unfold rest6 at h
           split at h
           · rename_i hs
             obtain ⟨r,rfl⟩:=first_eq (k:=97) hs.1 (by decide)
             obtain ⟨hd,e⟩:=numI_digs hs.2.1
             injection h with h
             exact .inr (.inr (.inr (.inr (.inr (.inr (.inr (.inr (.inr (.inr (.inr (.inr (.inl ⟨r,hd,by have h3:=hs.2.2;rw [e] at h3;simp only [List.drop_succ_cons,List.drop_zero] at h3;omega,rfl,by rw [← h,e];rfl⟩))))))))))))
           · unfold rest7 at h
             split at h
             · rename_i hs
               obtain ⟨r,rfl⟩:=first_eq (k:=115) hs.1 (by decide)
               obtain ⟨hd,e⟩:=numI_digs hs.2
               injection h with h
               exact .inr (.inr (.inr (.inr (.inr (.inr (.inr (.inr (.inr (.inr (.inr (.inr (.inr (.inl ⟨r,hd,rfl,by rw [← h,e];rfl⟩)))))))))))))
             · unfold rest8 at h
               split at h
               · rename_i hs
                 obtain ⟨h3,ht,hd⟩:=hs
                 match t,h3,ht,hd,h with
                 | [a,b,c],_,ht,hd,h =>
                  simp only [List.take_succ_cons,List.take_zero,List.cons.injEq,and_true] at ht
                  obtain ⟨rfl,rfl⟩:=ht
                  have hd':isDig c=true:=hd
                  injection h with h
                  refine .inr (.inr (.inr (.inr (.inr (.inr (.inr (.inr (.inr (.inr (.inr (.inr (.inr (.inr ⟨[c],⟨by simp,by simp,by simpa using hd'⟩,rfl,?_⟩)))))))))))))
                  rw [← h]
                  simp [numOf]
               · cases h
theorem form_rd {t:List UInt8}{x:W} (h:rd t=some x):Form t x:=by
 unfold rd at h
 split at h
 · rename_i y hy;injection h with h;subst h;exact .inl hy
 · split at h
   · rename_i y hy;injection h with h;subst h;exact form_named hy
   · exact form_rest h
theorem plain_mem {t:List UInt8}{x:W} (h:rdPlain t=some x):t∈[[115,101,108,102],[112,111,112],[100,117,112],[114,101,116],[43],[45],[42],[60],[61]]:=by
 unfold rdPlain at h
 repeat (first
  | (split at h
     · rename_i e;subst e;simp)
  | cases h)
theorem plain_none {t:List UInt8} (h:t ∉ ([[115,101,108,102],[112,111,112],[100,117,112],[114,101,116],[43],[45],[42],[60],[61]]:List (List UInt8))):rdPlain t=none:=by
 cases hr:rdPlain t with
 | none=>rfl
 | some x=>exact absurd (plain_mem hr) h
theorem named_none {t:List UInt8} (h:(58:UInt8) ∉ t):rdNamed t=none:=by
 have hp:∀ q:List UInt8,(58:UInt8)∈q→List.isPrefixOf q t=false:=by
  intro q hq
  rw [Bool.eq_false_iff]
  intro e
  obtain ⟨r,rfl⟩:=List.isPrefixOf_iff_prefix.1 e
  exact h (List.mem_append_left _ hq)
 unfold rdNamed
 rw [hp _ (by simp),hp [98,101,58] (by simp)]
 simp only [Bool.false_eq_true,if_false]
 split
 · rfl
 · unfold namedRest
   split
   · rw [hp _ (by simp),hp _ (by simp)];rfl
   · rw [hp _ (by simp)];rfl
   · rfl
theorem selector_head {c:UInt8}{r:List UInt8} (h:selector (c::r)=true):isSmall c=true:=by
 obtain ⟨a,d,e,h1,_,ha,_⟩:=selector_form h
 match a,h1 with
 | y::a',_ =>
  injection e with e1 e2
  rw [e1]
  exact ha y (by simp)
theorem selector_not {c:UInt8}{r:List UInt8} (h:isSmall c=false):selector (c::r)=false:=by
 rw [Bool.eq_false_iff]
 intro e
 rw [selector_head e] at h
 cases h
theorem numI_head {c:UInt8}{r:List UInt8}{m:Nat} (h:isDig c=false):numI (c::r) m=-1:=numI_not (fun hd=>by rw [hd.2.2 c (by simp)] at h;cases h)
theorem digs_no {d:List UInt8}{m:Nat} (h:Digs d m) (k:UInt8) (hk:isDig k=false):k ∉ d:=fun hm=>by rw [h.2.2 k hm] at hk;cases hk
theorem digs_cons {d:List UInt8}{m:Nat} (h:Digs d m):∃ c r,d=c::r∧isDig c=true:=by
 match d,h with
 | [],h=>have:=h.1;simp at this
 | c::r,h=>exact ⟨c,r,rfl,h.2.2 c (by simp)⟩
theorem rd_sign {c:UInt8}{d:List UInt8}{m:Nat} (hd:Digs d m) (h58:c≠58) (hs:isSmall c=false) (hp:(c::d) ∉ ([[115,101,108,102],[112,111,112],[100,117,112],[114,101,116],[43],[45],[42],[60],[61]]:List (List UInt8))):rd (c::d)=rest2 (c::d):=by
 unfold rd
 rw [plain_none hp,named_none (by
  intro hm
  rcases List.mem_cons.1 hm with e | e
  · exact h58 e.symm
  · exact digs_no hd 58 (by decide) e)]
 show rdRest (c::d)=_
 unfold rdRest
 rw [selector_not hs]
 rfl
theorem digs_not_nil {c:UInt8}{d:List UInt8}{m:Nat} (hd:Digs d m):(c::d) ∉ ([[115,101,108,102],[112,111,112],[100,117,112],[114,101,116],[43],[45],[42],[60],[61]]:List (List UInt8)):=by
 obtain ⟨y,r,rfl,hy⟩:=digs_cons hd
 intro hm
 simp only [List.mem_cons,List.cons.injEq,List.not_mem_nil,or_false,reduceCtorEq,and_false,false_or] at hm
 rcases hm with ⟨_,e,_⟩ | ⟨_,e,_⟩ | ⟨_,e,_⟩ | ⟨_,e,_⟩ <;> (rw [e] at hy;revert hy;decide)
theorem rd_neg {d:List UInt8} (hd:Digs d 4):rd (45::d)=some ⟨110,-((numOf d:Nat):Int),[],[],[]⟩:=by
 rw [rd_sign hd (by decide) (by decide) (digs_not_nil hd)]
 have e:=digs_numI hd
 unfold rest2;rw [if_neg (fun h=>absurd h.1 (by rw [first_cons];decide))]
 unfold rest3;rw [numI_head (by decide),if_neg (by omega)]
 unfold rest4
 rw [if_pos ⟨rfl,by show 0≤numI d 4;omega⟩]
 show some (W.mk 110 (-(numI d 4)) [] [] [])=_
 rw [e]
theorem rd_goto {d:List UInt8} (hd:Digs d 2):rd (62::d)=some ⟨62,(numOf d:Nat),[],[],[]⟩:=by
 rw [rd_sign hd (by decide) (by decide) (digs_not_nil hd)]
 have e:=digs_numI hd
 unfold rest2;rw [if_neg (fun h=>absurd h.1 (by rw [first_cons];decide))]
 unfold rest3;rw [numI_head (by decide),if_neg (by omega)]
 unfold rest4;rw [if_neg (fun h=>absurd h.1 (by rw [first_cons];decide))]
 unfold rest5
 rw [if_pos ⟨.inl rfl,by show 0≤numI d 2;omega⟩]
 show some (W.mk 62 (numI d 2) [] [] [])=_
 rw [e]
theorem rd_if {d:List UInt8} (hd:Digs d 2):rd (63::d)=some ⟨63,(numOf d:Nat),[],[],[]⟩:=by
 rw [rd_sign hd (by decide) (by decide) (digs_not_nil hd)]
 have e:=digs_numI hd
 unfold rest2;rw [if_neg (fun h=>absurd h.1 (by rw [first_cons];decide))]
 unfold rest3;rw [numI_head (by decide),if_neg (by omega)]
 unfold rest4;rw [if_neg (fun h=>absurd h.1 (by rw [first_cons];decide))]
 unfold rest5
 rw [if_pos ⟨.inr rfl,by show 0≤numI d 2;omega⟩]
 show some (W.mk 63 (numI d 2) [] [] [])=_
 rw [e]
theorem rd_num {d:List UInt8} (hd:Digs d 4):rd d=some ⟨110,(numOf d:Nat),[],[],[]⟩:=by
 have e:=digs_numI hd
 obtain ⟨c,r,rfl,hc⟩:=digs_cons hd
 have hsm:isSmall c=false:=by rw [Bool.eq_false_iff];intro h;simp [isDig] at hc;simp [isSmall] at h;omega
 have hcn:c.toNat≤57:=(isDig_iff.1 hc).2
 unfold rd
 rw [plain_none (by
  intro hm
  simp only [List.mem_cons,List.cons.injEq,List.not_mem_nil,or_false] at hm
  rcases hm with ⟨rfl,_⟩ | ⟨rfl,_⟩ | ⟨rfl,_⟩ | ⟨rfl,_⟩ | ⟨rfl,_⟩ | ⟨rfl,_⟩ | ⟨rfl,_⟩ | ⟨rfl,_⟩ | ⟨rfl,_⟩ <;> revert hc <;> decide),named_none (digs_no hd 58 (by decide))]
 show rdRest (c::r)=_
 unfold rdRest
 rw [selector_not hsm]
 show rest2 (c::r)=_
 unfold rest2;rw [if_neg (fun h=>by have:=h.1;rw [first_cons] at this;omega)]
 unfold rest3;rw [if_pos (by omega),e]
theorem rd_up {sl:List UInt8} (h:selector sl=true):rd (94::sl)=some ⟨94,(argsOf sl:Nat),sl,[],[]⟩:=by
 have hne:sl≠[]:=fun e=>by rw [e] at h;revert h;decide
 unfold rd
 rw [plain_none (by
  intro hm
  simp only [List.mem_cons,List.cons.injEq,List.not_mem_nil,or_false] at hm
  rcases hm with ⟨e,_⟩ | ⟨e,_⟩ | ⟨e,_⟩ | ⟨e,_⟩ | ⟨e,_⟩ | ⟨e,_⟩ | ⟨e,_⟩ | ⟨e,_⟩ | ⟨e,_⟩ <;> revert e <;> decide),named_none (by
  intro hm
  rcases List.mem_cons.1 hm with e | e
  · revert e;decide
  · exact selector_no h 58 (by decide) (by decide) (by decide) 58 e rfl)]
 show rdRest (94::sl)=_
 unfold rdRest
 rw [selector_not (by decide)]
 show rest2 (94::sl)=_
 unfold rest2;rw [if_pos ⟨rfl,h⟩];rfl
theorem rd_sel {t:List UInt8} (h:selector t=true):rd t=some ⟨115,(argsOf t:Nat),t,[],[]⟩:=by
 unfold rd
 rw [plain_none (by
  intro hm
  simp only [List.mem_cons,List.not_mem_nil,or_false] at hm
  rcases hm with rfl | rfl | rfl | rfl | rfl | rfl | rfl | rfl | rfl <;> revert h <;> decide),named_none (fun e=>selector_no h 58 (by decide) (by decide) (by decide) 58 e rfl)]
 show rdRest t=_
 unfold rdRest
 rw [if_pos h]
theorem selector_dig {c:UInt8}{d:List UInt8} (hd:Digs d 1):selector (c::d)=false:=by
 rw [Bool.eq_false_iff]
 intro h
 obtain ⟨a,e,he,h1,_⟩:=selector_form h
 have:=congrArg List.length he
 have h2:=hd.2.1
 simp at this
 omega
theorem rd_letter {c:UInt8}{d:List UInt8} (hd:Digs d 1) (h58:c≠58) (hdg:isDig c=false) (h94:c.toNat≠94):rd (c::d)=rest4 (c::d):=by
 unfold rd
 rw [plain_none (digs_not_nil hd),named_none (by
  intro hm
  rcases List.mem_cons.1 hm with e | e
  · exact h58 e.symm
  · exact digs_no hd 58 (by decide) e)]
 show rdRest (c::d)=_
 unfold rdRest
 rw [selector_dig hd]
 show rest2 (c::d)=_
 unfold rest2;rw [if_neg (fun h=>h94 h.1)]
 unfold rest3;rw [numI_head hdg,if_neg (by omega)]
theorem rd_arg {d:List UInt8} (hd:Digs d 1) (h3:numOf d < 3):rd (97::d)=some ⟨97,(numOf d:Nat),[],[],[]⟩:=by
 rw [rd_letter hd (by decide) (by decide) (by decide)]
 have e:=digs_numI hd
 unfold rest4;rw [if_neg (fun h=>absurd h.1 (by rw [first_cons];decide))]
 unfold rest5;rw [if_neg (fun h=>by have:=h.1;rw [first_cons] at this;revert this;decide)]
 unfold rest6
 rw [if_pos ⟨rfl,by show 0≤numI d 1;omega,by show numI d 1 < 3;omega⟩]
 show some (W.mk 97 (numI d 1) [] [] [])=_
 rw [e]
theorem rd_slot {d:List UInt8} (hd:Digs d 1):rd (115::d)=some ⟨103,(numOf d:Nat),[],[],[]⟩:=by
 rw [rd_letter hd (by decide) (by decide) (by decide)]
 have e:=digs_numI hd
 unfold rest4;rw [if_neg (fun h=>absurd h.1 (by rw [first_cons];decide))]
 unfold rest5;rw [if_neg (fun h=>by have:=h.1;rw [first_cons] at this;revert this;decide)]
 unfold rest6;rw [if_neg (fun h=>absurd h.1 (by rw [first_cons];decide))]
 unfold rest7
 rw [if_pos ⟨rfl,by show 0≤numI d 1;omega⟩]
 show some (W.mk 103 (numI d 1) [] [] [])=_
 rw [e]
theorem rd_store {d:List UInt8} (hd:Digs d 1):rd (61::115::d)=some ⟨112,(numOf d:Nat),[],[],[]⟩:=by
 obtain ⟨c,r,rfl,hc⟩:=digs_cons hd
 have hr:r=[]:=by have:=hd.2.1;simp at this;exact this
 subst hr
 have hc':=isDig_iff.1 hc
 unfold rd
 rw [plain_none (by
  intro hm
  simp at hm),named_none (by
  intro hm
  rcases List.mem_cons.1 hm with e | e
  · revert e;decide
  · rcases List.mem_cons.1 e with e | e
    · revert e;decide
    · exact digs_no hd 58 (by decide) e)]
 show rdRest _=_
 unfold rdRest
 rw [selector_not (by decide)]
 rw [if_neg (by simp)]
 unfold rest2;rw [if_neg (fun h=>absurd h.1 (by rw [first_cons];decide))]
 unfold rest3;rw [numI_head (by decide),if_neg (by omega)]
 unfold rest4;rw [if_neg (fun h=>absurd h.1 (by rw [first_cons];decide))]
 unfold rest5;rw [if_neg (fun h=>by have:=h.1;rw [first_cons] at this;revert this;decide)]
 unfold rest6;rw [if_neg (fun h=>absurd h.1 (by rw [first_cons];decide))]
 unfold rest7;rw [if_neg (fun h=>absurd h.1 (by rw [first_cons];decide))]
 unfold rest8
 rw [if_pos ⟨rfl,rfl,hc⟩]
 simp [numOf]
theorem plain_five {a b c e:UInt8}{r:List UInt8} (h:a=110∨a=98∨a=109∨a=99∨(a=100∧b=114)):rdPlain (a::b::c::r)=none:=by
 refine plain_none (fun hm=>?_)
 simp only [List.mem_cons,List.cons.injEq,List.not_mem_nil,or_false,reduceCtorEq,and_false] at hm
 rcases h with rfl | rfl | rfl | rfl | ⟨rfl,rfl⟩ <;> simp at hm
theorem rd_new {nm:List UInt8} (h:className nm=true):rd (110::101::119::58::nm)=some ⟨119,0,[],nm,[]⟩:=by
 unfold rd
 rw [plain_five (e:=0) (.inl rfl)]
 have:rdNamed (110::101::119::58::nm)=some ⟨119,0,[],nm,[]⟩:=by
  unfold rdNamed
  rw [if_pos (by simp [List.isPrefixOf]),if_pos (by exact h)];rfl
 rw [this]
theorem rd_be {nm:List UInt8} (h:className nm=true):rd (98::101::58::nm)=some ⟨98,0,[],nm,[]⟩:=by
 unfold rd
 rw [plain_five (e:=0) (.inr (.inl rfl))]
 have:rdNamed (98::101::58::nm)=some ⟨98,0,[],nm,[]⟩:=by
  unfold rdNamed
  rw [if_neg (by simp [List.isPrefixOf]),if_pos (by simp [List.isPrefixOf]),if_pos (by exact h)];rfl
 rw [this]
theorem split_two {nm q:List UInt8} (h:className nm=true) (hq:∀ c∈q,c≠46):splitDots (nm++46::q)=[nm,q]:=by
 rw [splitDots_dot nm q (className_no46 h),splitDots_one q hq]
theorem sel46 {l:List UInt8} (h:selector l=true):∀ c∈l,c≠46:=selector_no h 46 (by decide) (by decide) (by decide)
theorem rd_drop {nm sl:List UInt8} (h:className nm=true) (h':selector sl=true):rd (100::114::111::112::58::(nm++46::sl))=some ⟨120,0,sl,nm,[]⟩:=by
 unfold rd
 rw [plain_five (e:=0) (.inr (.inr (.inr (.inr ⟨rfl,rfl⟩))))]
 have:rdNamed (100::114::111::112::58::(nm++46::sl))=some ⟨120,0,sl,nm,[]⟩:=by
  unfold rdNamed
  rw [if_neg (by simp [List.isPrefixOf]),if_neg (by simp [List.isPrefixOf]),if_neg (by simp)]
  show namedRest _ (splitDots (nm++46::sl))=_
  rw [split_two h (sel46 h'),namedRest,if_pos (by simp [List.isPrefixOf]),if_pos (by simp [h,h'])]
 rw [this]
theorem rd_move {nm nn:List UInt8} (h:className nm=true) (h':className nn=true):rd (109::111::118::101::58::(nm++46::nn))=some ⟨118,0,[],nm,nn⟩:=by
 unfold rd
 rw [plain_five (e:=0) (.inr (.inr (.inl rfl)))]
 have:rdNamed (109::111::118::101::58::(nm++46::nn))=some ⟨118,0,[],nm,nn⟩:=by
  unfold rdNamed
  rw [if_neg (by simp [List.isPrefixOf]),if_neg (by simp [List.isPrefixOf]),if_neg (by simp)]
  show namedRest _ (splitDots (nm++46::nn))=_
  rw [split_two h (className_no46 h'),namedRest,if_neg (by simp [List.isPrefixOf]),if_pos (by simp [List.isPrefixOf]),if_pos (by simp [h,h'])]
 rw [this]
theorem rd_copy {nm sl nn:List UInt8} (h:className nm=true) (h':selector sl=true) (h'':className nn=true):rd (99::111::112::121::58::(nm++46::(sl++46::nn)))=some ⟨99,0,sl,nm,nn⟩:=by
 unfold rd
 rw [plain_five (e:=0) (.inr (.inr (.inr (.inl rfl))))]
 have:rdNamed (99::111::112::121::58::(nm++46::(sl++46::nn)))=some ⟨99,0,sl,nm,nn⟩:=by
  unfold rdNamed
  rw [if_neg (by simp [List.isPrefixOf]),if_neg (by simp [List.isPrefixOf]),if_neg (by simp)]
  show namedRest _ (splitDots (nm++46::(sl++46::nn)))=_
  rw [splitDots_dot nm _ (className_no46 h),splitDots_dot sl _ (sel46 h'),splitDots_one nn (className_no46 h''),namedRest,if_pos (by simp [List.isPrefixOf]),if_pos (by simp [h,h',h''])]
 rw [this]
theorem rd_form {t:List UInt8}{x:W} (h:Form t x):rd t=some x:=by
 rcases h with h | ⟨nm,h,rfl,rfl⟩ | ⟨nm,h,rfl,rfl⟩ | ⟨nm,sl,h,h',rfl,rfl⟩ | ⟨nm,nn,h,h',rfl,rfl⟩ | ⟨nm,sl,nn,h,h',h'',rfl,rfl⟩ | ⟨h,rfl⟩ | ⟨sl,h,rfl,rfl⟩ | ⟨h,rfl⟩ | ⟨d,h,rfl,rfl⟩ | ⟨d,h,rfl,rfl⟩ | ⟨d,h,rfl,rfl⟩ | ⟨d,h,h',rfl,rfl⟩ | ⟨d,h,rfl,rfl⟩ | ⟨d,h,rfl,rfl⟩
 · unfold rd;rw [h]
 · exact rd_new h
 · exact rd_be h
 · exact rd_drop h h'
 · exact rd_move h h'
 · exact rd_copy h h' h''
 · exact rd_sel h
 · exact rd_up h
 · exact rd_num h
 · exact rd_neg h
 · exact rd_goto h
 · exact rd_if h
 · exact rd_arg h h'
 · exact rd_slot h
 · exact rd_store h
theorem rd_iff {t:List UInt8}{x:W}:rd t=some x ↔ Form t x:=⟨form_rd,rd_form⟩
def Ends (u:List UInt8):Prop:=∀ c,u[0]?=some c→c=32
theorem span_digs {d u:List UInt8}{m:Nat} (hd:Digs d m) (hu:Ends u):spanL isDig m (d++u)=d :=
 spanL_eq isDig m d u hd.2.2 hd.2.1 (.inr fun c hc=>by rw [hu c hc];decide)
theorem digs_ne {d:List UInt8}{m:Nat} (hd:Digs d m):d≠[]:=fun e=>by have:=hd.1;rw [e] at this;simp at this
theorem kNum_digs {d u:List UInt8}{m k ahead:Nat} (hd:Digs d m) (hu:Ends u):kNum k isDig m ahead (d++u)=some (⟨k,(numOf d:Nat),[],[],[]⟩,ahead+d.length):=by
 unfold kNum
 rw [span_digs hd hu,if_neg (digs_ne hd)]
theorem kName_eq {nm v:List UInt8} (h:className nm=true) (hv:∀ c,v[0]?=some c→isSmall c=false):kName (nm++v)=nm:=by
 obtain ⟨c,r,rfl,hc,hl,hr⟩:=className_form h
 have e1:spanL isCap 1 (c::r++v)=[c]:=spanL_eq isCap 1 [c] (r++v) (by simpa using hc) (by simp) (.inl rfl)
 have e2:spanL isSmall 5 (r++v)=r:=spanL_eq isSmall 5 r v hr hl (.inr hv)
 unfold kName
 rw [e1]
 show [c]++spanL isSmall 5 (r++v)=_
 rw [e2];rfl
theorem kSel_eq {sl v:List UInt8} (h:selector sl=true):kSel (sl++v)=sl:=by
 obtain ⟨a,d,rfl,h1,h6,ha,hd⟩:=selector_form h
 have e1:spanL isSmall 6 (a++[47,d]++v)=a:=by
  rw [List.append_assoc]
  exact spanL_eq isSmall 6 a _ ha h6 (.inr fun c hc=>by simp at hc;rw [← hc];decide)
 have e2:(a++[47,d]++v)[a.length]?=some 47:=by rw [List.append_assoc,List.getElem?_append_right (Nat.le_refl _),Nat.sub_self];rfl
 have e3:(a++[47,d]++v).drop (a.length+1)=d::v:=by
  rw [List.append_assoc,List.drop_append,List.drop_eq_nil_of_le (by omega),show a.length+1 - a.length=1 from by omega];rfl
 have e4:spanL isD3 1 (d::v)=[d]:=spanL_eq isD3 1 [d] v (by simpa using hd) (by simp) (.inl rfl)
 have hne:a≠[]:=fun e=>by rw [e] at h1;simp at h1
 unfold kSel
 rw [e1,e2,e3,e4,if_neg hne,if_pos rfl,if_neg (by simp)]
theorem sel_ne {l:List UInt8} (h:selector l=true):l≠[]:=fun e=>by rw [e] at h;revert h;decide
theorem name_ne {l:List UInt8} (h:className l=true):l≠[]:=fun e=>by rw [e] at h;revert h;decide
theorem name_ends {u:List UInt8} (hu:Ends u):∀ c,u[0]?=some c→isSmall c=false:=fun c hc=>by rw [hu c hc];decide
theorem name_dot {v:List UInt8}:∀ c,((46:UInt8)::v)[0]?=some c→isSmall c=false:=fun c hc=>by simp at hc;rw [← hc];decide
theorem kw_letters (L r:List UInt8) (h1:1≤L.length) (h6:L.length≤6) (hL:∀ c∈L,isSmall c=true) (hr:L.length=6∨∀ c,r[0]?=some c→isSmall c=false) :
 kw (L++r)=if r[0]?=some 58 then kClass (kHead L) (L.length+1) (r.drop 1) else if r[0]?=some 47 then kSend 115 0 (L++r) else if L=[97] then kNum 97 isD2 1 1 r else if L=[115] then kNum 103 isDig 1 1 r
  else if kPlain L=0 then none else some (⟨kPlain L,0,[],[],[]⟩,L.length):=by
 have e1:spanL isSmall 6 (L++r)=L:=spanL_eq isSmall 6 L r hL h6 hr
 have e2:(L++r)[L.length]?=r[0]?:=by rw [List.getElem?_append_right (Nat.le_refl _),Nat.sub_self]
 have e3:(L++r).drop (L.length+1)=r.drop 1:=by rw [List.drop_append,List.drop_eq_nil_of_le (by omega),show L.length+1 - L.length=1 from by omega];rfl
 have hne:L≠[]:=fun e=>by rw [e] at h1;simp at h1
 have hf:97≤first (L++r)∧first (L++r)≤122:=by
  match L,hne with
  | c::L',_ =>
   have:=hL c (by simp)
   simp [isSmall] at this
   exact this
 have e4:∀ k,L=[k]→(L++r).drop 1=r:=fun k e=>by rw [e];rfl
 unfold kw
 rw [if_neg (by omega),if_neg (by omega),if_neg (by omega),if_neg (by omega),if_neg (by omega),if_neg (by omega),e1,if_neg hne,e2,e3]
 split
 · rfl
 · split
   · rfl
   · split
     · rename_i e;rw [e4 _ e]
     · split
       · rename_i e;rw [e4 _ e]
       · rfl
theorem kw_form {t u:List UInt8}{x:W} (hu:Ends u) (h:Form t x):kw (t++u)=some (x,t.length):=by
 rcases h with h | ⟨nm,h,rfl,rfl⟩ | ⟨nm,h,rfl,rfl⟩ | ⟨nm,sl,h,h',rfl,rfl⟩ | ⟨nm,nn,h,h',rfl,rfl⟩ | ⟨nm,sl,nn,h,h',h'',rfl,rfl⟩ | ⟨h,rfl⟩ | ⟨sl,h,rfl,rfl⟩ | ⟨h,rfl⟩ | ⟨d,h,rfl,rfl⟩ | ⟨d,h,rfl,rfl⟩ | ⟨d,h,rfl,rfl⟩ | ⟨d,h,h',rfl,rfl⟩ | ⟨d,h,rfl,rfl⟩ | ⟨d,h,rfl,rfl⟩
 · -- plain
   have hm:=plain_mem h
   have h0:∀ k:UInt8,k≠32→u[0]?≠some k:=fun k hk e=>hk (hu k e)
   simp only [List.mem_cons,List.not_mem_nil,or_false] at hm
   rcases hm with rfl | rfl | rfl | rfl | rfl | rfl | rfl | rfl | rfl
   · rw [kw_letters _ _ (by simp) (by simp) (by decide) (.inr (name_ends hu)),if_neg (h0 _ (by decide)),if_neg (h0 _ (by decide)),if_neg (by decide),if_neg (by decide),if_neg (by decide)];rw [← Option.some.inj h];rfl
   · rw [kw_letters _ _ (by simp) (by simp) (by decide) (.inr (name_ends hu)),if_neg (h0 _ (by decide)),if_neg (h0 _ (by decide)),if_neg (by decide),if_neg (by decide),if_neg (by decide)];rw [← Option.some.inj h];rfl
   · rw [kw_letters _ _ (by simp) (by simp) (by decide) (.inr (name_ends hu)),if_neg (h0 _ (by decide)),if_neg (h0 _ (by decide)),if_neg (by decide),if_neg (by decide),if_neg (by decide)];rw [← Option.some.inj h];rfl
   · rw [kw_letters _ _ (by simp) (by simp) (by decide) (.inr (name_ends hu)),if_neg (h0 _ (by decide)),if_neg (h0 _ (by decide)),if_neg (by decide),if_neg (by decide),if_neg (by decide)];rw [← Option.some.inj h];rfl
   · rw [← Option.some.inj h];rfl
   · have he:(45::u).length=1∨(45::u)[1]?=some 32:=by
      cases u with
      | nil=>exact .inl rfl
      | cons c u=>right;rw [hu c rfl];rfl
     rw [← Option.some.inj h]
     show kw (45::u)=_
     unfold kw
     rw [if_pos (show first (45::u)=45 from rfl),if_pos he];rfl
   · rw [← Option.some.inj h];rfl
   · rw [← Option.some.inj h];rfl
   · rw [← Option.some.inj h]
     show kw (61::u)=_
     unfold kw
     rw [if_neg (by rw [first_cons];decide),if_pos (show first (61::u)=61 from rfl),if_neg (by exact h0 115 (by decide))];rfl
 · show kw ([110,101,119]++58::(nm++u))=_
   rw [kw_letters _ _ (by simp) (by simp) (by decide) (.inr (fun c hc=>by simp at hc;rw [← hc];decide)),if_pos (by simp)]
   show kClass 119 4 (nm++u)=_
   unfold kClass
   rw [kName_eq h (name_ends hu),if_neg (name_ne h),if_pos (.inl rfl)]
   simp;omega
 · show kw ([98,101]++58::(nm++u))=_
   rw [kw_letters _ _ (by simp) (by simp) (by decide) (.inr (fun c hc=>by simp at hc;rw [← hc];decide)),if_pos (by simp)]
   show kClass 98 3 (nm++u)=_
   unfold kClass
   rw [kName_eq h (name_ends hu),if_neg (name_ne h),if_pos (.inr rfl)]
   simp;omega
 · show kw ([100,114,111,112]++58::((nm++46::sl)++u))=_
   rw [kw_letters _ _ (by simp) (by simp) (by decide) (.inr (fun c hc=>by simp at hc;rw [← hc];decide)),if_pos (by simp)]
   show kClass 120 5 ((nm++46::sl)++u)=_
   rw [List.append_assoc]
   show kClass 120 5 (nm++46::(sl++u))=_
   have e1:=kName_eq (v:=46::(sl++u)) h name_dot
   have e2:(nm++46::(sl++u))[nm.length]?=some 46:=by rw [List.getElem?_append_right (Nat.le_refl _),Nat.sub_self];rfl
   have e3:(nm++46::(sl++u)).drop (nm.length+1)=sl++u:=by rw [List.drop_append,List.drop_eq_nil_of_le (by omega),show nm.length+1 - nm.length=1 from by omega];rfl
   unfold kClass
   rw [e1,if_neg (name_ne h),if_neg (by decide),if_pos (.inl rfl),e2,if_pos rfl,e3,kSel_eq h',if_neg (sel_ne h'),if_pos rfl]
   simp;omega
 · show kw ([109,111,118,101]++58::((nm++46::nn)++u))=_
   rw [kw_letters _ _ (by simp) (by simp) (by decide) (.inr (fun c hc=>by simp at hc;rw [← hc];decide)),if_pos (by simp)]
   show kClass 118 5 ((nm++46::nn)++u)=_
   rw [List.append_assoc]
   show kClass 118 5 (nm++46::(nn++u))=_
   have e1:=kName_eq (v:=46::(nn++u)) h name_dot
   have e2:(nm++46::(nn++u))[nm.length]?=some 46:=by rw [List.getElem?_append_right (Nat.le_refl _),Nat.sub_self];rfl
   have e3:(nm++46::(nn++u)).drop (nm.length+1)=nn++u:=by rw [List.drop_append,List.drop_eq_nil_of_le (by omega),show nm.length+1 - nm.length=1 from by omega];rfl
   unfold kClass
   rw [e1,if_neg (name_ne h),if_neg (by decide),if_neg (by decide),if_pos rfl,e2,if_pos rfl,e3,kName_eq h' (name_ends hu),if_neg (name_ne h')]
   simp;omega
 · show kw ([99,111,112,121]++58::((nm++46::(sl++46::nn))++u))=_
   rw [kw_letters _ _ (by simp) (by simp) (by decide) (.inr (fun c hc=>by simp at hc;rw [← hc];decide)),if_pos (by simp)]
   show kClass 99 5 ((nm++46::(sl++46::nn))++u)=_
   have er:(nm++46::(sl++46::nn))++u=nm++46::(sl++46::(nn++u)):=by simp
   rw [er]
   have e1:=kName_eq (v:=46::(sl++46::(nn++u))) h name_dot
   have e2:(nm++46::(sl++46::(nn++u)))[nm.length]?=some 46:=by rw [List.getElem?_append_right (Nat.le_refl _),Nat.sub_self];rfl
   have e3:(nm++46::(sl++46::(nn++u))).drop (nm.length+1)=sl++46::(nn++u):=by rw [List.drop_append,List.drop_eq_nil_of_le (by omega),show nm.length+1 - nm.length=1 from by omega];rfl
   have e4:(nm++46::(sl++46::(nn++u)))[nm.length+1+sl.length]?=some 46:=by
    rw [List.getElem?_append_right (by omega),show nm.length+1+sl.length - nm.length=sl.length+1 from by omega,List.getElem?_cons_succ,List.getElem?_append_right (Nat.le_refl _),Nat.sub_self];rfl
   have e5:(nm++46::(sl++46::(nn++u))).drop (nm.length+1+sl.length+1)=nn++u:=by
    rw [List.drop_append,List.drop_eq_nil_of_le (by omega),show nm.length+1+sl.length+1 - nm.length=(sl.length+1)+1 from by omega,List.drop_succ_cons,List.nil_append,List.drop_append,List.drop_eq_nil_of_le (by omega),show sl.length+1 - sl.length=1 from by omega];rfl
   unfold kClass
   rw [e1,if_neg (name_ne h),if_neg (by decide),if_pos (.inr rfl),e2,if_pos rfl,e3,kSel_eq h',if_neg (sel_ne h'),if_neg (by decide),e4,if_pos rfl,e5,kName_eq h'' (name_ends hu),if_neg (name_ne h'')]
   simp;omega
 · obtain ⟨a,d,rfl,h1,h6,ha,hd⟩:=selector_form h
   rw [List.append_assoc,kw_letters a _ h1 h6 ha (.inr (fun c hc=>by simp at hc;rw [← hc];decide)),if_neg (by simp),if_pos (by simp),← List.append_assoc]
   unfold kSend
   rw [kSel_eq h,if_neg (sel_ne h),Nat.zero_add]
 · show kw (94::(sl++u))=_
   unfold kw
   rw [if_neg (by rw [first_cons];decide),if_neg (by rw [first_cons];decide),if_pos (show first (94::(sl++u))=94 from rfl)]
   show kSend 94 1 (sl++u)=_
   unfold kSend
   rw [kSel_eq h,if_neg (sel_ne h)]
   simp;omega
 · obtain ⟨c,r,rfl,hc⟩:=digs_cons h
   have hc':=isDig_iff.1 hc
   have e1:spanL isSmall 6 (c::r++u)=[]:=by
    refine spanL_eq isSmall 6 [] (c::r++u) (by simp) (by simp) (.inr fun y hy=>?_)
    simp at hy;rw [← hy,Bool.eq_false_iff];intro hs;simp [isSmall] at hs;omega
   have hf:first (c::r++u)=c.toNat:=rfl
   unfold kw
   rw [hf,if_neg (by omega),if_neg (by omega),if_neg (by omega),if_neg (by omega),if_neg (by omega),if_neg (by omega),e1,if_pos rfl,kNum_digs h hu,Nat.zero_add]
 · obtain ⟨c,r,hcr,hc⟩:=digs_cons h
   have hn:¬ ((45::(d++u)).length=1∨(45::(d++u))[1]?=some 32):=by
    rw [hcr]
    rintro (e | e)
    · simp at e
    · simp at e;rw [e] at hc;revert hc;decide
   show kw (45::(d++u))=_
   unfold kw
   rw [if_pos (show first (45::(d++u))=45 from rfl),if_neg hn]
   show (kNum 110 isDig 4 1 (d++u)).map _=_
   rw [kNum_digs h hu]
   simp;omega
 · show kw (62::(d++u))=_
   unfold kw
   rw [if_neg (by rw [first_cons];decide),if_neg (by rw [first_cons];decide),if_neg (by rw [first_cons];decide),if_pos (show first (62::(d++u))=62 from rfl)]
   show kNum 62 isDig 2 1 (d++u)=_
   rw [kNum_digs h hu]
   simp;omega
 · show kw (63::(d++u))=_
   unfold kw
   rw [if_neg (by rw [first_cons];decide),if_neg (by rw [first_cons];decide),if_neg (by rw [first_cons];decide),if_neg (by rw [first_cons];decide),if_pos (show first (63::(d++u))=63 from rfl)]
   show kNum 63 isDig 2 1 (d++u)=_
   rw [kNum_digs h hu]
   simp;omega
 · obtain ⟨c,r,rfl,hc⟩:=digs_cons h
   have hr:r=[]:=by have:=h.2.1;simp at this;exact this
   subst hr
   have hc':=isDig_iff.1 hc
   have h2:isD2 c=true:=by
    have:c.toNat - 48 < 3:=by simpa [numOf] using h'
    simp [isD2];omega
   show kw ([97]++(c::u))=_
   rw [kw_letters _ _ (by simp) (by simp) (by decide) (.inr (fun y hy=>by simp at hy;rw [← hy,Bool.eq_false_iff];intro hs;simp [isSmall] at hs;omega)),if_neg (by simp;rintro rfl;revert hc;decide),if_neg (by simp;rintro rfl;revert hc;decide),if_pos rfl]
   unfold kNum
   have e4:spanL isD2 1 (c::u)=[c]:=spanL_eq isD2 1 [c] u (by simpa using h2) (by simp) (.inl rfl)
   rw [e4];rfl
 · obtain ⟨c,r,rfl,hc⟩:=digs_cons h
   have hr:r=[]:=by have:=h.2.1;simp at this;exact this
   subst hr
   have hc':=isDig_iff.1 hc
   show kw ([115]++(c::u))=_
   rw [kw_letters _ _ (by simp) (by simp) (by decide) (.inr (fun y hy=>by simp at hy;rw [← hy,Bool.eq_false_iff];intro hs;simp [isSmall] at hs;omega)),if_neg (by simp;rintro rfl;revert hc;decide),if_neg (by simp;rintro rfl;revert hc;decide),if_neg (by decide),if_pos rfl]
   exact kNum_digs (d:=[c]) h hu
 · show kw (61::115::(d++u))=_
   unfold kw
   rw [if_neg (by rw [first_cons];decide),if_pos (show first (61::115::(d++u))=61 from rfl),if_pos (show (61::115::(d++u))[1]?=some 115 from rfl)]
   show kNum 112 isDig 1 2 (d++u)=_
   rw [kNum_digs h hu]
   simp;omega
theorem kName_sound {r:List UInt8} (h:kName r≠[]):className (kName r)=true∧∃ v,r=kName r++v:=by
 unfold kName at h ⊢
 split at h
 · exact absurd rfl h
 · rename_i hne
   rw [if_neg hne]
   have h1:=spanL_le isCap 1 r
   have ha:=spanL_all isCap 1 r
   obtain ⟨v,hv⟩:=spanL_pre isCap 1 r
   match hs:spanL isCap 1 r,hne,h1 with
   | [c],_,_ =>
    rw [hs] at ha hv
    obtain ⟨v',hv'⟩:=spanL_pre isSmall 5 (r.drop 1)
    have hrd:r.drop 1=v:=by rw [hv];rfl
    refine ⟨className_mk (ha c (by simp)) (spanL_le isSmall 5 _) (spanL_all isSmall 5 _),v',?_⟩
    show r=[c]++spanL isSmall 5 (r.drop 1)++v'
    rw [List.append_assoc,← hv',hrd]
    exact hv
theorem kSel_sound {r:List UInt8} (h:kSel r≠[]):selector (kSel r)=true∧∃ v,r=kSel r++v:=by
 unfold kSel at h ⊢
 split at h
 · exact absurd rfl h
 · rename_i hne
   split at h
   · rename_i h47
     split at h
     · exact absurd rfl h
     · rename_i hd
       rw [if_neg hne,if_pos h47,if_neg hd]
       obtain ⟨v,hv⟩:=spanL_pre isSmall 6 r
       have h6:=spanL_le isSmall 6 r
       have ha:=spanL_all isSmall 6 r
       have hl:1≤(spanL isSmall 6 r).length:=by
        cases hs:spanL isSmall 6 r with
        | nil=>exact absurd hs hne
        | cons c t=>simp
       generalize spanL isSmall 6 r=a at *
       have e1:v[0]?=some 47:=by
        rw [hv,List.getElem?_append_right (Nat.le_refl _),Nat.sub_self] at h47;exact h47
       obtain ⟨v',rfl⟩:∃ v',v=47::v':=by
        cases v with
        | nil=>simp at e1
        | cons c t=>simp at e1;exact ⟨t,by rw [e1]⟩
       have e2:r.drop (a.length+1)=v':=by rw [hv,List.drop_append,List.drop_eq_nil_of_le (by omega),show a.length+1 - a.length=1 from by omega];rfl
       rw [e2] at hd ⊢
       obtain ⟨y,hy⟩:=spanL_pre isD3 1 v'
       have g1:=spanL_le isD3 1 v'
       have ga:=spanL_all isD3 1 v'
       match hs:spanL isD3 1 v',hd,g1 with
       | [d],_,_ =>
        rw [hs] at hy ga
        refine ⟨selector_mk hl h6 ha (ga d (by simp)),y,?_⟩
        rw [hv,hy];simp
   · exact absurd rfl h
theorem kNum_sound {k m ahead n:Nat}{p:UInt8→Bool}{r:List UInt8}{x:W} (h:kNum k p m ahead r=some (x,n)) :
 ∃ d v,r=d++v∧1≤d.length∧d.length≤m∧(∀ c∈d,p c=true)∧x=⟨k,(numOf d:Nat),[],[],[]⟩∧n=ahead+d.length:=by
 unfold kNum at h
 split at h
 · cases h
 · rename_i hne
   obtain ⟨v,hv⟩:=spanL_pre p m r
   simp only [Option.some.injEq,Prod.mk.injEq] at h
   exact ⟨spanL p m r,v,hv,by cases hs:spanL p m r with | nil=>exact absurd hs hne | cons c t=>simp,spanL_le p m r,spanL_all p m r,h.1.symm,h.2.symm⟩
theorem kSend_sound {k ahead n:Nat}{r:List UInt8}{x:W} (h:kSend k ahead r=some (x,n)):∃ sl v,selector sl=true∧r=sl++v∧x=⟨k,(argsOf sl:Nat),sl,[],[]⟩∧n=ahead+sl.length:=by
 unfold kSend at h
 split at h
 · cases h
 · rename_i hne
   obtain ⟨hs,v,hv⟩:=kSel_sound hne
   simp only [Option.some.injEq,Prod.mk.injEq] at h
   exact ⟨kSel r,v,hs,hv,h.1.symm,h.2.symm⟩
theorem take_pre {a v:List UInt8}{n:Nat} (h:n=a.length):(a++v).take n=a∧n≤(a++v).length:=by
 subst h
 exact ⟨List.take_left' rfl,by simp⟩
theorem kClass_sound {k ahead n:Nat}{r:List UInt8}{x:W} (h:kClass k ahead r=some (x,n)) :
 (∃ nm v,className nm=true∧(k=119∨k=98)∧r=nm++v∧x=⟨k,0,[],nm,[]⟩∧n=ahead+nm.length) ∨
 (∃ nm sl v,className nm=true∧selector sl=true∧k=120∧r=(nm++46::sl)++v∧x=⟨k,0,sl,nm,[]⟩∧n=ahead+(nm++46::sl).length) ∨
 (∃ nm sl nn v,className nm=true∧selector sl=true∧className nn=true∧k=99∧r=(nm++46::(sl++46::nn))++v∧x=⟨k,0,sl,nm,nn⟩∧n=ahead+(nm++46::(sl++46::nn)).length) ∨
 (∃ nm nn v,className nm=true∧className nn=true∧k=118∧r=(nm++46::nn)++v∧x=⟨k,0,[],nm,nn⟩∧n=ahead+(nm++46::nn).length):=by
 unfold kClass at h
 split at h
 · cases h
 · rename_i hne
   obtain ⟨hnm,v,hv⟩:=kName_sound hne
   generalize kName r=nm at *
   have dot:r[nm.length]?=some 46→∃ v',v=46::v'∧r.drop (nm.length+1)=v':=fun e=>by
    rw [hv,List.getElem?_append_right (Nat.le_refl _),Nat.sub_self] at e
    cases v with
    | nil=>simp at e
    | cons c t =>
     simp at e
     exact ⟨t,by rw [e],by rw [hv,List.drop_append,List.drop_eq_nil_of_le (by omega),show nm.length+1 - nm.length=1 from by omega];rfl⟩
   split at h
   · rename_i hk
     simp only [Option.some.injEq,Prod.mk.injEq] at h
     exact .inl ⟨nm,v,hnm,hk,hv,h.1.symm,h.2.symm⟩
   · split at h
     · rename_i hk
       split at h
       · rename_i h46
         obtain ⟨v1,rfl,hd⟩:=dot h46
         rw [hd] at h
         split at h
         · cases h
         · rename_i hsne
           obtain ⟨hsl,v2,hv2⟩:=kSel_sound hsne
           generalize kSel v1=sl at *
           subst hv2
           split at h
           · rename_i hk2
             simp only [Option.some.injEq,Prod.mk.injEq] at h
             exact .inr (.inl ⟨nm,sl,v2,hnm,hsl,hk2,by rw [hv];simp,h.1.symm,by rw [← h.2];simp;omega⟩)
           · rename_i hk2
             split at h
             · rename_i h46b
               have e:v2[0]?=some 46:=by
                rw [hv,List.getElem?_append_right (by omega),show nm.length+1+sl.length - nm.length=sl.length+1 from by omega,List.getElem?_cons_succ,List.getElem?_append_right (Nat.le_refl _),Nat.sub_self] at h46b
                exact h46b
               obtain ⟨v3,rfl⟩:∃ v3,v2=46::v3:=by
                cases v2 with
                | nil=>simp at e
                | cons c t=>simp at e;exact ⟨t,by rw [e]⟩
               have e5:r.drop (nm.length+1+sl.length+1)=v3:=by
                rw [hv,List.drop_append,List.drop_eq_nil_of_le (by omega),show nm.length+1+sl.length+1 - nm.length=(sl.length+1)+1 from by omega,List.drop_succ_cons,List.nil_append,List.drop_append,List.drop_eq_nil_of_le (by omega),show sl.length+1 - sl.length=1 from by omega];rfl
               rw [e5] at h
               split at h
               · cases h
               · rename_i hnne
                 obtain ⟨hnn,v4,hv4⟩:=kName_sound hnne
                 generalize kName v3=nn at *
                 subst hv4
                 simp only [Option.some.injEq,Prod.mk.injEq] at h
                 exact .inr (.inr (.inl ⟨nm,sl,nn,v4,hnm,hsl,hnn,by omega,by rw [hv];simp,h.1.symm,by rw [← h.2];simp;omega⟩))
             · cases h
       · cases h
     · split at h
       · rename_i hk
         split at h
         · rename_i h46
           obtain ⟨v1,rfl,hd⟩:=dot h46
           rw [hd] at h
           split at h
           · cases h
           · rename_i hnne
             obtain ⟨hnn,v2,hv2⟩:=kName_sound hnne
             generalize kName v1=nn at *
             subst hv2
             simp only [Option.some.injEq,Prod.mk.injEq] at h
             exact .inr (.inr (.inr ⟨nm,nn,v2,hnm,hnn,hk,by rw [hv];simp,h.1.symm,by rw [← h.2];simp;omega⟩))
         · cases h
       · cases h
theorem d2_num {d:List UInt8} (h1:1≤d.length) (hm:d.length≤1) (hd:∀ c∈d,isD2 c=true):Digs d 1∧numOf d < 3:=by
 match d,h1,hm with
 | [c],_,_ =>
  have:=hd c (by simp)
  simp [isD2] at this
  refine ⟨⟨by simp,by simp,?_⟩,?_⟩
  · intro y hy
    simp at hy
    subst hy
    simp [isDig];omega
  · simp [numOf];omega
theorem head_class (L:List UInt8):kHead L=119∧L=[110,101,119]∨kHead L=98∧L=[98,101]∨kHead L=120∧L=[100,114,111,112]∨kHead L=118∧L=[109,111,118,101]∨kHead L=99∧L=[99,111,112,121]∨kHead L=0:=by
 unfold kHead
 split
 · rename_i e;exact .inl ⟨rfl,e⟩
 · split
   · rename_i e;exact .inr (.inl ⟨rfl,e⟩)
   · split
     · rename_i e;exact .inr (.inr (.inl ⟨rfl,e⟩))
     · split
       · rename_i e;exact .inr (.inr (.inr (.inl ⟨rfl,e⟩)))
       · split
         · rename_i e;exact .inr (.inr (.inr (.inr (.inl ⟨rfl,e⟩))))
         · exact .inr (.inr (.inr (.inr (.inr rfl))))
theorem kw_sound {r:List UInt8}{x:W}{n:Nat} (hr:r≠[]) (h:kw r=some (x,n)):Form (r.take n) x∧n≤r.length:=by
 obtain ⟨c,q,rfl⟩:∃ c q,r=c::q:=by
  cases r with
  | nil=>exact absurd rfl hr
  | cons c q=>exact ⟨c,q,rfl⟩
 unfold kw at h
 by_cases hf:first (c::q)=45
 · rw [if_pos hf] at h
   obtain rfl:c=45:=UInt8.toNat_inj.1 hf
   by_cases he:(45::q).length=1∨(45::q)[1]?=some 32
   · rw [if_pos he] at h
     simp only [Option.some.injEq,Prod.mk.injEq] at h
     obtain ⟨rfl,rfl⟩:=h
     exact ⟨.inl rfl,by simp⟩
   · rw [if_neg he] at h
     cases hk:kNum 110 isDig 4 1 ((45::q).drop 1) with
     | none=>rw [hk] at h;cases h
     | some y =>
      obtain ⟨y,ny⟩:=y
      rw [hk] at h
      obtain ⟨d,v,hv,h1,hm,hd,rfl,rfl⟩:=kNum_sound hk
      have hv':q=d++v:=hv
      subst hv'
      simp only [Option.map_some,Option.some.injEq,Prod.mk.injEq] at h
      obtain ⟨rfl,rfl⟩:=h
      obtain ⟨e1,e2⟩:=take_pre (a:=45::d) (v:=v) (n:=1+d.length) (by simp;omega)
      rw [List.cons_append] at e1 e2
      rw [e1]
      exact ⟨.inr (.inr (.inr (.inr (.inr (.inr (.inr (.inr (.inr (.inl ⟨d,⟨h1,hm,hd⟩,rfl,rfl⟩))))))))),e2⟩
 · rw [if_neg hf] at h
   by_cases hf:first (c::q)=61
   · rw [if_pos hf] at h
     obtain rfl:c=61:=UInt8.toNat_inj.1 hf
     by_cases h115:(61::q)[1]?=some 115
     · rw [if_pos h115] at h
       obtain ⟨q',rfl⟩:∃ q',q=115::q':=by
        cases q with
        | nil=>simp at h115
        | cons y t=>simp at h115;exact ⟨t,by rw [h115]⟩
       obtain ⟨d,v,hv,h1,hm,hd,rfl,rfl⟩:=kNum_sound h
       have hv':q'=d++v:=hv
       subst hv'
       obtain ⟨e1,e2⟩:=take_pre (a:=61::115::d) (v:=v) (n:=2+d.length) (by simp;omega)
       rw [List.cons_append,List.cons_append] at e1 e2
       rw [e1]
       exact ⟨.inr (.inr (.inr (.inr (.inr (.inr (.inr (.inr (.inr (.inr (.inr (.inr (.inr (.inr ⟨d,⟨h1,hm,hd⟩,rfl,rfl⟩))))))))))))),e2⟩
     · rw [if_neg h115] at h
       simp only [Option.some.injEq,Prod.mk.injEq] at h
       obtain ⟨rfl,rfl⟩:=h
       exact ⟨.inl rfl,by simp⟩
   · rw [if_neg hf] at h
     by_cases hf:first (c::q)=94
     · rw [if_pos hf] at h
       obtain rfl:c=94:=UInt8.toNat_inj.1 hf
       obtain ⟨sl,v,hs,hv,rfl,rfl⟩:=kSend_sound h
       have hv':q=sl++v:=hv
       subst hv'
       obtain ⟨e1,e2⟩:=take_pre (a:=94::sl) (v:=v) (n:=1+sl.length) (by simp;omega)
       rw [List.cons_append] at e1 e2
       rw [e1]
       exact ⟨.inr (.inr (.inr (.inr (.inr (.inr (.inr (.inl ⟨sl,hs,rfl,rfl⟩))))))),e2⟩
     · rw [if_neg hf] at h
       by_cases hf:first (c::q)=62
       · rw [if_pos hf] at h
         obtain rfl:c=62:=UInt8.toNat_inj.1 hf
         obtain ⟨d,v,hv,h1,hm,hd,rfl,rfl⟩:=kNum_sound h
         have hv':q=d++v:=hv
         subst hv'
         obtain ⟨e1,e2⟩:=take_pre (a:=62::d) (v:=v) (n:=1+d.length) (by simp;omega)
         rw [List.cons_append] at e1 e2
         rw [e1]
         exact ⟨.inr (.inr (.inr (.inr (.inr (.inr (.inr (.inr (.inr (.inr (.inl ⟨d,⟨h1,hm,hd⟩,rfl,rfl⟩)))))))))),e2⟩
       · rw [if_neg hf] at h
         by_cases hf:first (c::q)=63
         · rw [if_pos hf] at h
           obtain rfl:c=63:=UInt8.toNat_inj.1 hf
           obtain ⟨d,v,hv,h1,hm,hd,rfl,rfl⟩:=kNum_sound h
           have hv':q=d++v:=hv
           subst hv'
           obtain ⟨e1,e2⟩:=take_pre (a:=63::d) (v:=v) (n:=1+d.length) (by simp;omega)
           rw [List.cons_append] at e1 e2
           rw [e1]
           exact ⟨.inr (.inr (.inr (.inr (.inr (.inr (.inr (.inr (.inr (.inr (.inr (.inl ⟨d,⟨h1,hm,hd⟩,rfl,rfl⟩))))))))))),e2⟩
         · rw [if_neg hf] at h
           by_cases hf:first (c::q)=43∨first (c::q)=42∨first (c::q)=60
           · rw [if_pos hf] at h
             simp only [Option.some.injEq,Prod.mk.injEq] at h
             obtain ⟨rfl,rfl⟩:=h
             refine ⟨.inl ?_,by simp⟩
             rw [first_cons] at hf ⊢
             rcases hf with hf | hf | hf
             · obtain rfl:c=43:=UInt8.toNat_inj.1 hf
               rfl
             · obtain rfl:c=42:=UInt8.toNat_inj.1 hf
               rfl
             · obtain rfl:c=60:=UInt8.toNat_inj.1 hf
               rfl
           · rw [if_neg hf] at h
             by_cases hne:spanL isSmall 6 (c::q)=[]
             · rw [if_pos hne] at h
               obtain ⟨d,v,hv,h1,hm,hd,rfl,rfl⟩:=kNum_sound h
               rw [hv]
               obtain ⟨e1,e2⟩:=take_pre (a:=d) (v:=v) (n:=0+d.length) (by omega)
               rw [e1]
               exact ⟨.inr (.inr (.inr (.inr (.inr (.inr (.inr (.inr (.inl ⟨⟨h1,hm,hd⟩,rfl⟩)))))))),e2⟩
             · rw [if_neg hne] at h
               generalize c::q=r at *
               obtain ⟨v,hv⟩:=spanL_pre isSmall 6 r
               have h6:=spanL_le isSmall 6 r
               have hL:=spanL_all isSmall 6 r
               generalize spanL isSmall 6 r=L at *
               have e2:r[L.length]?=v[0]?:=by rw [hv,List.getElem?_append_right (Nat.le_refl _),Nat.sub_self]
               have e3:r.drop (L.length+1)=v.drop 1:=by rw [hv,List.drop_append,List.drop_eq_nil_of_le (by omega),show L.length+1 - L.length=1 from by omega];rfl
               rw [e2,e3] at h
               by_cases h58:v[0]?=some 58
               · rw [if_pos h58] at h
                 obtain ⟨v',rfl⟩:∃ v',v=58::v':=by
                  cases v with
                  | nil=>simp at h58
                  | cons y t=>simp at h58;exact ⟨t,by rw [h58]⟩
                 have h':kClass (kHead L) (L.length+1) v'=some (x,n):=h
                 rw [hv]
                 rcases kClass_sound h' with ⟨nm,y,hnm,hk,rfl,rfl,rfl⟩ | ⟨nm,sl,y,hnm,hsl,hk,rfl,rfl,rfl⟩ | ⟨nm,sl,nn,y,hnm,hsl,hnn,hk,rfl,rfl,rfl⟩ | ⟨nm,nn,y,hnm,hnn,hk,rfl,rfl,rfl⟩
                 · obtain ⟨e4,e5⟩:=take_pre (a:=L++58::nm) (v:=y) (n:=L.length+1+nm.length) (by simp;omega)
                   have er:L++58::(nm++y)=(L++58::nm)++y:=by simp
                   rw [er,e4]
                   refine ⟨?_,e5⟩
                   rcases head_class L with ⟨e,rfl⟩ | ⟨e,rfl⟩ | ⟨e,rfl⟩ | ⟨e,rfl⟩ | ⟨e,rfl⟩ | e
                   · exact .inr (.inl ⟨nm,hnm,rfl,rfl⟩)
                   · exact .inr (.inr (.inl ⟨nm,hnm,rfl,rfl⟩))
                   · rw [e] at hk;omega
                   · rw [e] at hk;omega
                   · rw [e] at hk;omega
                   · rw [e] at hk;omega
                 · obtain ⟨e4,e5⟩:=take_pre (a:=L++58::(nm++46::sl)) (v:=y) (n:=L.length+1+(nm++46::sl).length) (by simp;omega)
                   have er:L++58::((nm++46::sl)++y)=(L++58::(nm++46::sl))++y:=by simp
                   rw [er,e4]
                   refine ⟨?_,e5⟩
                   rcases head_class L with ⟨e,rfl⟩ | ⟨e,rfl⟩ | ⟨e,rfl⟩ | ⟨e,rfl⟩ | ⟨e,rfl⟩ | e
                   · rw [e] at hk;omega
                   · rw [e] at hk;omega
                   · exact .inr (.inr (.inr (.inl ⟨nm,sl,hnm,hsl,rfl,rfl⟩)))
                   · rw [e] at hk;omega
                   · rw [e] at hk;omega
                   · rw [e] at hk;omega
                 · obtain ⟨e4,e5⟩:=take_pre (a:=L++58::(nm++46::(sl++46::nn))) (v:=y) (n:=L.length+1+(nm++46::(sl++46::nn)).length) (by simp;omega)
                   have er:L++58::((nm++46::(sl++46::nn))++y)=(L++58::(nm++46::(sl++46::nn)))++y:=by simp
                   rw [er,e4]
                   refine ⟨?_,e5⟩
                   rcases head_class L with ⟨e,rfl⟩ | ⟨e,rfl⟩ | ⟨e,rfl⟩ | ⟨e,rfl⟩ | ⟨e,rfl⟩ | e
                   · rw [e] at hk;omega
                   · rw [e] at hk;omega
                   · rw [e] at hk;omega
                   · rw [e] at hk;omega
                   · exact .inr (.inr (.inr (.inr (.inr (.inl ⟨nm,sl,nn,hnm,hsl,hnn,rfl,rfl⟩)))))
                   · rw [e] at hk;omega
                 · obtain ⟨e4,e5⟩:=take_pre (a:=L++58::(nm++46::nn)) (v:=y) (n:=L.length+1+(nm++46::nn).length) (by simp;omega)
                   have er:L++58::((nm++46::nn)++y)=(L++58::(nm++46::nn))++y:=by simp
                   rw [er,e4]
                   refine ⟨?_,e5⟩
                   rcases head_class L with ⟨e,rfl⟩ | ⟨e,rfl⟩ | ⟨e,rfl⟩ | ⟨e,rfl⟩ | ⟨e,rfl⟩ | e
                   · rw [e] at hk;omega
                   · rw [e] at hk;omega
                   · rw [e] at hk;omega
                   · exact .inr (.inr (.inr (.inr (.inl ⟨nm,nn,hnm,hnn,rfl,rfl⟩))))
                   · rw [e] at hk;omega
                   · rw [e] at hk;omega
               · rw [if_neg h58] at h
                 by_cases h47:v[0]?=some 47
                 · rw [if_pos h47] at h
                   obtain ⟨sl,y,hs,hy,rfl,rfl⟩:=kSend_sound h
                   rw [hy]
                   obtain ⟨e4,e5⟩:=take_pre (a:=sl) (v:=y) (n:=0+sl.length) (by omega)
                   rw [e4]
                   exact ⟨.inr (.inr (.inr (.inr (.inr (.inr (.inl ⟨hs,rfl⟩)))))),e5⟩
                 · rw [if_neg h47] at h
                   by_cases eL:L=[97]
                   · rw [if_pos eL] at h
                     subst eL
                     have hr1:r.drop 1=v:=by rw [hv];rfl
                     rw [hr1] at h
                     obtain ⟨d,y,rfl,h1,hm,hd,rfl,rfl⟩:=kNum_sound h
                     obtain ⟨hdg,hd3⟩:=d2_num h1 hm hd
                     rw [hv]
                     obtain ⟨e4,e5⟩:=take_pre (a:=97::d) (v:=y) (n:=1+d.length) (by simp;omega)
                     have er:[97]++(d++y)=(97::d)++y:=rfl
                     rw [er,e4]
                     exact ⟨.inr (.inr (.inr (.inr (.inr (.inr (.inr (.inr (.inr (.inr (.inr (.inr (.inl ⟨d,hdg,hd3,rfl,rfl⟩)))))))))))),e5⟩
                   · rw [if_neg eL] at h
                     by_cases eL:L=[115]
                     · rw [if_pos eL] at h
                       subst eL
                       have hr1:r.drop 1=v:=by rw [hv];rfl
                       rw [hr1] at h
                       obtain ⟨d,y,rfl,h1,hm,hd,rfl,rfl⟩:=kNum_sound h
                       rw [hv]
                       obtain ⟨e4,e5⟩:=take_pre (a:=115::d) (v:=y) (n:=1+d.length) (by simp;omega)
                       have er:[115]++(d++y)=(115::d)++y:=rfl
                       rw [er,e4]
                       exact ⟨.inr (.inr (.inr (.inr (.inr (.inr (.inr (.inr (.inr (.inr (.inr (.inr (.inr (.inl ⟨d,⟨h1,hm,hd⟩,rfl,rfl⟩))))))))))))),e5⟩
                     · rw [if_neg eL] at h
                       by_cases hp:kPlain L=0
                       · rw [if_pos hp] at h;cases h
                       · rw [if_neg hp] at h
                         simp only [Option.some.injEq,Prod.mk.injEq] at h
                         obtain ⟨rfl,rfl⟩:=h
                         rw [hv]
                         obtain ⟨e4,e5⟩:=take_pre (a:=L) (v:=v) (n:=L.length) rfl
                         rw [e4]
                         refine ⟨.inl ?_,e5⟩
                         unfold kPlain at hp ⊢
                         cases hpl:rdPlain L with
                         | none=>rw [hpl] at hp;exact absurd rfl hp
                         | some z =>
                          have hm:=plain_mem hpl
                          simp only [List.mem_cons,List.not_mem_nil,or_false] at hm
                          rcases hm with rfl | rfl | rfl | rfl | rfl | rfl | rfl | rfl | rfl <;> rw [← Option.some.inj hpl]
theorem className_no32 {l:List UInt8} (h:className l=true):∀ c∈l,c≠32:=by
 obtain ⟨c,r,rfl,hc,_,hr⟩:=className_form h
 intro x hx
 rcases List.mem_cons.1 hx with rfl | hx
 · intro e;rw [e] at hc;revert hc;decide
 · exact small_ne (hr x hx) 32 (by decide)
theorem sel32 {l:List UInt8} (h:selector l=true):∀ c∈l,c≠32:=selector_no h 32 (by decide) (by decide) (by decide)
theorem digs32 {d:List UInt8}{m:Nat} (h:Digs d m):∀ c∈d,c≠32:=fun c hc e=>by rw [e] at hc;exact digs_no h 32 (by decide) hc
theorem no32_cons {c:UInt8}{r:List UInt8} (hc:c≠32) (hr:∀ x∈r,x≠32):∀ x∈c::r,x≠32:=fun x hx=>by
 rcases List.mem_cons.1 hx with rfl | hx
 · exact hc
 · exact hr x hx
theorem no32_append {a r:List UInt8} (ha:∀ x∈a,x≠32) (hr:∀ x∈r,x≠32):∀ x∈a++r,x≠32:=fun x hx=>by
 rcases List.mem_append.1 hx with hx | hx
 · exact ha x hx
 · exact hr x hx
theorem form_no32 {t:List UInt8}{x:W} (h:Form t x):∀ c∈t,c≠32:=by
 rcases h with h | ⟨nm,h,rfl,rfl⟩ | ⟨nm,h,rfl,rfl⟩ | ⟨nm,sl,h,h',rfl,rfl⟩ | ⟨nm,nn,h,h',rfl,rfl⟩ | ⟨nm,sl,nn,h,h',h'',rfl,rfl⟩ | ⟨h,rfl⟩ | ⟨sl,h,rfl,rfl⟩ | ⟨h,rfl⟩ | ⟨d,h,rfl,rfl⟩ | ⟨d,h,rfl,rfl⟩ | ⟨d,h,rfl,rfl⟩ | ⟨d,h,h',rfl,rfl⟩ | ⟨d,h,rfl,rfl⟩ | ⟨d,h,rfl,rfl⟩
 · have hm:=plain_mem h
   simp only [List.mem_cons,List.not_mem_nil,or_false] at hm
   rcases hm with rfl | rfl | rfl | rfl | rfl | rfl | rfl | rfl | rfl <;> decide
 · exact no32_cons (by decide) (no32_cons (by decide) (no32_cons (by decide) (no32_cons (by decide) (className_no32 h))))
 · exact no32_cons (by decide) (no32_cons (by decide) (no32_cons (by decide) (className_no32 h)))
 · exact no32_cons (by decide) (no32_cons (by decide) (no32_cons (by decide) (no32_cons (by decide) (no32_cons (by decide) (no32_append (className_no32 h) (no32_cons (by decide) (sel32 h')))))))
 · exact no32_cons (by decide) (no32_cons (by decide) (no32_cons (by decide) (no32_cons (by decide) (no32_cons (by decide) (no32_append (className_no32 h) (no32_cons (by decide) (className_no32 h')))))))
 · exact no32_cons (by decide) (no32_cons (by decide) (no32_cons (by decide) (no32_cons (by decide) (no32_cons (by decide) (no32_append (className_no32 h) (no32_cons (by decide) (no32_append (sel32 h') (no32_cons (by decide) (className_no32 h'')))))))))
 · exact sel32 h
 · exact no32_cons (by decide) (sel32 h)
 · exact digs32 h
 · exact no32_cons (by decide) (digs32 h)
 · exact no32_cons (by decide) (digs32 h)
 · exact no32_cons (by decide) (digs32 h)
 · exact no32_cons (by decide) (digs32 h)
 · exact no32_cons (by decide) (digs32 h)
 · exact no32_cons (by decide) (no32_cons (by decide) (digs32 h))
theorem takeWhile_no32 {a u:List UInt8} (ha:∀ x∈a,x≠32) (hu:Ends u):(a++u).takeWhile (fun c=>c != 32)=a:=by
 rw [List.takeWhile_append_of_pos (fun x hx=>by simpa using ha x hx)]
 cases u with
 | nil=>simp
 | cons c u=>rw [List.takeWhile_cons_of_neg (by rw [hu c rfl];simp)];simp
theorem kWhole_eq {r:List UInt8} (hr:r≠[]):kWhole r=rd (r.takeWhile (fun c=>c != 32)):=by
 have hsp:r=r.takeWhile (fun c=>c != 32)++r.dropWhile (fun c=>c != 32):=(List.takeWhile_append_dropWhile).symm
 have hu:Ends (r.dropWhile (fun c=>c != 32)):=by
  intro c hc
  cases hd:r.dropWhile (fun c=>c != 32) with
  | nil=>rw [hd] at hc;cases hc
  | cons y t =>
   rw [hd] at hc
   injection hc with hc
   have:=List.head_dropWhile_not (fun c:UInt8=>c != 32) (l:=r) (by rw [hd];simp)
   simp only [hd,List.head_cons] at this
   rw [← hc]
   simpa using this
 cases hrd:rd (r.takeWhile (fun c=>c != 32)) with
 | some x =>
  have hk:=kw_form hu (rd_iff.1 hrd)
  rw [← hsp] at hk
  unfold kWhole
  rw [hk]
  show (if _ then some x else none)=some x
  rw [if_pos]
  cases hd:r.dropWhile (fun c=>c != 32) with
  | nil=>left;rw [hd,List.append_nil] at hsp;rw [← hsp]
  | cons y t =>
   right
   have hy:y=32:=hu y (by rw [hd];rfl)
   rw [hd] at hsp
   rw [hsp,List.getElem?_append_right (by rw [← hsp];exact Nat.le_refl _)]
   rw [← hsp,Nat.sub_self,hy];rfl
 | none =>
  cases hw:kWhole r with
  | none=>rfl
  | some x =>
   exfalso
   unfold kWhole at hw
   cases hk:kw r with
   | none=>rw [hk] at hw;cases hw
   | some y =>
    obtain ⟨y,n⟩:=y
    rw [hk] at hw
    have hw':(if n=r.length∨r[n]?=some 32 then some y else none)=some x:=hw
    split at hw'
    · rename_i he
      obtain ⟨hf,hn⟩:=kw_sound hr hk
      have ht:r.takeWhile (fun c=>c != 32)=r.take n:=by
       have e1:r=r.take n++r.drop n:=(List.take_append_drop n r).symm
       have hu':Ends (r.drop n):=by
        intro c hc
        rw [List.getElem?_drop,Nat.add_zero] at hc
        rcases he with e | e
        · rw [e,List.getElem?_eq_none (Nat.le_refl _)] at hc;cases hc
        · rw [e] at hc;injection hc with hc;exact hc.symm
       have:=takeWhile_no32 (form_no32 hf) hu'
       rw [← e1] at this
       exact this
      rw [ht,rd_form hf] at hrd
      cases hrd
    · cases hw'
theorem tok_none {l:List UInt8}{i:Nat} (hr:l.drop i≠[]) (h:kw (l.drop i)=none):rd (tok l i)=none:=by
 unfold tok
 rw [← kWhole_eq hr]
 unfold kWhole
 rw [h]
theorem tok_bad {l:List UInt8}{i n:Nat}{x:W} (hr:l.drop i≠[]) (h:kw (l.drop i)=some (x,n)) (he:¬ (n=(l.drop i).length∨(l.drop i)[n]?=some 32)):rd (tok l i)=none:=by
 unfold tok
 rw [← kWhole_eq hr]
 unfold kWhole
 rw [h]
 show (if _ then some x else none)=none
 rw [if_neg he]
theorem tok_good {l:List UInt8}{i n:Nat}{x:W} (hr:l.drop i≠[]) (h:kw (l.drop i)=some (x,n)) (he:n=(l.drop i).length∨(l.drop i)[n]?=some 32):rd (tok l i)=some x∧(tok l i).length=n:=by
 constructor
 · unfold tok
   rw [← kWhole_eq hr]
   unfold kWhole
   rw [h]
   show (if _ then some x else none)=some x
   rw [if_pos he]
 · obtain ⟨hf,hn⟩:=kw_sound hr h
   have hu:Ends ((l.drop i).drop n):=by
    intro c hc
    rw [List.getElem?_drop,Nat.add_zero] at hc
    rcases he with he | he
    · rw [he,List.getElem?_eq_none (Nat.le_refl _)] at hc;cases hc
    · rw [he] at hc;injection hc with hc;exact hc.symm
   have hk:=takeWhile_no32 (form_no32 hf) hu
   rw [List.take_append_drop] at hk
   unfold tok
   rw [hk,List.length_take]
   omega
theorem kw_le {l:List UInt8}{i n:Nat}{x:W} (hr:l.drop i≠[]) (h:kw (l.drop i)=some (x,n)):n≤(l.drop i).length:=(kw_sound hr h).2
theorem kw_fine {l:List UInt8}{i n:Nat}{x:W} (hr:l.drop i≠[]) (h:kw (l.drop i)=some (x,n)):Fine0 x:=fine_rd (rd_form (kw_sound hr h).1)
theorem and_pow (H h:Nat):H &&& 2 ^ h=if H.testBit h=true then 2 ^ h else 0:=by
 apply Nat.eq_of_testBit_eq
 intro i
 rw [Nat.testBit_and,Nat.testBit_two_pow]
 by_cases e:h=i
 · subst e
   cases hb:H.testBit h <;> simp [Nat.testBit_two_pow]
 · cases hb:H.testBit h <;> simp [Nat.testBit_two_pow,e]
theorem or_bit (H h k:Nat):(H ||| 2 ^ h).testBit k=(decide (k=h)||H.testBit k):=by
 rw [Nat.testBit_or,Nat.testBit_two_pow,Bool.or_comm]
 congr 1
 simp [eq_comm]
theorem two_bits:∀ (n H:Nat),H < 2 ^ n→(H &&& (H - 1)=0 ↔ ∀ h1 h2,H.testBit h1=true→H.testBit h2=true→h1=h2)
 | 0,H,h=>by
  have:H=0:=by simpa using h
  subst this;simp
 | n+1,H,h=>by
  have ih:=two_bits n (H / 2) (by rw [Nat.pow_succ] at h;omega)
  have hb:∀ k,H.testBit (k+1)=(H / 2).testBit k:=fun k=>Nat.testBit_succ H k
  rcases Nat.mod_two_eq_zero_or_one H with hr | hr
  · -- even
    by_cases h0:H=0
    · subst h0;simp
    have e1:H &&& (H - 1)=2*((H / 2) &&& (H / 2 - 1)):=by
     apply Nat.eq_of_testBit_eq
     intro i
     cases i with
     | zero=>
      rw [Nat.testBit_and];simp [Nat.testBit_zero,hr]
     | succ i =>
      rw [Nat.testBit_and,Nat.testBit_succ,Nat.testBit_succ,Nat.testBit_succ,show (H - 1) / 2=H / 2 - 1 from by omega,show 2*((H / 2) &&& (H / 2 - 1)) / 2=(H / 2) &&& (H / 2 - 1) from by omega,Nat.testBit_and]
    rw [e1]
    constructor
    · intro hz h1 h2 b1 b2
      have hz':=ih.1 (by omega)
      cases h1 with
      | zero=>simp [Nat.testBit_zero,hr] at b1
      | succ h1=>cases h2 with
       | zero=>simp [Nat.testBit_zero,hr] at b2
       | succ h2=>rw [hb] at b1 b2;rw [hz' h1 h2 b1 b2]
    · intro hz
      have:=ih.2 (fun h1 h2 b1 b2=>by have:=hz (h1+1) (h2+1) (by rw [hb];exact b1) (by rw [hb];exact b2);omega)
      omega
  · have e1:H &&& (H - 1)=2*(H / 2):=by
     apply Nat.eq_of_testBit_eq
     intro i
     cases i with
     | zero=>rw [Nat.testBit_and];simp [Nat.testBit_zero];omega
     | succ i=>rw [Nat.testBit_and,Nat.testBit_succ,Nat.testBit_succ,Nat.testBit_succ,show (H - 1) / 2=H / 2 from by omega,show 2*(H / 2) / 2=H / 2 from by omega,Bool.and_self]
    rw [e1]
    constructor
    · intro hz h1 h2 b1 b2
      have hq:H / 2=0:=by omega
      cases h1 with
      | zero=>cases h2 with
       | zero=>rfl
       | succ h2=>rw [hb,hq] at b2;simp at b2
      | succ h1=>rw [hb,hq] at b1;simp at b1
    · intro hz
      apply Classical.byContradiction
      intro hn
      obtain ⟨i,hi⟩:=Nat.exists_testBit_of_ne_zero (x:=H / 2) (by omega)
      have:=hz 0 (i+1) (by simp [Nat.testBit_zero,hr]) (by rw [hb];exact hi)
      omega
theorem u32_and (H h:Nat) (hH:H < 2 ^ 17) (hh:h≤16):bits .and .u32 (H:Int) ((2:Int) ^ h)=if H.testBit h=true then 2 ^ h else 0:=by
 have hp:(2:Nat) ^ h < 2 ^ 17:=Nat.pow_lt_pow_right (by omega) (by omega)
 have:=(bits_nat .u32 17 (by decide) (fun n h0 h1=>by rw [IntKind.wrap_u32];omega) H (2 ^ h) hH hp).1
 rw [show ((2:Int) ^ h)=((2 ^ h:Nat):Int) from by push_cast;rfl,this,and_pow]
 split <;> simp
theorem u32_or (H h:Nat) (hH:H < 2 ^ 17) (hh:h≤16):bits .or .u32 (H:Int) ((2:Int) ^ h)=((H ||| 2 ^ h:Nat):Int):=by
 have hp:(2:Nat) ^ h < 2 ^ 17:=Nat.pow_lt_pow_right (by omega) (by omega)
 have:=(bits_nat .u32 17 (by decide) (fun n h0 h1=>by rw [IntKind.wrap_u32];omega) H (2 ^ h) hH hp).2
 rw [show ((2:Int) ^ h)=((2 ^ h:Nat):Int) from by push_cast;rfl]
 exact this
theorem or_lt (H h:Nat) (hH:H < 2 ^ 17) (hh:h≤16):H ||| 2 ^ h < 2 ^ 17:=Nat.or_lt_two_pow hH (Nat.pow_lt_pow_right (by omega) (by omega))
theorem u32_two (H:Nat) (hH:H < 2 ^ 17):bits .and .u32 (H:Int) (IntKind.u32.wrap ((H:Int) - 1))=((H &&& (H - 1):Nat):Int):=by
 by_cases h0:H=0
 · subst h0;decide
 · have:=(bits_nat .u32 17 (by decide) (fun n h0 h1=>by rw [IntKind.wrap_u32];omega) H (H - 1) hH (by omega)).1
   rw [show IntKind.u32.wrap ((H:Int) - 1)=((H - 1:Nat):Int) from by rw [IntKind.wrap_u32];omega]
   exact this
end Kn
