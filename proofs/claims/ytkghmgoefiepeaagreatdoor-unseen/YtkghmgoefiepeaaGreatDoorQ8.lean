import Derived.Test.YtkghmgoefiepeaaGreatDoorQ0
import Derived.Test.YtkghmgoefiepeaaGreatDoorQ7
set_option linter.unusedSimpArgs false
set_option linter.unusedVariables false
set_option maxHeartbeats 4000000
set_option maxRecDepth 100000
namespace Go.Proofs.YtkghmgoefiepeaaGreatDoor.reads
open Go.ChangeShapes Go.WideShapes Go.ChangeAt Go.RowKit Kn
theorem at_case (s:ByteArray) (p:Nat) (c:UInt8):(∃ hlt:p < s.size,s[p].toNat=c.toNat∧(bl s)[p]?=some c)∨((∀ hlt:p < s.size,s[p].toNat≠c.toNat)∧(bl s)[p]?≠some c):=by
 by_cases hlt:p < s.size
 · by_cases h:s[p].toNat=c.toNat
   · exact .inl ⟨hlt,h,by rw [bl_get s p hlt,UInt8.toNat_inj.1 h]⟩
   · exact .inr ⟨fun _=>h,fun e=>h (by rw [bl_get s p hlt] at e;injection e with e;rw [e])⟩
 · exact .inr ⟨fun h=>absurd h hlt,fun e=>hlt (by have:=(List.getElem?_eq_some_iff.1 e).1;rw [bl_length] at this;exact this)⟩
variable {w : World}
theorem got_none {f:Nat}{args:Array Value}{b:Nat}{s:ByteArray}{i0:Nat}{o:Option (W×Nat)} (ho:o=none)
 (h:Calls Tryz.prog f args w fun e w'=>e=.returned (encK none)∧∃ j,j≤s.size∧RTo w w' b s j):Calls Tryz.prog f args w fun e w'=>e=.returned (encK o)∧Got w w' b s i0 o:=by
 refine h.mono ?_
 rintro e w' ⟨rfl,j,hj,ht⟩
 exact ⟨by rw [ho],j,hj,ht,fun x n hx=>by rw [ho] at hx;cases hx⟩
theorem got_some {f:Nat}{args:Array Value}{b:Nat}{s:ByteArray}{i0 j:Nat}{o:Option (W×Nat)}{x:W}{n:Nat}{v:Value} (ho:o=some (x,n)) (hv:v=encK (some (x,n))) (hj:j≤s.size) (hn:j=i0+n)
 (h:Calls Tryz.prog f args w fun e w'=>e=.returned v∧RTo w w' b s j):Calls Tryz.prog f args w fun e w'=>e=.returned (encK o)∧Got w w' b s i0 o:=by
 refine h.mono ?_
 rintro e w' ⟨rfl,ht⟩
 exact ⟨by rw [ho,hv],j,hj,ht,fun y m hx=>by rw [ho] at hx;injection hx with hx;injection hx with _ hx;rw [← hx];exact hn⟩
theorem kClass_at (s:ByteArray) (i k a:Nat) (nm:List UInt8) (hnm:kName ((bl s).drop i)=nm) (hne:nm≠[]):kClass k a ((bl s).drop i) =
 if k=119∨k=98 then some (⟨k,0,[],nm,[]⟩,a+nm.length)
 else if k=120∨k=99 then
  (if (bl s)[i + nm.length]? = some 46 then
   (if kSel ((bl s).drop (i + nm.length + 1)) = [] then none
    else if k=120 then some (⟨k,0,kSel ((bl s).drop (i+nm.length+1)),nm,[]⟩,a+nm.length+1+(kSel ((bl s).drop (i+nm.length+1))).length)
    else if (bl s)[i+nm.length+1+(kSel ((bl s).drop (i+nm.length+1))).length]?=some 46 then
     (if kName ((bl s).drop (i + nm.length + 1 + (kSel ((bl s).drop (i + nm.length + 1))).length + 1)) = [] then none
      else some (⟨k,0,kSel ((bl s).drop (i+nm.length+1)),nm,kName ((bl s).drop (i+nm.length+1+(kSel ((bl s).drop (i+nm.length+1))).length+1))⟩,
       a+nm.length+1+(kSel ((bl s).drop (i+nm.length+1))).length+1+(kName ((bl s).drop (i+nm.length+1+(kSel ((bl s).drop (i+nm.length+1))).length+1))).length))
    else none)
   else none)
 else if k=118 then
  (if (bl s)[i + nm.length]? = some 46 then
   (if kName ((bl s).drop (i + nm.length + 1)) = [] then none
    else some (⟨k,0,[],nm,kName ((bl s).drop (i+nm.length+1))⟩,a+nm.length+1+(kName ((bl s).drop (i+nm.length+1))).length))
   else none)
 else none:=by
 have g1:∀ n,((bl s).drop i)[n]?=(bl s)[i+n]?:=fun n=>List.getElem?_drop
 have g2:∀ n,((bl s).drop i).drop n=(bl s).drop (i+n):=fun n=>List.drop_drop
 unfold kClass
 rw [hnm,if_neg hne]
 rw [g1,g2,g1,g2]
 simp only [← Nat.add_assoc]
theorem classWord_any (b:Nat) (s:ByteArray) (i i0 a k kk:Nat) (w:World) (hs:s.size≤140737488355328) (hi':i≤s.size) (ha:i=i0+a)
 (hk:(k=119∧kk=17)∨(k=98∧kk=18)∨(k=120∧kk=19)∨(k=118∧kk=20)∨(k=99∧kk=21)∨(k=0∧kk=0)) (h:RdAt w b s i) :
 Calls Tryz.prog 109 #[.pointer (some ⟨b,0,none⟩),.int .i64 kk] w fun e w' =>
  e=.returned (encK (kClass k a ((bl s).drop i)))∧Got w w' b s i0 (kClass k a ((bl s).drop i)):=by
 obtain ⟨nm,hnm⟩:∃ nm,kName ((bl s).drop i)=nm:=⟨_,rfl⟩
 by_cases hne:nm=[]
 · subst hne
   exact got_none (by unfold kClass;rw [if_pos hnm]) (classWord_noName b s i kk w hs hi' hnm h)
 · have hle:=name_le hnm hne
   have hc:=kClass_at s i k a nm hnm hne
   rcases hk with ⟨hk,rfl⟩ | ⟨hk,rfl⟩ | ⟨hk,rfl⟩ | ⟨hk,rfl⟩ | ⟨hk,rfl⟩ | ⟨hk,rfl⟩
   · rw [if_pos (by omega)] at hc
     exact got_some hc (by rw [hk];rfl) hle (by omega) (classWord_new b s i nm w hs hi' hnm hne h)
   · rw [if_pos (by omega)] at hc
     exact got_some hc (by rw [hk];rfl) hle (by omega) (classWord_be b s i nm w hs hi' hnm hne h)
   · rw [if_neg (by omega),if_pos (by omega)] at hc
     rcases at_case s (i+nm.length) 46 with ⟨hlt,h46,hd⟩ | ⟨h46,hd⟩
     · rw [if_pos hd] at hc
       obtain ⟨sl,hsl⟩:∃ sl,kSel ((bl s).drop (i+nm.length+1))=sl:=⟨_,rfl⟩
       rw [hsl] at hc
       by_cases hse:sl=[]
       · subst hse
         rw [if_pos rfl] at hc
         exact got_none hc (classWord_drop2 b s i nm w hs hi' hnm hne hlt h46 hsl h)
       · rw [if_neg hse,if_pos (by omega)] at hc
         exact got_some hc (by rw [hk];rfl) (sel_le hsl hse) (by omega) (classWord_drop b s i nm sl w hs hi' hnm hne hlt h46 hsl hse h)
     · rw [if_neg hd] at hc
       exact got_none hc (classWord_drop1 b s i nm w hs hi' hnm hne h46 h)
   · rw [if_neg (by omega),if_neg (by omega),if_pos (by omega)] at hc
     rcases at_case s (i+nm.length) 46 with ⟨hlt,h46,hd⟩ | ⟨h46,hd⟩
     · rw [if_pos hd] at hc
       obtain ⟨nq,hnq⟩:∃ nq,kName ((bl s).drop (i+nm.length+1))=nq:=⟨_,rfl⟩
       rw [hnq] at hc
       by_cases hqe:nq=[]
       · subst hqe
         rw [if_pos rfl] at hc
         exact got_none hc (classWord_move2 b s i nm w hs hi' hnm hne hlt h46 hnq h)
       · rw [if_neg hqe] at hc
         exact got_some hc (by rw [hk];rfl) (name_le hnq hqe) (by omega) (classWord_move b s i nm nq w hs hi' hnm hne hlt h46 hnq hqe h)
     · rw [if_neg hd] at hc
       exact got_none hc (classWord_move1 b s i nm w hs hi' hnm hne h46 h)
   · rw [if_neg (by omega),if_pos (by omega)] at hc
     rcases at_case s (i+nm.length) 46 with ⟨hlt,h46,hd⟩ | ⟨h46,hd⟩
     · rw [if_pos hd] at hc
       obtain ⟨sl,hsl⟩:∃ sl,kSel ((bl s).drop (i+nm.length+1))=sl:=⟨_,rfl⟩
       rw [hsl] at hc
       by_cases hse:sl=[]
       · subst hse
         rw [if_pos rfl] at hc
         exact got_none hc (classWord_copy2 b s i nm w hs hi' hnm hne hlt h46 hsl h)
       · rw [if_neg hse,if_neg (by omega)] at hc
         rcases at_case s (i+nm.length+1+sl.length) 46 with ⟨hlt2,h462,hd2⟩ | ⟨h462,hd2⟩
         · rw [if_pos hd2] at hc
           obtain ⟨nq,hnq⟩:∃ nq,kName ((bl s).drop (i+nm.length+1+sl.length+1))=nq:=⟨_,rfl⟩
           rw [hnq] at hc
           by_cases hqe:nq=[]
           · subst hqe
             rw [if_pos rfl] at hc
             exact got_none hc (classWord_copy4 b s i nm sl w hs hi' hnm hne hlt h46 hsl hse hlt2 h462 hnq h)
           · rw [if_neg hqe] at hc
             exact got_some hc (by rw [hk];rfl) (name_le hnq hqe) (by omega) (classWord_copy b s i nm sl nq w hs hi' hnm hne hlt h46 hsl hse hlt2 h462 hnq hqe h)
         · rw [if_neg hd2] at hc
           exact got_none hc (classWord_copy3 b s i nm sl w hs hi' hnm hne hlt h46 hsl hse h462 h)
     · rw [if_neg hd] at hc
       exact got_none hc (classWord_copy1 b s i nm w hs hi' hnm hne h46 h)
   · rw [if_neg (by omega),if_neg (by omega),if_neg (by omega)] at hc
     exact got_none hc (classWord_none b s i nm w hs hi' hnm hne h)
end Go.Proofs.YtkghmgoefiepeaaGreatDoor.reads
