import Derived.Maps.AppendAt
import Derived.Deep.LoopGhost
import Derived.Test.YtkghmgoefiepeaaGreatDoorQ0
import Derived.Test.YtkghmgoefiepeaaGreatDoorQ1
import Derived.Test.YtkghmgoefiepeaaGreatDoorQ2
set_option linter.unusedSimpArgs false
set_option linter.unusedVariables false
set_option maxHeartbeats 4000000
set_option maxRecDepth 100000
namespace Go.Proofs.YtkghmgoefiepeaaGreatDoor.reads
open Go.ChangeShapes Go.WideShapes Go.ChangeAt Go.RowKit Kn
def RdAt (w:World) (b:Nat) (s:ByteArray) (i:Nat):Prop:=w.heap[b]?=some (.cells #[.string s,.int .i64 i] 135)
variable {w : World}
theorem RdAt.c0 {b:Nat}{s:ByteArray}{i:Nat} (h:RdAt w b s i):w.cell? ⟨b,0,none⟩=some (.string s):=by
 unfold RdAt at h;simp only [World.cell?,h];rfl
theorem RdAt.c1 {b:Nat}{s:ByteArray}{i:Nat} (h:RdAt w b s i):w.cell? ⟨b,1,none⟩=some (.int .i64 i):=by
 unfold RdAt at h;simp only [World.cell?,h];rfl
theorem RdAt.f1 {b:Nat}{s:ByteArray}{i:Nat} (h:RdAt w b s i):w.frozen? ⟨b,1,none⟩=false:=by
 unfold RdAt at h;simp only [World.frozen?,h];simp
theorem RdAt.set {b:Nat}{s:ByteArray}{i:Nat} (h:RdAt w b s i) (j:Nat):RdAt (w.setCell ⟨b,1,none⟩ (.int .i64 j)) b s j:=by
 unfold RdAt at h ⊢
 simp only [World.setCell,Array.getElem?_modify,if_pos,h]
 rfl
structure RTo (w w':World) (b:Nat) (s:ByteArray) (i:Nat):Prop where
 rd:RdAt w' b s i
 grown:w.grownBy w' (some b)
theorem grown_set (w:World) (a:Addr) (v:Value):w.grownBy (w.setCell a v) (some a.block) :=
 ⟨rfl,rfl,rfl,by simp [World.setCell],fun k _ hk=>Below.heap_setCell w a v k (fun e=>hk (by rw [e]))⟩
theorem RTo.refl {b:Nat}{s:ByteArray}{i:Nat} (h:RdAt w b s i):RTo w w b s i:=⟨h,World.grownBy.refl w _⟩
variable {w' : World}
theorem RTo.drew {b:Nat}{s:ByteArray}{i:Nat} (h:RTo w w' b s i):RTo w w'.drew b s i:=⟨h.rd,⟨h.grown.os,h.grown.tape,h.grown.output,h.grown.size,h.grown.block⟩⟩
theorem drewN_heap (w:World):∀ n,(w.drewN n).heap=w.heap∧(w.drewN n).os=w.os∧(w.drewN n).tape=w.tape∧(w.drewN n).output=w.output:=by
 intro n;exact ⟨rfl,rfl,rfl,rfl⟩
theorem RTo.drewN {b:Nat}{s:ByteArray}{i:Nat} (h:RTo w w' b s i) (n:Nat):RTo w (w'.drewN n) b s i:=by
 obtain ⟨e1,e2,e3,e4⟩:=drewN_heap w' n
 exact ⟨by unfold RdAt;rw [e1];exact h.rd,⟨e2.trans h.grown.os,e3.trans h.grown.tape,e4.trans h.grown.output,by rw [e1];exact h.grown.size,fun k hk hne=>by rw [e1];exact h.grown.block k hk hne⟩⟩
theorem RTo.set {b:Nat}{s:ByteArray}{i:Nat} (h:RTo w w' b s i) (j:Nat):RTo w (w'.setCell ⟨b,1,none⟩ (.int .i64 j)) b s j:=⟨h.rd.set j,h.grown.trans (grown_set w' ⟨b,1,none⟩ _)⟩
theorem RTo.trans {w w' w'':World}{b:Nat}{s:ByteArray}{i j:Nat} (h:RTo w w' b s i) (k:RTo w' w'' b s j):RTo w w'' b s j:=⟨k.rd,h.grown.trans k.grown⟩
def atEndB (l:List UInt8) (i:Nat):Bool:=decide (l.length≤i)||decide (l[i]?=some 32)
theorem atEnd_any (b:Nat) (s:ByteArray) (i:Nat) (w:World) (hs:s.size≤140737488355328) (hi:i≤s.size) (h:RdAt w b s i) :
 Calls Tryz.prog 77 #[.pointer (some ⟨b,0,none⟩)] w fun e w'=>e=.returned (.bool (atEndB (bl s) i))∧RTo w w' b s i:=by
 have c0:=h.c0
 have c1:=h.c1
 have H:=RTo.refl h
 have HH:Hid _:=H
 clear h H
 by_cases hlt:i < s.size
 · have t1:((i:Int)==s.size)=false:=by simp;omega
   have hi0:(0:Int)≤i:=by omega
   have hi1:(i:Int) < s.size:=by omega
   have HB:Hid (atEndB (bl s) i=decide (s[i].toNat=32)):=by
    have hx:atEndB (bl s) i=decide (s[i].toNat=32):=by
     unfold atEndB
     rw [bl_length,bl_get s i hlt,Bool.eq_iff_iff]
     simp only [Bool.or_eq_true,decide_eq_true_eq]
     constructor
     · rintro (h | h)
       · omega
       · injection h with h;rw [h];rfl
     · intro h;right;exact congrArg some (UInt8.toNat_inj.1 (by rw [h];rfl))
    exact hx
   by_cases h32:s[i].toNat=32
   · have t2:((s[i].toNat:Int)==32)=true:=by simp;omega
     rw [decide_eq_true h32] at HB
     clear h32
     go_enter Tryz.func77,Tryz.ntmps77
     go_wp2
     go_quiet (fail)
     go_wp2
     go_ret
     exact ⟨by rw [HB.out];rfl,HH.out.drewN _⟩
   · have t2:((s[i].toNat:Int)==32)=false:=by simp;omega
     rw [decide_eq_false h32] at HB
     clear h32
     go_enter Tryz.func77,Tryz.ntmps77
     go_wp2
     go_quiet (fail)
     go_wp2
     go_ret
     exact ⟨by rw [HB.out];rfl,HH.out.drewN _⟩
 · obtain rfl:i=s.size:=by omega
   have HB:Hid (atEndB (bl s) s.size=true):=by
    have hx:atEndB (bl s) s.size=true:=by unfold atEndB;rw [bl_length];simp
    exact hx
   go_enter Tryz.func77,Tryz.ntmps77
   go_wp2
   go_quiet (fail)
   go_wp2
   go_ret
   exact ⟨by rw [HB.out];rfl,HH.out.drewN _⟩
theorem take_yes (b:Nat) (s:ByteArray) (i c:Nat) (w:World) (hs:s.size≤140737488355328) (hlt:i < s.size) (hc:s[i].toNat=c) (h:RdAt w b s i) :
 Calls Tryz.prog 75 #[.pointer (some ⟨b,0,none⟩),.int .u8 c] w fun e w'=>e=.returned (.bool true)∧RTo w w' b s (i+1):=by
 have c0:=h.c0
 have c1:=h.c1
 have f1:=h.f1
 have HH:Hid _:=RTo.refl h
 have t1:((i:Int)==s.size)=false:=by simp;omega
 have hi0:(0:Int)≤i:=by omega
 have hi1:(i:Int) < s.size:=by omega
 have t2:((s[i].toNat:Int)==c)=true:=by simp;omega
 have t3:((s[i].toNat:Int) != c)=false:=by simp;omega
 clear h hc
 go_enter Tryz.func75,Tryz.ntmps75
 go_wp2
 go_quiet (fail)
 go_wp2
 go_ret
 refine ⟨rfl,?_⟩
 exact (HH.out.drewN _).set (i+1)
theorem take_no (b:Nat) (s:ByteArray) (i c:Nat) (w:World) (hs:s.size≤140737488355328) (hi:i≤s.size) (hc:∀ hlt:i < s.size,s[i].toNat≠c) (h:RdAt w b s i) :
 Calls Tryz.prog 75 #[.pointer (some ⟨b,0,none⟩),.int .u8 c] w fun e w'=>e=.returned (.bool false)∧RTo w w' b s i:=by
 have c0:=h.c0
 have c1:=h.c1
 have HH:Hid _:=RTo.refl h
 by_cases hlt:i < s.size
 · have hcc:=hc hlt
   have t1:((i:Int)==s.size)=false:=by simp;omega
   have hi0:(0:Int)≤i:=by omega
   have hi1:(i:Int) < s.size:=by omega
   have t2:((s[i].toNat:Int)==c)=false:=by simp;omega
   have t3:((s[i].toNat:Int) != c)=true:=by simp;omega
   clear h hc hcc
   go_enter Tryz.func75,Tryz.ntmps75
   go_wp2
   go_quiet (fail)
   go_wp2
   go_ret
   exact ⟨rfl,HH.out.drewN _⟩
 · obtain rfl:i=s.size:=by omega
   clear h hc
   go_enter Tryz.func75,Tryz.ntmps75
   go_wp2
   go_quiet (fail)
   go_wp2
   go_ret
   exact ⟨rfl,HH.out.drewN _⟩
def inR (lo hi:Nat) (c:UInt8):Bool:=decide (lo≤c.toNat)&&decide (c.toNat≤hi)
def SpanTo (l:List UInt8) (lo hi m i j:Nat):Prop:=i≤j∧j≤l.length∧j - i≤m∧∀ k c,i≤k→k < j→l[k]?=some c→inR lo hi c=true
theorem spanTo_end {l:List UInt8}{lo hi m i j:Nat} (h:SpanTo l lo hi m i j) (he:j=l.length∨j - i=m∨∃ c,l[j]?=some c∧inR lo hi c=false):spanL (inR lo hi) m (l.drop i)=(l.take j).drop i∧j=i+(spanL (inR lo hi) m (l.drop i)).length:=by
 obtain ⟨h1,h2,h3,h4⟩:=h
 have e:l.drop i=(l.take j).drop i++l.drop j:=by
  have e1:l=l.take j++l.drop j:=(List.take_append_drop j l).symm
  have e2:(l.take j).length=j:=by rw [List.length_take];omega
  have e3:(l.take j++l.drop j).drop i=(l.take j).drop i++l.drop j:=List.drop_append_of_le_length (by omega)
  rw [← e3,← e1]
 have hlen:((l.take j).drop i).length=j - i:=by rw [List.length_drop,List.length_take];omega
 have hs:spanL (inR lo hi) m (l.drop i)=(l.take j).drop i:=by
  rw [e]
  refine spanL_eq _ m _ _ (fun c hc=>?_) (by rw [hlen];exact h3) ?_
  · obtain ⟨k,hk⟩:=List.mem_iff_getElem?.1 hc
    rw [List.getElem?_drop] at hk
    have hjk:i+k < j:=by
     by_cases hx:i+k < j
     · exact hx
     · rw [List.getElem?_take_eq_none (by omega)] at hk;cases hk
    rw [List.getElem?_take_of_lt hjk] at hk
    exact h4 (i+k) c (by omega) hjk hk
  · rcases he with he | he | ⟨c,hc,hp⟩
    · right;intro c hc;rw [List.getElem?_drop,Nat.add_zero,he,List.getElem?_eq_none (Nat.le_refl _)] at hc;cases hc
    · left;rw [hlen];exact he
    · right;intro c' hc';rw [List.getElem?_drop,Nat.add_zero,hc] at hc';injection hc' with hc';rw [← hc'];exact hp
 exact ⟨hs,by rw [hs,hlen];omega⟩
theorem span_any (b:Nat) (s:ByteArray) (i lo hi m:Nat) (w:World) (hs:s.size≤140737488355328) (hi':i≤s.size) (hm:m≤6) (h:RdAt w b s i) :
 Calls Tryz.prog 106 #[.pointer (some ⟨b,0,none⟩),.int .u8 lo,.int .u8 hi,.int .i64 m] w fun e w' =>
  e=.returned (.string (ofL (spanL (inR lo hi) m ((bl s).drop i))))∧RTo w w' b s (i+(spanL (inR lo hi) m ((bl s).drop i)).length):=by
 have c0:=h.c0
 have c1:=h.c1
 have HH:Hid _:=RTo.refl h
 clear h
 go_enter Tryz.func106,Tryz.ntmps106
 go_wp2
 go_loopg [] (s.size - i) (fun gk wr=>∃ j:Nat,RTo w wr b s j∧SpanTo (bl s) lo hi m i j∧gk=s.size - j)
 case atStart=>exact ⟨i,HH.out,⟨Nat.le_refl _,by rw [bl_length];exact hi',by omega,fun k c a b=>by omega⟩,rfl⟩
 case round =>
  obtain ⟨j,hto,hsp,rfl⟩:=hrel
  have HT:Hid _:=hto
  have HS:Hid (SpanTo (bl s) lo hi m i j):=hsp
  have hij:=hsp.1
  have hjl:j≤s.size:=by have:=hsp.2.1;rw [bl_length] at this;exact this
  have hjm:=hsp.2.2.1
  obtain ⟨d,rfl⟩:∃ d,j=i+d:=⟨j - i,by omega⟩
  have hdm:d≤m:=by omega
  have d0:=hto.rd.c0
  have d1:=hto.rd.c1
  have f1:=hto.rd.f1
  clear hto hsp hij hjm c0 c1 HH
  have hq1:(0:Int)≤(i:Int):=by omega
  have hq2:(i:Int)≤(i:Int)+d:=by omega
  have hq3:(i:Int)+d≤s.size:=by omega
  have hwr:IntKind.i64.wrap ((i:Int)+d - i)=d:=by rw [IntKind.wrap_i64];omega
  by_cases hlt:i+d < s.size
  · have hj0:(0:Int)≤(i:Int)+d:=by omega
    have hj1:(i:Int)+d < s.size:=by omega
    have hgj:=bl_get s (i+d) hlt
    have HG:Hid _:=hgj
    clear hgj
    by_cases hd:d < m
    · have hdi:(d:Int) < m:=by omega
      by_cases hlo:lo≤s[i+d].toNat
      · have hloi:(lo:Int)≤s[i+d].toNat:=by omega
        by_cases hhi:s[i+d].toNat≤hi
        · have hhii:(s[i+d].toNat:Int)≤hi:=by omega
          go_wp2
          go_quiet (fail)
          go_wp2
          go_roundg (s.size - (i+d+1))
          case measure=>omega
          case rel =>
           refine ⟨i+d+1,(HT.out.drewN _).set (i+d+1),⟨by omega,by rw [bl_length];omega,by omega,fun k c h1 h2 hk=>?_⟩,rfl⟩
           by_cases e:k=i+d
           · subst e;rw [HG.out] at hk;injection hk with hk;rw [← hk];simp [inR,hlo,hhi]
           · exact HS.out.2.2.2 k c h1 (by omega) hk
        · have hx1:decide ((s[i+d].toNat:Int)≤hi)=false:=by simp;omega
          have hx2:decide (s[i+d].toNat≤hi)=false:=by simp;omega
          have HE:Hid (spanL (inR lo hi) m ((bl s).drop i)=((bl s).take (i+d)).drop i∧i+d=i+(spanL (inR lo hi) m ((bl s).drop i)).length):=spanTo_end HS.out (.inr (.inr ⟨_,HG.out,by simp [inR,hhi]⟩))
          go_wp2
          go_quiet (fail)
          go_wp2
          go_quiet (fail)
          go_wp2
          go_ret
          refine ⟨?_,?_⟩
          · rw [HE.out.1,← ex_mid];rfl
          · rw [← HE.out.2];exact (HT.out.drewN _).drewN _
      · have hx1:decide ((lo:Int)≤s[i+d].toNat)=false:=by simp;omega
        have hx2:decide (lo≤s[i+d].toNat)=false:=by simp;omega
        have HE:Hid (spanL (inR lo hi) m ((bl s).drop i)=((bl s).take (i+d)).drop i∧i+d=i+(spanL (inR lo hi) m ((bl s).drop i)).length):=spanTo_end HS.out (.inr (.inr ⟨_,HG.out,by simp [inR,hlo]⟩))
        go_wp2
        go_quiet (fail)
        go_wp2
        go_quiet (fail)
        go_wp2
        go_ret
        refine ⟨?_,?_⟩
        · rw [HE.out.1,← ex_mid];rfl
        · rw [← HE.out.2];exact (HT.out.drewN _).drewN _
    · obtain rfl:d=m:=by omega
      have HE:Hid (spanL (inR lo hi) d ((bl s).drop i)=((bl s).take (i+d)).drop i∧i+d=i+(spanL (inR lo hi) d ((bl s).drop i)).length):=spanTo_end HS.out (.inr (.inl (by omega)))
      go_wp2
      go_quiet (fail)
      go_wp2
      go_quiet (fail)
      go_wp2
      go_ret
      refine ⟨?_,?_⟩
      · rw [HE.out.1,← ex_mid];rfl
      · rw [← HE.out.2];exact (HT.out.drewN _).drewN _
  · have he:i+d=s.size:=by omega
    have HE:Hid (spanL (inR lo hi) m ((bl s).drop i)=((bl s).take (i+d)).drop i∧i+d=i+(spanL (inR lo hi) m ((bl s).drop i)).length):=spanTo_end HS.out (.inl (by rw [bl_length];exact he))
    have hx1:decide ((i:Int)+d < s.size)=false:=by simp;omega
    have hx2:decide (i+d < s.size)=false:=by simp;omega
    clear he
    go_wp2
    go_quiet (fail)
    go_wp2
    go_quiet (fail)
    go_wp2
    go_ret
    refine ⟨?_,?_⟩
    · rw [HE.out.1,← ex_mid];rfl
    · rw [← HE.out.2];exact (HT.out.drewN _).drewN _
end Go.Proofs.YtkghmgoefiepeaaGreatDoor.reads
