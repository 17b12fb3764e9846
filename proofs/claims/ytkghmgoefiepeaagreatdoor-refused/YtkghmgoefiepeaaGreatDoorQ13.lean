import Derived.Test.YtkghmgoefiepeaaGreatDoorQ0
import Derived.Test.YtkghmgoefiepeaaGreatDoorQ10
set_option linter.unusedSimpArgs false
set_option linter.unusedVariables false
set_option maxHeartbeats 4000000
set_option maxRecDepth 100000
namespace Go.Proofs.YtkghmgoefiepeaaGreatDoor.reads
open Go.ChangeShapes Go.WideShapes Go.ChangeAt Go.RowKit Kn
def cnt (M:Nat→Nat→Bool) (k hh:Nat):Nat:=((List.range hh).filter (M k)).length
theorem cnt_two (M:Nat→Nat→Bool) (k:Nat):1 < cnt M k 17 ↔ ∃ h1 h2,h1 < h2∧h2≤16∧M k h1=true∧M k h2=true:=by
 have hp:((List.range 17).filter (M k)).Pairwise (· < ·):=List.pairwise_lt_range.filter _
 have hm:∀ h,h∈(List.range 17).filter (M k) ↔ h≤16∧M k h=true:=fun h=>by rw [List.mem_filter,List.mem_range];constructor <;> (rintro ⟨a,b⟩;exact ⟨by omega,b⟩)
 unfold cnt
 generalize (List.range 17).filter (M k)=l at *
 constructor
 · intro h
   match l,h,hp,hm with
   | a::c::r,_,hp,hm =>
    have h1:=(hm a).1 (by simp)
    have h2:=(hm c).1 (by simp)
    exact ⟨a,c,(List.pairwise_cons.1 hp).1 c (by simp),h2.1,h1.2,h2.2⟩
 · rintro ⟨h1,h2,hlt,hle,m1,m2⟩
   have e1:=(hm h1).2 ⟨by omega,m1⟩
   have e2:=(hm h2).2 ⟨hle,m2⟩
   match l,e1,e2 with
   | [],e1,_=>cases e1
   | [a],e1,e2=>simp at e1 e2;omega
   | a::c::r,_,_=>simp
theorem wrong_iff {ws:List (W×Nat)}{M:Nat→Nat→Bool}{Bd:Nat→Bool} (hm:Marked ws M Bd) (hg:∀ i h,i < ws.length→h≤16→Gone ws M Bd i h) {k:Nat} (hk:k < ws.length):Wrong ws k ↔ (Bd k=true∨1 < cnt M k 17):=by
 unfold Wrong
 rw [marked_bad hm hg hk,cnt_two]
 constructor
 · rintro (h | ⟨h1,h2,hlt,r1,r2⟩)
   · exact .inl h
   · exact .inr ⟨h1,h2,hlt,reach_le r2,(marked_all hm hg).1 r1,(marked_all hm hg).1 r2⟩
 · rintro (h | ⟨h1,h2,hlt,_,m1,m2⟩)
   · exact .inl h
   · exact .inr ⟨h1,h2,hlt,(marked_all hm hg).2 m1,(marked_all hm hg).2 m2⟩
end Go.Proofs.YtkghmgoefiepeaaGreatDoor.reads
