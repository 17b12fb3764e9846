import Derived.Test.YtkghmgoefiepeaaGreatDoorQ0
import Derived.Test.YtkghmgoefiepeaaGreatDoorQ1
import Derived.Test.YtkghmgoefiepeaaGreatDoorQ13
set_option linter.unusedSimpArgs false
set_option linter.unusedVariables false
set_option maxHeartbeats 4000000
set_option maxRecDepth 100000
namespace Go.Proofs.YtkghmgoefiepeaaGreatDoor.reads
open Go.ChangeShapes Go.WideShapes Go.ChangeAt Go.RowKit Kn
theorem fine_of {ws:List (W×Nat)}{args slots:Nat} (h0:∀ (i:Nat) (x:W×Nat),ws[i]?=some x→Fine0 x.1) (hno:∀ j,j < ws.length→¬ NumBad ws args slots j) (i:Nat) (x:W×Nat) (hx:ws[i]?=some x):Fine x.1 ws.length:=by
 have h:=h0 i x hx
 have hi:=(List.getElem?_eq_some_iff.1 hx).1
 refine ⟨h.kind,h.lo,h.hi,h.send,fun e=>⟨h.goto e,?_⟩⟩
 have hn:=hno i hi
 have hw:wAt ws i=x.1:=by unfold wAt;rw [hx];rfl
 unfold NumBad argBad at hn
 rw [hw] at hn
 by_cases hc:x.1.n≤ws.length
 · exact hc
 · exact absurd (Or.inl (Or.inr ⟨e,by omega⟩)) hn
end Go.Proofs.YtkghmgoefiepeaaGreatDoor.reads
