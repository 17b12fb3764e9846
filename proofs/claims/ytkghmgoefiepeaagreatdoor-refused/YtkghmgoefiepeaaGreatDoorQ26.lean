import Derived.Deep.Cut
import Derived.Maps.AppendAt
import Derived.Test.YtkghmgoefiepeaaGreatDoorQ0
import Derived.Test.YtkghmgoefiepeaaGreatDoorQ1
import Derived.Test.YtkghmgoefiepeaaGreatDoorQ25
set_option linter.unusedSimpArgs false
set_option linter.unusedVariables false
set_option maxHeartbeats 4000000
set_option maxRecDepth 100000
namespace Go.Proofs.YtkghmgoefiepeaaGreatDoor.reads
open Go.ChangeShapes Go.WideShapes Go.ChangeAt Go.RowKit Kn
theorem sel_parts {s:ByteArray} (h:selector (bl s)=true):3≤s.size∧s.size≤8∧48≤((bl s)[s.size - 1]?.getD 0).toNat∧argsOf (bl s)≤3:=by
 have ha:=argsOf_le h
 unfold selector at h
 simp only [Bool.and_eq_true,decide_eq_true_eq] at h
 obtain ⟨⟨⟨⟨⟨h3,h8⟩,h47⟩,hd1⟩,hd2⟩,hall⟩:=h
 rw [bl_length] at h3 h8 hd1
 exact ⟨h3,h8,hd1,ha⟩
end Go.Proofs.YtkghmgoefiepeaaGreatDoor.reads
