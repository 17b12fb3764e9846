/-
  NARROWER THAN 'FOR EVERY INPUT', by the rows' own cells (each row's printed sentence says how): Runs: laid · Unseen: laid · Refused: laid · Deeper: laid.
  DERIVED. THE GIVEN ROWS OF THIS SEAT. 4 by the template 'for every input the law returns true; each argument reads behind the call as it read before'; 0 by the template 'total and deterministic' (their statements: YtkghmgoefiepeaaGreatDoorTotals.lean).
  GIVEN WITH THE SEED: the statements are not yours to turn. If you find one false, say at which input.
  Laid BY PROGRAM, IN A SANDBOX (cutbox-rows.mjs): the forced cells as the released guide's own fill.sh prints them over the translation 8970482383dc813b… (all of the seat's roots in one cut). By AI agents, Wed Nov 11 2026. No macro, syntax, notation, axiom, sorry.
-/
import Derived.Test.YtkghmgoefiepeaaGreatDoorChecked
import GoSem.Claim
import GoSem.ClaimJoined
import GoSem.ClaimMapViews
import Derived.JoinedTies
import Derived.KernelRfl
namespace Go.Proofs.YtkghmgoefiepeaaGreatDoor
/- THE CELL 'sum', in the pinned program and in every row, IS THE sha256 OF THE DUMP (.gsa) THAT YtkghmgoefiepeaaGreatDoorProg.lean LOADS. Nothing in Lean hashes anything: it is a label: what it is worth is what the hold of that sum in a sandbox is worth. -/
noncomputable def Tryz.pinned : Pinned := { name := "ytkghmgoefiepeaagreatdoor", sum := "8970482383dc813bde7ea8f67102ea825d54757b50eb8daf412512ae7b3f2f1f", checked := Tryz.checked }
namespace Rows
def none {H : Type} : Left H := { results := [], args := [] }

/- WHAT THE LISTED PACKAGE-LEVEL VARIABLES READ AS WHEN THE CALL BEGINS. Each datum BY PROGRAM (the guide's laid-datum.mjs) off the statement by which the dump's own 'gosem.cut.vars' lays the variable. In a bare row this is a premise. The card (YtkghmgoefiepeaaGreatDoorCards.lean) ties it to the program's text. -/
def laid_kin_kin_plainWords {H : Type} : DataW H := .agg [.agg [.lit (.string [115, 101, 108, 102]), .lit (.int .i64 2)], .agg [.lit (.string [43]), .lit (.int .i64 6)], .agg [.lit (.string [45]), .lit (.int .i64 7)], .agg [.lit (.string [42]), .lit (.int .i64 8)], .agg [.lit (.string [60]), .lit (.int .i64 9)], .agg [.lit (.string [61]), .lit (.int .i64 10)], .agg [.lit (.string [112, 111, 112]), .lit (.int .i64 11)], .agg [.lit (.string [100, 117, 112]), .lit (.int .i64 12)], .agg [.lit (.string [114, 101, 116]), .lit (.int .i64 22)]]
def laid_kin_kin_classHeads {H : Type} : DataW H := .agg [.agg [.lit (.string [110, 101, 119]), .lit (.int .i64 17)], .agg [.lit (.string [98, 101]), .lit (.int .i64 18)], .agg [.lit (.string [100, 114, 111, 112]), .lit (.int .i64 19)], .agg [.lit (.string [109, 111, 118, 101]), .lit (.int .i64 20)], .agg [.lit (.string [99, 111, 112, 121]), .lit (.int .i64 21)]]
def laid_kin_kin_effects {H : Type} : DataW H := .agg [.agg [.lit (.int .i64 0), .lit (.int .i64 0), .lit (.bool false), .lit (.bool false), .lit (.bool false)], .agg [.lit (.int .i64 0), .lit (.int .i64 1), .lit (.bool false), .lit (.bool false), .lit (.bool false)], .agg [.lit (.int .i64 0), .lit (.int .i64 1), .lit (.bool false), .lit (.bool false), .lit (.bool false)], .agg [.lit (.int .i64 0), .lit (.int .i64 1), .lit (.bool false), .lit (.bool false), .lit (.bool false)], .agg [.lit (.int .i64 0), .lit (.int .i64 1), .lit (.bool false), .lit (.bool false), .lit (.bool false)], .agg [.lit (.int .i64 1), .lit (.int .i64 0), .lit (.bool false), .lit (.bool false), .lit (.bool false)], .agg [.lit (.int .i64 2), .lit (.int .i64 1), .lit (.bool false), .lit (.bool false), .lit (.bool false)], .agg [.lit (.int .i64 2), .lit (.int .i64 1), .lit (.bool false), .lit (.bool false), .lit (.bool false)], .agg [.lit (.int .i64 2), .lit (.int .i64 1), .lit (.bool false), .lit (.bool false), .lit (.bool false)], .agg [.lit (.int .i64 2), .lit (.int .i64 1), .lit (.bool false), .lit (.bool false), .lit (.bool false)], .agg [.lit (.int .i64 2), .lit (.int .i64 1), .lit (.bool false), .lit (.bool false), .lit (.bool false)], .agg [.lit (.int .i64 1), .lit (.int .i64 0), .lit (.bool false), .lit (.bool false), .lit (.bool false)], .agg [.lit (.int .i64 1), .lit (.int .i64 2), .lit (.bool false), .lit (.bool false), .lit (.bool false)], .agg [.lit (.int .i64 0), .lit (.int .i64 0), .lit (.bool false), .lit (.bool true), .lit (.bool true)], .agg [.lit (.int .i64 1), .lit (.int .i64 0), .lit (.bool false), .lit (.bool true), .lit (.bool false)], .agg [.lit (.int .i64 1), .lit (.int .i64 1), .lit (.bool true), .lit (.bool false), .lit (.bool false)], .agg [.lit (.int .i64 0), .lit (.int .i64 1), .lit (.bool true), .lit (.bool false), .lit (.bool false)], .agg [.lit (.int .i64 0), .lit (.int .i64 1), .lit (.bool false), .lit (.bool false), .lit (.bool false)], .agg [.lit (.int .i64 1), .lit (.int .i64 1), .lit (.bool false), .lit (.bool false), .lit (.bool false)], .agg [.lit (.int .i64 0), .lit (.int .i64 0), .lit (.bool false), .lit (.bool false), .lit (.bool false)], .agg [.lit (.int .i64 0), .lit (.int .i64 0), .lit (.bool false), .lit (.bool false), .lit (.bool false)], .agg [.lit (.int .i64 0), .lit (.int .i64 0), .lit (.bool false), .lit (.bool false), .lit (.bool false)], .agg [.lit (.int .i64 1), .lit (.int .i64 0), .lit (.bool false), .lit (.bool false), .lit (.bool true)]]

/-- 'kinlaw.Runs': WHATEVER THE INPUT: true; the input reads as it did. -/
def runsSpec : ChangeSpec := { name := "runs", fn := fun _ => fun
  | [d1, d2, d3] => { results := [.lit (.bool true)], args := [d1, d2, d3] }
  | _ => none }
def runsRow : OpenClaim := { program := "ytkghmgoefiepeaagreatdoor", sum := "8970482383dc813bde7ea8f67102ea825d54757b50eb8daf412512ae7b3f2f1f", func := "kin/kinlaw.Runs", spec := "runs", unfollowed := true, recurses := true, named := ["kin/kin.classHeads", "kin/kin.plainWords", "kin/kin.effects"], apart := false, laid := [("kin/kin.plainWords", laid_kin_kin_plainWords), ("kin/kin.classHeads", laid_kin_kin_classHeads), ("kin/kin.effects", laid_kin_kin_effects)] }
def RunsSaid : Prop := runsRow.holds Tryz.pinned (OpenSpec.ofChange runsSpec)

/-- ITS FALSE NEIGHBOUR: 'it returns false'. Refute it at one input. -/
def runsWrong : ChangeSpec := { name := "runs", fn := fun _ => fun
  | [d1, d2, d3] => { results := [.lit (.bool false)], args := [d1, d2, d3] }
  | _ => none }
def RunsWrongFalsely : Prop := runsRow.holds Tryz.pinned (OpenSpec.ofChange runsWrong)

/-- 'kinlaw.Unseen': WHATEVER THE INPUT: true; the input reads as it did. -/
def unseenSpec : ChangeSpec := { name := "unseen", fn := fun _ => fun
  | [d1, d2, d3, d4, d5, d6] => { results := [.lit (.bool true)], args := [d1, d2, d3, d4, d5, d6] }
  | _ => none }
def unseenRow : OpenClaim := { program := "ytkghmgoefiepeaagreatdoor", sum := "8970482383dc813bde7ea8f67102ea825d54757b50eb8daf412512ae7b3f2f1f", func := "kin/kinlaw.Unseen", spec := "unseen", unfollowed := true, recurses := true, named := ["kin/kin.classHeads", "kin/kin.plainWords", "kin/kin.effects"], apart := false, laid := [("kin/kin.plainWords", laid_kin_kin_plainWords), ("kin/kin.classHeads", laid_kin_kin_classHeads), ("kin/kin.effects", laid_kin_kin_effects)] }
def UnseenSaid : Prop := unseenRow.holds Tryz.pinned (OpenSpec.ofChange unseenSpec)

/-- ITS FALSE NEIGHBOUR: 'it returns false'. Refute it at one input. -/
def unseenWrong : ChangeSpec := { name := "unseen", fn := fun _ => fun
  | [d1, d2, d3, d4, d5, d6] => { results := [.lit (.bool false)], args := [d1, d2, d3, d4, d5, d6] }
  | _ => none }
def UnseenWrongFalsely : Prop := unseenRow.holds Tryz.pinned (OpenSpec.ofChange unseenWrong)

/-- 'kinlaw.Refused': WHATEVER THE INPUT: true; the input reads as it did. -/
def refusedSpec : ChangeSpec := { name := "refused", fn := fun _ => fun
  | [d1, d2, d3] => { results := [.lit (.bool true)], args := [d1, d2, d3] }
  | _ => none }
def refusedRow : OpenClaim := { program := "ytkghmgoefiepeaagreatdoor", sum := "8970482383dc813bde7ea8f67102ea825d54757b50eb8daf412512ae7b3f2f1f", func := "kin/kinlaw.Refused", spec := "refused", unfollowed := true, recurses := true, named := ["kin/kin.classHeads", "kin/kin.plainWords", "kin/kin.effects"], apart := false, laid := [("kin/kin.plainWords", laid_kin_kin_plainWords), ("kin/kin.classHeads", laid_kin_kin_classHeads), ("kin/kin.effects", laid_kin_kin_effects)] }
def RefusedSaid : Prop := refusedRow.holds Tryz.pinned (OpenSpec.ofChange refusedSpec)

/-- ITS FALSE NEIGHBOUR: 'it returns false'. Refute it at one input. -/
def refusedWrong : ChangeSpec := { name := "refused", fn := fun _ => fun
  | [d1, d2, d3] => { results := [.lit (.bool false)], args := [d1, d2, d3] }
  | _ => none }
def RefusedWrongFalsely : Prop := refusedRow.holds Tryz.pinned (OpenSpec.ofChange refusedWrong)

/-- 'kinlaw.Deeper': WHATEVER THE INPUT: true; the input reads as it did. -/
def deeperSpec : ChangeSpec := { name := "deeper", fn := fun _ => fun
  | [d1, d2, d3, d4, d5] => { results := [.lit (.bool true)], args := [d1, d2, d3, d4, d5] }
  | _ => none }
def deeperRow : OpenClaim := { program := "ytkghmgoefiepeaagreatdoor", sum := "8970482383dc813bde7ea8f67102ea825d54757b50eb8daf412512ae7b3f2f1f", func := "kin/kinlaw.Deeper", spec := "deeper", unfollowed := true, recurses := true, named := ["kin/kin.classHeads", "kin/kin.plainWords", "kin/kin.effects"], apart := false, laid := [("kin/kin.plainWords", laid_kin_kin_plainWords), ("kin/kin.classHeads", laid_kin_kin_classHeads), ("kin/kin.effects", laid_kin_kin_effects)] }
def DeeperSaid : Prop := deeperRow.holds Tryz.pinned (OpenSpec.ofChange deeperSpec)

/-- ITS FALSE NEIGHBOUR: 'it returns false'. Refute it at one input. -/
def deeperWrong : ChangeSpec := { name := "deeper", fn := fun _ => fun
  | [d1, d2, d3, d4, d5] => { results := [.lit (.bool false)], args := [d1, d2, d3, d4, d5] }
  | _ => none }
def DeeperWrongFalsely : Prop := deeperRow.holds Tryz.pinned (OpenSpec.ofChange deeperWrong)

/- THE SECOND FORM. 'bulk': how many values and letters a reading holds, each counted each time it is reached (what is shared counts as often as it is met; a slice's spare places count too). A statement '..UptoSaid' is the law's where the arguments, and the package variables that the reading takes, are together of bulk at most 1048576: NARROWER than '..Said'. Prove '..Said' where nothing that the law and all that it calls make is longer than what came in: it says more and counts as full. Else prove '..UptoSaid'. A law counts once. -/
mutual
def uptoBulk {H : Type} : DataW H → Nat
  | .lit (.string bytes) => bytes.length + 1
  | .lit _ => 1
  | .nil => 1
  | .ptr d => uptoBulk d + 1
  | .slice elems spare => uptoBulkAll elems + uptoBulkAll spare + 1
  | .agg parts => uptoBulkAll parts + 1
  | .iface _ d => uptoBulk d + 1
  | .map entries => uptoBulkEntries entries + 1
  | .held _ => 1
def uptoBulkAll {H : Type} : List (DataW H) → Nat
  | [] => 0
  | d :: r => uptoBulk d + uptoBulkAll r
def uptoBulkEntries {H : Type} : List (Lit × DataW H) → Nat
  | [] => 0
  | x :: r => uptoBulkEntry x + uptoBulkEntries r
def uptoBulkEntry {H : Type} : Lit × DataW H → Nat
  | (.string bytes, d) => bytes.length + uptoBulk d + 1
  | (_, d) => uptoBulk d + 1
 end
def uptoSmall : (H : Type) → List (DataW H) → Bool := fun _ ds => decide (uptoBulkAll ds ≤ 1048576)
def OpenSpec.upto (s : _root_.Go.ChangeSpec) : _root_.Go.OpenSpec := { _root_.Go.OpenSpec.ofChange s with cond := some uptoSmall }

/-- 'kinlaw.Runs', WHERE WHAT IT READS IS OF BULK AT MOST 1048576: true; the input reads as it did. -/
def runsUptoRow : OpenClaim := { program := "ytkghmgoefiepeaagreatdoor", sum := "8970482383dc813bde7ea8f67102ea825d54757b50eb8daf412512ae7b3f2f1f", func := "kin/kinlaw.Runs", spec := "runs", unfollowed := true, recurses := true, named := ["kin/kin.classHeads", "kin/kin.plainWords", "kin/kin.effects"], apart := false, laid := [("kin/kin.plainWords", laid_kin_kin_plainWords), ("kin/kin.classHeads", laid_kin_kin_classHeads), ("kin/kin.effects", laid_kin_kin_effects)], narrowed := true }
def RunsUptoSaid : Prop := runsUptoRow.holds Tryz.pinned (OpenSpec.upto runsSpec)

/-- 'kinlaw.Unseen', WHERE WHAT IT READS IS OF BULK AT MOST 1048576: true; the input reads as it did. -/
def unseenUptoRow : OpenClaim := { program := "ytkghmgoefiepeaagreatdoor", sum := "8970482383dc813bde7ea8f67102ea825d54757b50eb8daf412512ae7b3f2f1f", func := "kin/kinlaw.Unseen", spec := "unseen", unfollowed := true, recurses := true, named := ["kin/kin.classHeads", "kin/kin.plainWords", "kin/kin.effects"], apart := false, laid := [("kin/kin.plainWords", laid_kin_kin_plainWords), ("kin/kin.classHeads", laid_kin_kin_classHeads), ("kin/kin.effects", laid_kin_kin_effects)], narrowed := true }
def UnseenUptoSaid : Prop := unseenUptoRow.holds Tryz.pinned (OpenSpec.upto unseenSpec)

/-- 'kinlaw.Refused', WHERE WHAT IT READS IS OF BULK AT MOST 1048576: true; the input reads as it did. -/
def refusedUptoRow : OpenClaim := { program := "ytkghmgoefiepeaagreatdoor", sum := "8970482383dc813bde7ea8f67102ea825d54757b50eb8daf412512ae7b3f2f1f", func := "kin/kinlaw.Refused", spec := "refused", unfollowed := true, recurses := true, named := ["kin/kin.classHeads", "kin/kin.plainWords", "kin/kin.effects"], apart := false, laid := [("kin/kin.plainWords", laid_kin_kin_plainWords), ("kin/kin.classHeads", laid_kin_kin_classHeads), ("kin/kin.effects", laid_kin_kin_effects)], narrowed := true }
def RefusedUptoSaid : Prop := refusedUptoRow.holds Tryz.pinned (OpenSpec.upto refusedSpec)

/-- 'kinlaw.Deeper', WHERE WHAT IT READS IS OF BULK AT MOST 1048576: true; the input reads as it did. -/
def deeperUptoRow : OpenClaim := { program := "ytkghmgoefiepeaagreatdoor", sum := "8970482383dc813bde7ea8f67102ea825d54757b50eb8daf412512ae7b3f2f1f", func := "kin/kinlaw.Deeper", spec := "deeper", unfollowed := true, recurses := true, named := ["kin/kin.classHeads", "kin/kin.plainWords", "kin/kin.effects"], apart := false, laid := [("kin/kin.plainWords", laid_kin_kin_plainWords), ("kin/kin.classHeads", laid_kin_kin_classHeads), ("kin/kin.effects", laid_kin_kin_effects)], narrowed := true }
def DeeperUptoSaid : Prop := deeperUptoRow.holds Tryz.pinned (OpenSpec.upto deeperSpec)

end Rows
end Go.Proofs.YtkghmgoefiepeaaGreatDoor
