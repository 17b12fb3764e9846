/-
  DERIVED. GIVEN WITH THE SEED: THE CARDS: each row of YtkghmgoefiepeaaGreatDoorRows.lean that lists a variable, with what it lists TIED to the program's text (the seventh form; the later family's looks); each row that meets fmt, with fmt's text TOLD by the authors' own Lean function (tested against real Go, not proved from fmt's source: count such statements apart). THE CARD IS WHAT COUNTS. Prove the row's statement (the work); the ties are given (YtkghmgoefiepeaaGreatDoorTie.lean); close each card by the builder's one call (the guide's Derived/Test/ToyasCard.lean, 'card_holds'). Laid BY PROGRAM, IN A SANDBOX (cutbox-door.mjs). By AI agents, Wed Nov 11 2026. No macro, syntax, notation, axiom, sorry.
-/
import Derived.Test.YtkghmgoefiepeaaGreatDoorRows
import GoSem.ClaimSeven
namespace Go.Proofs.YtkghmgoefiepeaaGreatDoor
namespace Rows

/-- THE TIED CARD OF 'kinlaw.Runs'. -/
def runsCard : Claim7 := { stood := { row := runsRow, standIns := [], harness := (true, "0d59a4a332c927354d073a6beeb0066784f55666aeb5ae984c1f23e05fcc868e"), looks := true }, kinds := [], alts := [], laidByText := true, laidKinds := [.data, .data, .data], laidTests := true, laidLooks := .later }
def RunsCardSaid : Prop := Claim7.holds Tryz.pinned (.plain (OpenSpec.ofChange runsSpec)) runsCard

/-- THE TIED CARD OF 'kinlaw.Unseen'. -/
def unseenCard : Claim7 := { stood := { row := unseenRow, standIns := [], harness := (true, "0d59a4a332c927354d073a6beeb0066784f55666aeb5ae984c1f23e05fcc868e"), looks := true }, kinds := [], alts := [], laidByText := true, laidKinds := [.data, .data, .data], laidTests := true, laidLooks := .later }
def UnseenCardSaid : Prop := Claim7.holds Tryz.pinned (.plain (OpenSpec.ofChange unseenSpec)) unseenCard

/-- THE TIED CARD OF 'kinlaw.Refused'. -/
def refusedCard : Claim7 := { stood := { row := refusedRow, standIns := [], harness := (true, "0d59a4a332c927354d073a6beeb0066784f55666aeb5ae984c1f23e05fcc868e"), looks := true }, kinds := [], alts := [], laidByText := true, laidKinds := [.data, .data, .data], laidTests := true, laidLooks := .later }
def RefusedCardSaid : Prop := Claim7.holds Tryz.pinned (.plain (OpenSpec.ofChange refusedSpec)) refusedCard

/-- THE TIED CARD OF 'kinlaw.Deeper'. -/
def deeperCard : Claim7 := { stood := { row := deeperRow, standIns := [], harness := (true, "0d59a4a332c927354d073a6beeb0066784f55666aeb5ae984c1f23e05fcc868e"), looks := true }, kinds := [], alts := [], laidByText := true, laidKinds := [.data, .data, .data], laidTests := true, laidLooks := .later }
def DeeperCardSaid : Prop := Claim7.holds Tryz.pinned (.plain (OpenSpec.ofChange deeperSpec)) deeperCard

/-- THE SECOND FORM's CARD OF 'kinlaw.Runs'. -/
def runsUptoCard : Claim7 := { stood := { row := runsUptoRow, standIns := [], harness := (true, "0d59a4a332c927354d073a6beeb0066784f55666aeb5ae984c1f23e05fcc868e"), looks := true }, kinds := [], alts := [], laidByText := true, laidKinds := [.data, .data, .data], laidTests := true, laidLooks := .later }
def RunsUptoCardSaid : Prop := Claim7.holds Tryz.pinned (.plain (OpenSpec.upto runsSpec)) runsUptoCard

/-- THE SECOND FORM's CARD OF 'kinlaw.Unseen'. -/
def unseenUptoCard : Claim7 := { stood := { row := unseenUptoRow, standIns := [], harness := (true, "0d59a4a332c927354d073a6beeb0066784f55666aeb5ae984c1f23e05fcc868e"), looks := true }, kinds := [], alts := [], laidByText := true, laidKinds := [.data, .data, .data], laidTests := true, laidLooks := .later }
def UnseenUptoCardSaid : Prop := Claim7.holds Tryz.pinned (.plain (OpenSpec.upto unseenSpec)) unseenUptoCard

/-- THE SECOND FORM's CARD OF 'kinlaw.Refused'. -/
def refusedUptoCard : Claim7 := { stood := { row := refusedUptoRow, standIns := [], harness := (true, "0d59a4a332c927354d073a6beeb0066784f55666aeb5ae984c1f23e05fcc868e"), looks := true }, kinds := [], alts := [], laidByText := true, laidKinds := [.data, .data, .data], laidTests := true, laidLooks := .later }
def RefusedUptoCardSaid : Prop := Claim7.holds Tryz.pinned (.plain (OpenSpec.upto refusedSpec)) refusedUptoCard

/-- THE SECOND FORM's CARD OF 'kinlaw.Deeper'. -/
def deeperUptoCard : Claim7 := { stood := { row := deeperUptoRow, standIns := [], harness := (true, "0d59a4a332c927354d073a6beeb0066784f55666aeb5ae984c1f23e05fcc868e"), looks := true }, kinds := [], alts := [], laidByText := true, laidKinds := [.data, .data, .data], laidTests := true, laidLooks := .later }
def DeeperUptoCardSaid : Prop := Claim7.holds Tryz.pinned (.plain (OpenSpec.upto deeperSpec)) deeperUptoCard
end Rows
end Go.Proofs.YtkghmgoefiepeaaGreatDoor
