/-
  DERIVED. GIVEN WITH THE SEED: THE CARDS: each row of YtaaidlcjlplbpaaDoorRows.lean that lists a variable, with what it lists TIED to the program's text (the seventh form; the later family's looks); each row that meets fmt, with fmt's text TOLD by the authors' own Lean function (tested against real Go, not proved from fmt's source: count such statements apart). THE CARD IS WHAT COUNTS. Prove the row's statement (the work); the ties are given (YtaaidlcjlplbpaaDoorTie.lean); close each card by the builder's one call (the guide's Derived/Test/ToyasCard.lean, 'card_holds'). Laid BY PROGRAM, IN A SANDBOX (cutbox-door.mjs). By AI agents, Wed Nov 11 2026. No macro, syntax, notation, axiom, sorry.
-/
import Derived.Test.YtaaidlcjlplbpaaDoorRows
import GoSem.ClaimSeven
namespace Go.Proofs.YtaaidlcjlplbpaaDoor
namespace Rows

/-- THE TIED CARD OF 'kinlaw.Reads'. -/
def readsCard : Claim7 := { stood := { row := readsRow, standIns := [], harness := (true, "e05052f02848a6197e781ff8600dc30ad3c223f48c0a279ce3c534198c53b2f8"), looks := true }, kinds := [], alts := [], laidByText := true, laidKinds := [.data, .data, .data], laidTests := true, laidLooks := .later }
def ReadsCardSaid : Prop := Claim7.holds Tryd.pinned (.plain (OpenSpec.ofChange readsSpec)) readsCard

/-- THE TIED CARD OF 'kinlaw.Unseen'. -/
def unseenCard : Claim7 := { stood := { row := unseenRow, standIns := [], harness := (true, "e05052f02848a6197e781ff8600dc30ad3c223f48c0a279ce3c534198c53b2f8"), looks := true }, kinds := [], alts := [], laidByText := true, laidKinds := [.data, .data, .data], laidTests := true, laidLooks := .later }
def UnseenCardSaid : Prop := Claim7.holds Tryd.pinned (.plain (OpenSpec.ofChange unseenSpec)) unseenCard

/-- THE TIED CARD OF 'kinlaw.Refused'. -/
def refusedCard : Claim7 := { stood := { row := refusedRow, standIns := [], harness := (true, "e05052f02848a6197e781ff8600dc30ad3c223f48c0a279ce3c534198c53b2f8"), looks := true }, kinds := [], alts := [], laidByText := true, laidKinds := [.data, .data, .data], laidTests := true, laidLooks := .later }
def RefusedCardSaid : Prop := Claim7.holds Tryd.pinned (.plain (OpenSpec.ofChange refusedSpec)) refusedCard

/-- THE TIED CARD OF 'kinlaw.Deeper'. -/
def deeperCard : Claim7 := { stood := { row := deeperRow, standIns := [], harness := (true, "e05052f02848a6197e781ff8600dc30ad3c223f48c0a279ce3c534198c53b2f8"), looks := true }, kinds := [], alts := [], laidByText := true, laidKinds := [.data, .data, .data], laidTests := true, laidLooks := .later }
def DeeperCardSaid : Prop := Claim7.holds Tryd.pinned (.plain (OpenSpec.ofChange deeperSpec)) deeperCard

/-- THE SECOND FORM's CARD OF 'kinlaw.Reads'. -/
def readsUptoCard : Claim7 := { stood := { row := readsUptoRow, standIns := [], harness := (true, "e05052f02848a6197e781ff8600dc30ad3c223f48c0a279ce3c534198c53b2f8"), looks := true }, kinds := [], alts := [], laidByText := true, laidKinds := [.data, .data, .data], laidTests := true, laidLooks := .later }
def ReadsUptoCardSaid : Prop := Claim7.holds Tryd.pinned (.plain (OpenSpec.upto readsSpec)) readsUptoCard

/-- THE SECOND FORM's CARD OF 'kinlaw.Unseen'. -/
def unseenUptoCard : Claim7 := { stood := { row := unseenUptoRow, standIns := [], harness := (true, "e05052f02848a6197e781ff8600dc30ad3c223f48c0a279ce3c534198c53b2f8"), looks := true }, kinds := [], alts := [], laidByText := true, laidKinds := [.data, .data, .data], laidTests := true, laidLooks := .later }
def UnseenUptoCardSaid : Prop := Claim7.holds Tryd.pinned (.plain (OpenSpec.upto unseenSpec)) unseenUptoCard

/-- THE SECOND FORM's CARD OF 'kinlaw.Refused'. -/
def refusedUptoCard : Claim7 := { stood := { row := refusedUptoRow, standIns := [], harness := (true, "e05052f02848a6197e781ff8600dc30ad3c223f48c0a279ce3c534198c53b2f8"), looks := true }, kinds := [], alts := [], laidByText := true, laidKinds := [.data, .data, .data], laidTests := true, laidLooks := .later }
def RefusedUptoCardSaid : Prop := Claim7.holds Tryd.pinned (.plain (OpenSpec.upto refusedSpec)) refusedUptoCard

/-- THE SECOND FORM's CARD OF 'kinlaw.Deeper'. -/
def deeperUptoCard : Claim7 := { stood := { row := deeperUptoRow, standIns := [], harness := (true, "e05052f02848a6197e781ff8600dc30ad3c223f48c0a279ce3c534198c53b2f8"), looks := true }, kinds := [], alts := [], laidByText := true, laidKinds := [.data, .data, .data], laidTests := true, laidLooks := .later }
def DeeperUptoCardSaid : Prop := Claim7.holds Tryd.pinned (.plain (OpenSpec.upto deeperSpec)) deeperUptoCard
end Rows
end Go.Proofs.YtaaidlcjlplbpaaDoor
