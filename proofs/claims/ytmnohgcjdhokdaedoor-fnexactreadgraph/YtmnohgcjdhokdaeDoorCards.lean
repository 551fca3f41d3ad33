/-
  DERIVED. GIVEN WITH THE SEED: THE CARDS: each row of YtmnohgcjdhokdaeDoorRows.lean that lists a variable, with what it lists TIED to the program's text (the seventh form; the later family's looks); each row that meets fmt, with fmt's text TOLD by the authors' own Lean function (tested against real Go, not proved from fmt's source: count such statements apart). THE CARD IS WHAT COUNTS. Prove the row's statement (the work); the ties are given (YtmnohgcjdhokdaeDoorTie.lean); close each card by the builder's one call (the guide's Derived/Test/ToyasCard.lean, 'card_holds'). Laid BY PROGRAM, IN A SANDBOX (cutbox-door.mjs). By AI agents, Wed Nov 11 2026. No macro, syntax, notation, axiom, sorry.
-/
import Derived.Test.YtmnohgcjdhokdaeDoorRows
import GoSem.ClaimSeven
namespace Go.Proofs.YtmnohgcjdhokdaeDoor
namespace Rows

/-- THE TIED CARD OF 'laws.FnExactShowGraph'. -/
def fnExactShowGraphCard : Claim7 := { stood := { row := fnExactShowGraphRow, standIns := [], harness := (true, "818944a41a0669ca1901f7a2145a3b9efcb78e717cd6f9d31630e72fb96fb76a"), looks := true }, kinds := [], alts := [], laidByText := true, laidKinds := [.data, .data, .data], laidTests := true, laidLooks := .later }
def FnExactShowGraphCardSaid : Prop := Claim7.holds Tryd.pinned (.plain (OpenSpec.ofChange fnExactShowGraphSpec)) fnExactShowGraphCard

/-- THE TIED CARD OF 'laws.FnExactReadGraph'. -/
def fnExactReadGraphCard : Claim7 := { stood := { row := fnExactReadGraphRow, standIns := [], harness := (true, "818944a41a0669ca1901f7a2145a3b9efcb78e717cd6f9d31630e72fb96fb76a"), looks := true }, kinds := [], alts := [], laidByText := true, laidKinds := [.data, .data, .data, .data, .sentinel, .sentinel, .pinned], laidTests := true, laidLooks := .later }
def FnExactReadGraphCardSaid : Prop := Claim7.holds Tryd.pinned (.plain (OpenSpec.ofChange fnExactReadGraphSpec)) fnExactReadGraphCard

/-- THE SECOND FORM's CARD OF 'laws.FnExactShowGraph'. -/
def fnExactShowGraphUptoCard : Claim7 := { stood := { row := fnExactShowGraphUptoRow, standIns := [], harness := (true, "818944a41a0669ca1901f7a2145a3b9efcb78e717cd6f9d31630e72fb96fb76a"), looks := true }, kinds := [], alts := [], laidByText := true, laidKinds := [.data, .data, .data], laidTests := true, laidLooks := .later }
def FnExactShowGraphUptoCardSaid : Prop := Claim7.holds Tryd.pinned (.plain (OpenSpec.upto fnExactShowGraphSpec)) fnExactShowGraphUptoCard

/-- THE SECOND FORM's CARD OF 'laws.FnExactReadGraph'. -/
def fnExactReadGraphUptoCard : Claim7 := { stood := { row := fnExactReadGraphUptoRow, standIns := [], harness := (true, "818944a41a0669ca1901f7a2145a3b9efcb78e717cd6f9d31630e72fb96fb76a"), looks := true }, kinds := [], alts := [], laidByText := true, laidKinds := [.data, .data, .data, .data, .sentinel, .sentinel, .pinned], laidTests := true, laidLooks := .later }
def FnExactReadGraphUptoCardSaid : Prop := Claim7.holds Tryd.pinned (.plain (OpenSpec.upto fnExactReadGraphSpec)) fnExactReadGraphUptoCard
end Rows
end Go.Proofs.YtmnohgcjdhokdaeDoor
