/-
  DERIVED. GIVEN WITH THE SEED: THE CARDS: each row of YtmnohgcjdhokdajDoorRows.lean that lists a variable, with what it lists TIED to the program's text (the seventh form; the later family's looks); each row that meets fmt, with fmt's text TOLD by the authors' own Lean function (tested against real Go, not proved from fmt's source: count such statements apart). THE CARD IS WHAT COUNTS. Prove the row's statement (the work); the ties are given (YtmnohgcjdhokdajDoorTie.lean); close each card by the builder's one call (the guide's Derived/Test/ToyasCard.lean, 'card_holds'). Laid BY PROGRAM, IN A SANDBOX (cutbox-door.mjs). By AI agents, Wed Nov 11 2026. No macro, syntax, notation, axiom, sorry.
-/
import Derived.Test.YtmnohgcjdhokdajDoorRows
import GoSem.ClaimSeven
namespace Go.Proofs.YtmnohgcjdhokdajDoor
namespace Rows

/-- THE TIED CARD OF 'laws.FnExactShowCommand'. -/
def fnExactShowCommandCard : Claim7 := { stood := { row := fnExactShowCommandRow, standIns := [], harness := (true, "ed7b67808e8164df88ad6af86327654e417e414906ed814bca283f7518440425"), looks := false }, kinds := [], alts := [], laidByText := true, laidKinds := [.data, .data, .data], laidTests := true, laidLooks := .later }
def FnExactShowCommandCardSaid : Prop := Claim7.holds Tryd.pinned (.plain (OpenSpec.ofChange fnExactShowCommandSpec)) fnExactShowCommandCard

/-- THE SECOND FORM's CARD OF 'laws.FnExactShowCommand'. -/
def fnExactShowCommandUptoCard : Claim7 := { stood := { row := fnExactShowCommandUptoRow, standIns := [], harness := (true, "ed7b67808e8164df88ad6af86327654e417e414906ed814bca283f7518440425"), looks := false }, kinds := [], alts := [], laidByText := true, laidKinds := [.data, .data, .data], laidTests := true, laidLooks := .later }
def FnExactShowCommandUptoCardSaid : Prop := Claim7.holds Tryd.pinned (.plain (OpenSpec.upto fnExactShowCommandSpec)) fnExactShowCommandUptoCard
end Rows
end Go.Proofs.YtmnohgcjdhokdajDoor
