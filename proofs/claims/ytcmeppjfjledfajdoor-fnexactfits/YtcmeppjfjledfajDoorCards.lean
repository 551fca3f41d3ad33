/-
  DERIVED. GIVEN WITH THE SEED: THE CARDS: each row of YtcmeppjfjledfajDoorRows.lean that lists a variable, with what it lists TIED to the program's text (the seventh form; the later family's looks); each row that meets fmt, with fmt's text TOLD by the authors' own Lean function (tested against real Go, not proved from fmt's source: count such statements apart). THE CARD IS WHAT COUNTS. Prove the row's statement (the work); the ties are given (YtcmeppjfjledfajDoorTie.lean); close each card by the builder's one call (the guide's Derived/Test/ToyasCard.lean, 'card_holds'). Laid BY PROGRAM, IN A SANDBOX (cutbox-door.mjs). By AI agents, Wed Nov 11 2026. No macro, syntax, notation, axiom, sorry.
-/
import Derived.Test.YtcmeppjfjledfajDoorRows
import GoSem.ClaimSeven
namespace Go.Proofs.YtcmeppjfjledfajDoor
namespace Rows

/-- THE TIED CARD OF 'laws.FnExactShowCommand'. -/
def fnExactShowCommandCard : Claim7 := { stood := { row := fnExactShowCommandRow, standIns := [], harness := (true, "eb98dfd19b647f94d0e1eabbc40ad6ea00259efc998ce15a46c609b7a5eae2a5"), looks := true }, kinds := [], alts := [], laidByText := true, laidKinds := [.data, .data, .data], laidTests := true, laidLooks := .later }
def FnExactShowCommandCardSaid : Prop := Claim7.holds Tryd.pinned (.plain (OpenSpec.ofChange fnExactShowCommandSpec)) fnExactShowCommandCard

/-- THE TIED CARD OF 'laws.FnExactLogOk'. -/
def fnExactLogOkCard : Claim7 := { stood := { row := fnExactLogOkRow, standIns := [], harness := (true, "eb98dfd19b647f94d0e1eabbc40ad6ea00259efc998ce15a46c609b7a5eae2a5"), looks := true }, kinds := [], alts := [], laidByText := true, laidKinds := [.sentinel], laidTests := true, laidLooks := .later }
def FnExactLogOkCardSaid : Prop := Claim7.holds Tryd.pinned (.plain (OpenSpec.ofChange fnExactLogOkSpec)) fnExactLogOkCard

/-- THE TIED CARD OF 'laws.FnExactFits'. -/
def fnExactFitsCard : Claim7 := { stood := { row := fnExactFitsRow, standIns := [], harness := (true, "eb98dfd19b647f94d0e1eabbc40ad6ea00259efc998ce15a46c609b7a5eae2a5"), looks := true }, kinds := [], alts := [], laidByText := true, laidKinds := [.sentinel, .sentinel, .sentinel], laidTests := true, laidLooks := .later }
def FnExactFitsCardSaid : Prop := Claim7.holds Tryd.pinned (.plain (OpenSpec.ofChange fnExactFitsSpec)) fnExactFitsCard

/-- THE SECOND FORM's CARD OF 'laws.FnExactShowCommand'. -/
def fnExactShowCommandUptoCard : Claim7 := { stood := { row := fnExactShowCommandUptoRow, standIns := [], harness := (true, "eb98dfd19b647f94d0e1eabbc40ad6ea00259efc998ce15a46c609b7a5eae2a5"), looks := true }, kinds := [], alts := [], laidByText := true, laidKinds := [.data, .data, .data], laidTests := true, laidLooks := .later }
def FnExactShowCommandUptoCardSaid : Prop := Claim7.holds Tryd.pinned (.plain (OpenSpec.upto fnExactShowCommandSpec)) fnExactShowCommandUptoCard

/-- THE SECOND FORM's CARD OF 'laws.FnExactLogOk'. -/
def fnExactLogOkUptoCard : Claim7 := { stood := { row := fnExactLogOkUptoRow, standIns := [], harness := (true, "eb98dfd19b647f94d0e1eabbc40ad6ea00259efc998ce15a46c609b7a5eae2a5"), looks := true }, kinds := [], alts := [], laidByText := true, laidKinds := [.sentinel], laidTests := true, laidLooks := .later }
def FnExactLogOkUptoCardSaid : Prop := Claim7.holds Tryd.pinned (.plain (OpenSpec.upto fnExactLogOkSpec)) fnExactLogOkUptoCard

/-- THE SECOND FORM's CARD OF 'laws.FnExactFits'. -/
def fnExactFitsUptoCard : Claim7 := { stood := { row := fnExactFitsUptoRow, standIns := [], harness := (true, "eb98dfd19b647f94d0e1eabbc40ad6ea00259efc998ce15a46c609b7a5eae2a5"), looks := true }, kinds := [], alts := [], laidByText := true, laidKinds := [.sentinel, .sentinel, .sentinel], laidTests := true, laidLooks := .later }
def FnExactFitsUptoCardSaid : Prop := Claim7.holds Tryd.pinned (.plain (OpenSpec.upto fnExactFitsSpec)) fnExactFitsUptoCard
end Rows
end Go.Proofs.YtcmeppjfjledfajDoor
