/-
  DERIVED. GIVEN WITH THE SEED: THE CARDS: each row of YticckgmkhgnmfaaDoorRows.lean that lists a variable, with what it lists TIED to the program's text (the seventh form; the later family's looks); each row that meets fmt, with fmt's text TOLD by the authors' own Lean function (tested against real Go, not proved from fmt's source: count such statements apart). THE CARD IS WHAT COUNTS. Prove the row's statement (the work); the ties are given (YticckgmkhgnmfaaDoorTie.lean); close each card by the builder's one call (the guide's Derived/Test/ToyasCard.lean, 'card_holds'). Laid BY PROGRAM, IN A SANDBOX (cutbox-door.mjs). By AI agents, Wed Nov 11 2026. No macro, syntax, notation, axiom, sorry.
-/
import Derived.Test.YticckgmkhgnmfaaDoorRows
import GoSem.ClaimSeven
namespace Go.Proofs.YticckgmkhgnmfaaDoor
namespace Rows

/-- THE TIED CARD OF 'laws.FnExactNewCluster'. -/
def fnExactNewClusterCard : Claim7 := { stood := { row := fnExactNewClusterRow, standIns := [], harness := (true, "9c8f2471ba1027559cee10578099c28a27c4447c2321f5c5211222504034dbb4"), looks := true }, kinds := [], alts := [], laidByText := true, laidKinds := [.sentinel], laidTests := true, laidLooks := .later }
def FnExactNewClusterCardSaid : Prop := Claim7.holds Tryd.pinned (.plain (OpenSpec.ofChange fnExactNewClusterSpec)) fnExactNewClusterCard

/-- THE TIED CARD OF 'laws.FnExactTrue'. -/
def fnExactTrueCard : Claim7 := { stood := { row := fnExactTrueRow, standIns := [], harness := (true, "9c8f2471ba1027559cee10578099c28a27c4447c2321f5c5211222504034dbb4"), looks := true }, kinds := [], alts := [], laidByText := true, laidKinds := [.data, .data, .data], laidTests := true, laidLooks := .later }
def FnExactTrueCardSaid : Prop := Claim7.holds Tryd.pinned (.plain (OpenSpec.ofChange fnExactTrueSpec)) fnExactTrueCard

/-- THE SECOND FORM's CARD OF 'laws.FnExactNewCluster'. -/
def fnExactNewClusterUptoCard : Claim7 := { stood := { row := fnExactNewClusterUptoRow, standIns := [], harness := (true, "9c8f2471ba1027559cee10578099c28a27c4447c2321f5c5211222504034dbb4"), looks := true }, kinds := [], alts := [], laidByText := true, laidKinds := [.sentinel], laidTests := true, laidLooks := .later }
def FnExactNewClusterUptoCardSaid : Prop := Claim7.holds Tryd.pinned (.plain (OpenSpec.upto fnExactNewClusterSpec)) fnExactNewClusterUptoCard

/-- THE SECOND FORM's CARD OF 'laws.FnExactTrue'. -/
def fnExactTrueUptoCard : Claim7 := { stood := { row := fnExactTrueUptoRow, standIns := [], harness := (true, "9c8f2471ba1027559cee10578099c28a27c4447c2321f5c5211222504034dbb4"), looks := true }, kinds := [], alts := [], laidByText := true, laidKinds := [.data, .data, .data], laidTests := true, laidLooks := .later }
def FnExactTrueUptoCardSaid : Prop := Claim7.holds Tryd.pinned (.plain (OpenSpec.upto fnExactTrueSpec)) fnExactTrueUptoCard
end Rows
end Go.Proofs.YticckgmkhgnmfaaDoor
