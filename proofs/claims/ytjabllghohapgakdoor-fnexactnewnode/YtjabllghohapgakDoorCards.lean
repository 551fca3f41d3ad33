/-
  DERIVED. GIVEN WITH THE SEED: THE CARDS: each row of YtjabllghohapgakDoorRows.lean that lists a variable, with what it lists TIED to the program's text (the seventh form; the later family's looks); each row that meets fmt, with fmt's text TOLD by the authors' own Lean function (tested against real Go, not proved from fmt's source: count such statements apart). THE CARD IS WHAT COUNTS. Prove the row's statement (the work); the ties are given (YtjabllghohapgakDoorTie.lean); close each card by the builder's one call (the guide's Derived/Test/ToyasCard.lean, 'card_holds'). Laid BY PROGRAM, IN A SANDBOX (cutbox-door.mjs). By AI agents, Wed Nov 11 2026. No macro, syntax, notation, axiom, sorry.
-/
import Derived.Test.YtjabllghohapgakDoorRows
import GoSem.ClaimSeven
namespace Go.Proofs.YtjabllghohapgakDoor
namespace Rows

/-- THE TIED CARD OF 'laws.FnExactMerge'. -/
def fnExactMergeCard : Claim7 := { stood := { row := fnExactMergeRow, standIns := [], harness := (true, "d15c1738d5916fd9b996873f9058dcf6b549dd3e92e1e523fd546460b5e3b7d1"), looks := true }, kinds := [], alts := [], laidByText := true, laidKinds := [.handle, .sentinel, .sentinel, .sentinel], laidTests := true, laidLooks := .later }
def FnExactMergeCardSaid : Prop := Claim7.holds Tryd.pinned (.plain (OpenSpec.ofChange fnExactMergeSpec)) fnExactMergeCard

/-- THE TIED CARD OF 'laws.FnExactNodeOk'. -/
def fnExactNodeOkCard : Claim7 := { stood := { row := fnExactNodeOkRow, standIns := [], harness := (true, "d15c1738d5916fd9b996873f9058dcf6b549dd3e92e1e523fd546460b5e3b7d1"), looks := true }, kinds := [], alts := [], laidByText := true, laidKinds := [.sentinel], laidTests := true, laidLooks := .later }
def FnExactNodeOkCardSaid : Prop := Claim7.holds Tryd.pinned (.plain (OpenSpec.ofChange fnExactNodeOkSpec)) fnExactNodeOkCard

/-- THE TIED CARD OF 'laws.FnExactNewNode'. -/
def fnExactNewNodeCard : Claim7 := { stood := { row := fnExactNewNodeRow, standIns := [], harness := (true, "d15c1738d5916fd9b996873f9058dcf6b549dd3e92e1e523fd546460b5e3b7d1"), looks := true }, kinds := [], alts := [], laidByText := true, laidKinds := [.sentinel], laidTests := true, laidLooks := .later }
def FnExactNewNodeCardSaid : Prop := Claim7.holds Tryd.pinned (.plain (OpenSpec.ofChange fnExactNewNodeSpec)) fnExactNewNodeCard

/-- THE TIED CARD OF 'laws.FnExactBeat'. -/
def fnExactBeatCard : Claim7 := { stood := { row := fnExactBeatRow, standIns := [], harness := (true, "d15c1738d5916fd9b996873f9058dcf6b549dd3e92e1e523fd546460b5e3b7d1"), looks := true }, kinds := [], alts := [], laidByText := true, laidKinds := [.sentinel], laidTests := true, laidLooks := .later }
def FnExactBeatCardSaid : Prop := Claim7.holds Tryd.pinned (.plain (OpenSpec.ofChange fnExactBeatSpec)) fnExactBeatCard

/-- THE SECOND FORM's CARD OF 'laws.FnExactMerge'. -/
def fnExactMergeUptoCard : Claim7 := { stood := { row := fnExactMergeUptoRow, standIns := [], harness := (true, "d15c1738d5916fd9b996873f9058dcf6b549dd3e92e1e523fd546460b5e3b7d1"), looks := true }, kinds := [], alts := [], laidByText := true, laidKinds := [.handle, .sentinel, .sentinel, .sentinel], laidTests := true, laidLooks := .later }
def FnExactMergeUptoCardSaid : Prop := Claim7.holds Tryd.pinned (.plain (OpenSpec.upto fnExactMergeSpec)) fnExactMergeUptoCard

/-- THE SECOND FORM's CARD OF 'laws.FnExactNodeOk'. -/
def fnExactNodeOkUptoCard : Claim7 := { stood := { row := fnExactNodeOkUptoRow, standIns := [], harness := (true, "d15c1738d5916fd9b996873f9058dcf6b549dd3e92e1e523fd546460b5e3b7d1"), looks := true }, kinds := [], alts := [], laidByText := true, laidKinds := [.sentinel], laidTests := true, laidLooks := .later }
def FnExactNodeOkUptoCardSaid : Prop := Claim7.holds Tryd.pinned (.plain (OpenSpec.upto fnExactNodeOkSpec)) fnExactNodeOkUptoCard

/-- THE SECOND FORM's CARD OF 'laws.FnExactNewNode'. -/
def fnExactNewNodeUptoCard : Claim7 := { stood := { row := fnExactNewNodeUptoRow, standIns := [], harness := (true, "d15c1738d5916fd9b996873f9058dcf6b549dd3e92e1e523fd546460b5e3b7d1"), looks := true }, kinds := [], alts := [], laidByText := true, laidKinds := [.sentinel], laidTests := true, laidLooks := .later }
def FnExactNewNodeUptoCardSaid : Prop := Claim7.holds Tryd.pinned (.plain (OpenSpec.upto fnExactNewNodeSpec)) fnExactNewNodeUptoCard

/-- THE SECOND FORM's CARD OF 'laws.FnExactBeat'. -/
def fnExactBeatUptoCard : Claim7 := { stood := { row := fnExactBeatUptoRow, standIns := [], harness := (true, "d15c1738d5916fd9b996873f9058dcf6b549dd3e92e1e523fd546460b5e3b7d1"), looks := true }, kinds := [], alts := [], laidByText := true, laidKinds := [.sentinel], laidTests := true, laidLooks := .later }
def FnExactBeatUptoCardSaid : Prop := Claim7.holds Tryd.pinned (.plain (OpenSpec.upto fnExactBeatSpec)) fnExactBeatUptoCard
end Rows
end Go.Proofs.YtjabllghohapgakDoor
