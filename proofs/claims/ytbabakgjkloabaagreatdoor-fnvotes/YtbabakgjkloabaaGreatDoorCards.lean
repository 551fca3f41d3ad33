/-
  DERIVED. GIVEN WITH THE SEED: THE CARDS: each row of YtbabakgjkloabaaGreatDoorRows.lean that lists a variable, with what it lists TIED to the program's text (the seventh form; the later family's looks); each row that meets fmt, with fmt's text TOLD by the authors' own Lean function (tested against real Go, not proved from fmt's source: count such statements apart). THE CARD IS WHAT COUNTS. Prove the row's statement (the work); the ties are given (YtbabakgjkloabaaGreatDoorTie.lean); close each card by the builder's one call (the guide's Derived/Test/ToyasCard.lean, 'card_holds'). Laid BY PROGRAM, IN A SANDBOX (cutbox-door.mjs). By AI agents, Wed Nov 11 2026. No macro, syntax, notation, axiom, sorry.
-/
import Derived.Test.YtbabakgjkloabaaGreatDoorRows
import GoSem.ClaimSeven
namespace Go.Proofs.YtbabakgjkloabaaGreatDoor
namespace Rows

/-- THE TIED CARD OF 'laws.FnVotes'. -/
def fnVotesCard : Claim7 := { stood := { row := fnVotesRow, standIns := [], harness := (true, "00f2bde7f22787d8619820ba337714b7f3734cd38eac8cf7399403b7f9a7c699"), looks := true }, kinds := [], alts := [], laidByText := true, laidKinds := [.handle, .sentinel, .sentinel, .sentinel], laidTests := true, laidLooks := .later }
def FnVotesCardSaid : Prop := Claim7.holds Tryz.pinned (.plain (OpenSpec.ofChange fnVotesSpec)) fnVotesCard

/-- THE TIED CARD OF 'laws.FnLeads'. -/
def fnLeadsCard : Claim7 := { stood := { row := fnLeadsRow, standIns := [], harness := (true, "00f2bde7f22787d8619820ba337714b7f3734cd38eac8cf7399403b7f9a7c699"), looks := true }, kinds := [], alts := [], laidByText := true, laidKinds := [.sentinel], laidTests := true, laidLooks := .later }
def FnLeadsCardSaid : Prop := Claim7.holds Tryz.pinned (.plain (OpenSpec.ofChange fnLeadsSpec)) fnLeadsCard

/-- THE SECOND FORM's CARD OF 'laws.FnVotes'. -/
def fnVotesUptoCard : Claim7 := { stood := { row := fnVotesUptoRow, standIns := [], harness := (true, "00f2bde7f22787d8619820ba337714b7f3734cd38eac8cf7399403b7f9a7c699"), looks := true }, kinds := [], alts := [], laidByText := true, laidKinds := [.handle, .sentinel, .sentinel, .sentinel], laidTests := true, laidLooks := .later }
def FnVotesUptoCardSaid : Prop := Claim7.holds Tryz.pinned (.plain (OpenSpec.upto fnVotesSpec)) fnVotesUptoCard

/-- THE SECOND FORM's CARD OF 'laws.FnLeads'. -/
def fnLeadsUptoCard : Claim7 := { stood := { row := fnLeadsUptoRow, standIns := [], harness := (true, "00f2bde7f22787d8619820ba337714b7f3734cd38eac8cf7399403b7f9a7c699"), looks := true }, kinds := [], alts := [], laidByText := true, laidKinds := [.sentinel], laidTests := true, laidLooks := .later }
def FnLeadsUptoCardSaid : Prop := Claim7.holds Tryz.pinned (.plain (OpenSpec.upto fnLeadsSpec)) fnLeadsUptoCard
end Rows
end Go.Proofs.YtbabakgjkloabaaGreatDoor
