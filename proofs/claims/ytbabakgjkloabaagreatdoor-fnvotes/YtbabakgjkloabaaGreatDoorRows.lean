/-
  NARROWER THAN 'FOR EVERY INPUT', by the rows' own cells (each row's printed sentence says how): FnVotes: ifaces, laid · FnLeads: ifaces, laid.
  DERIVED. THE GIVEN ROWS OF THIS SEAT. 2 by the template 'for every input the law returns true; each argument reads behind the call as it read before'; 0 by the template 'total and deterministic' (their statements: YtbabakgjkloabaaGreatDoorTotals.lean).
  GIVEN WITH THE SEED: the statements are not yours to turn. If you find one false, say at which input.
  Laid BY PROGRAM, IN A SANDBOX (cutbox-rows.mjs): the forced cells as the released guide's own fill.sh prints them over the translation 254a2301cd7de578… (all of the seat's roots in one cut). By AI agents, Wed Nov 11 2026. No macro, syntax, notation, axiom, sorry.
-/
import Derived.Test.YtbabakgjkloabaaGreatDoorChecked
import GoSem.Claim
import GoSem.ClaimJoined
import GoSem.ClaimMapViews
import Derived.JoinedTies
import Derived.KernelRfl
namespace Go.Proofs.YtbabakgjkloabaaGreatDoor
/- THE CELL 'sum', in the pinned program and in every row, IS THE sha256 OF THE DUMP (.gsa) THAT YtbabakgjkloabaaGreatDoorProg.lean LOADS. Nothing in Lean hashes anything: it is a label: what it is worth is what the hold of that sum in a sandbox is worth. -/
noncomputable def Tryz.pinned : Pinned := { name := "ytbabakgjkloabaagreatdoor", sum := "254a2301cd7de5782266d51df80d4b47ee73f937b963254415a8793609d5853b", checked := Tryz.checked }
namespace Rows
def none {H : Type} : Left H := { results := [], args := [] }

/- WHAT THE LISTED PACKAGE-LEVEL VARIABLES READ AS WHEN THE CALL BEGINS. Each datum BY PROGRAM (the guide's laid-datum.mjs) off the statement by which the dump's own 'gosem.cut.vars' lays the variable. In a bare row this is a premise. The card (YtbabakgjkloabaaGreatDoorCards.lean) ties it to the program's text. -/
def laid_errors_errorType {H : Type} : DataW H := .iface "internal/reflectlite.rtype" (.agg [.ptr (.lit (.string [101, 114, 114, 111, 114]))])
def laid_loop_example_g00161_impl_errNoLog {H : Type} : DataW H := .iface "*errors.errorString" (.ptr (.agg [.lit (.string [116, 104, 105, 115, 32, 109, 97, 107, 101, 115, 32, 105, 116, 32, 110, 111, 32, 108, 111, 103])]))
def laid_loop_example_g00161_impl_errNoEntry {H : Type} : DataW H := .iface "*errors.errorString" (.ptr (.agg [.lit (.string [116, 104, 101, 32, 108, 111, 103, 32, 104, 97, 115, 32, 110, 111, 32, 115, 117, 99, 104, 32, 101, 110, 116, 114, 121])]))
def laid_loop_example_g00161_impl_errOtherTerm {H : Type} : DataW H := .iface "*errors.errorString" (.ptr (.agg [.lit (.string [116, 104, 101, 32, 108, 111, 103, 32, 104, 97, 115, 32, 105, 116, 32, 119, 105, 116, 104, 32, 97, 110, 111, 116, 104, 101, 114, 32, 84, 101, 114, 109])]))

/-- 'laws.FnVotes': WHATEVER THE INPUT: true; the input reads as it did. -/
def fnVotesSpec : ChangeSpec := { name := "fnVotes", vars := ["loop.example/g00161/impl.errNoLog", "loop.example/g00161/impl.errOtherTerm", "loop.example/g00161/impl.errNoEntry"], fn := fun _ => fun
  | [d, g1, g2, g3] => { results := [.lit (.bool true)], args := [d], vars := [g1, g2, g3] }
  | _ => none }
def fnVotesRow : OpenClaim := { program := "ytbabakgjkloabaagreatdoor", sum := "254a2301cd7de5782266d51df80d4b47ee73f937b963254415a8793609d5853b", func := "loop.example/g00161/laws.FnVotes", spec := "fnVotes", inPlace := ["internal/reflectlite.TypeOf", "slices.overlaps[int64]", "internal/reflectlite.ValueOf", "(internal/reflectlite.Value).Type", "(internal/reflectlite.Value).IsNil", "(internal/reflectlite.Value).Elem", "(internal/reflectlite.Value).Set"], unfollowed := true, recurses := true, named := ["loop.example/g00161/impl.errNoLog", "loop.example/g00161/impl.errOtherTerm", "loop.example/g00161/impl.errNoEntry", "errors.errorType"], ifaces := true, apart := false, laid := [("errors.errorType", laid_errors_errorType), ("loop.example/g00161/impl.errNoLog", laid_loop_example_g00161_impl_errNoLog), ("loop.example/g00161/impl.errNoEntry", laid_loop_example_g00161_impl_errNoEntry), ("loop.example/g00161/impl.errOtherTerm", laid_loop_example_g00161_impl_errOtherTerm)] }
def FnVotesSaid : Prop := fnVotesRow.holds Tryz.pinned (OpenSpec.ofChange fnVotesSpec)

/-- ITS FALSE NEIGHBOUR: 'it returns false'. Refute it at one input. -/
def fnVotesWrong : ChangeSpec := { name := "fnVotes", vars := ["loop.example/g00161/impl.errNoLog", "loop.example/g00161/impl.errOtherTerm", "loop.example/g00161/impl.errNoEntry"], fn := fun _ => fun
  | [d, g1, g2, g3] => { results := [.lit (.bool false)], args := [d], vars := [g1, g2, g3] }
  | _ => none }
def FnVotesWrongFalsely : Prop := fnVotesRow.holds Tryz.pinned (OpenSpec.ofChange fnVotesWrong)

/-- 'laws.FnLeads': WHATEVER THE INPUT: true; the input reads as it did. -/
def fnLeadsSpec : ChangeSpec := { name := "fnLeads", vars := ["loop.example/g00161/impl.errNoLog"], fn := fun _ => fun
  | [d, g1] => { results := [.lit (.bool true)], args := [d], vars := [g1] }
  | _ => none }
def fnLeadsRow : OpenClaim := { program := "ytbabakgjkloabaagreatdoor", sum := "254a2301cd7de5782266d51df80d4b47ee73f937b963254415a8793609d5853b", func := "loop.example/g00161/laws.FnLeads", spec := "fnLeads", inPlace := ["internal/reflectlite.TypeOf"], unfollowed := true, recurses := true, named := ["loop.example/g00161/impl.errNoLog"], ifaces := true, apart := false, laid := [("loop.example/g00161/impl.errNoLog", laid_loop_example_g00161_impl_errNoLog)] }
def FnLeadsSaid : Prop := fnLeadsRow.holds Tryz.pinned (OpenSpec.ofChange fnLeadsSpec)

/-- ITS FALSE NEIGHBOUR: 'it returns false'. Refute it at one input. -/
def fnLeadsWrong : ChangeSpec := { name := "fnLeads", vars := ["loop.example/g00161/impl.errNoLog"], fn := fun _ => fun
  | [d, g1] => { results := [.lit (.bool false)], args := [d], vars := [g1] }
  | _ => none }
def FnLeadsWrongFalsely : Prop := fnLeadsRow.holds Tryz.pinned (OpenSpec.ofChange fnLeadsWrong)

/- THE SECOND FORM. 'bulk': how many values and letters a reading holds, each counted each time it is reached (what is shared counts as often as it is met; a slice's spare places count too). A statement '..UptoSaid' is the law's where the arguments, and the package variables that the reading takes, are together of bulk at most 1048576: NARROWER than '..Said'. Prove '..Said' where nothing that the law and all that it calls make is longer than what came in: it says more and counts as full. Else prove '..UptoSaid'. A law counts once. -/
mutual
def uptoBulk {H : Type} : DataW H → Nat
  | .lit (.string bytes) => bytes.length + 1
  | .lit _ => 1
  | .nil => 1
  | .ptr d => uptoBulk d + 1
  | .slice elems spare => uptoBulkAll elems + uptoBulkAll spare + 1
  | .agg parts => uptoBulkAll parts + 1
  | .iface _ d => uptoBulk d + 1
  | .map entries => uptoBulkEntries entries + 1
  | .held _ => 1
def uptoBulkAll {H : Type} : List (DataW H) → Nat
  | [] => 0
  | d :: r => uptoBulk d + uptoBulkAll r
def uptoBulkEntries {H : Type} : List (Lit × DataW H) → Nat
  | [] => 0
  | x :: r => uptoBulkEntry x + uptoBulkEntries r
def uptoBulkEntry {H : Type} : Lit × DataW H → Nat
  | (.string bytes, d) => bytes.length + uptoBulk d + 1
  | (_, d) => uptoBulk d + 1
 end
def uptoSmall : (H : Type) → List (DataW H) → Bool := fun _ ds => decide (uptoBulkAll ds ≤ 1048576)
def OpenSpec.upto (s : _root_.Go.ChangeSpec) : _root_.Go.OpenSpec := { _root_.Go.OpenSpec.ofChange s with cond := some uptoSmall }

/-- 'laws.FnVotes', WHERE WHAT IT READS IS OF BULK AT MOST 1048576: true; the input reads as it did. -/
def fnVotesUptoRow : OpenClaim := { program := "ytbabakgjkloabaagreatdoor", sum := "254a2301cd7de5782266d51df80d4b47ee73f937b963254415a8793609d5853b", func := "loop.example/g00161/laws.FnVotes", spec := "fnVotes", inPlace := ["internal/reflectlite.TypeOf", "slices.overlaps[int64]", "internal/reflectlite.ValueOf", "(internal/reflectlite.Value).Type", "(internal/reflectlite.Value).IsNil", "(internal/reflectlite.Value).Elem", "(internal/reflectlite.Value).Set"], unfollowed := true, recurses := true, named := ["loop.example/g00161/impl.errNoLog", "loop.example/g00161/impl.errOtherTerm", "loop.example/g00161/impl.errNoEntry", "errors.errorType"], ifaces := true, apart := false, laid := [("errors.errorType", laid_errors_errorType), ("loop.example/g00161/impl.errNoLog", laid_loop_example_g00161_impl_errNoLog), ("loop.example/g00161/impl.errNoEntry", laid_loop_example_g00161_impl_errNoEntry), ("loop.example/g00161/impl.errOtherTerm", laid_loop_example_g00161_impl_errOtherTerm)], narrowed := true }
def FnVotesUptoSaid : Prop := fnVotesUptoRow.holds Tryz.pinned (OpenSpec.upto fnVotesSpec)

/-- 'laws.FnLeads', WHERE WHAT IT READS IS OF BULK AT MOST 1048576: true; the input reads as it did. -/
def fnLeadsUptoRow : OpenClaim := { program := "ytbabakgjkloabaagreatdoor", sum := "254a2301cd7de5782266d51df80d4b47ee73f937b963254415a8793609d5853b", func := "loop.example/g00161/laws.FnLeads", spec := "fnLeads", inPlace := ["internal/reflectlite.TypeOf"], unfollowed := true, recurses := true, named := ["loop.example/g00161/impl.errNoLog"], ifaces := true, apart := false, laid := [("loop.example/g00161/impl.errNoLog", laid_loop_example_g00161_impl_errNoLog)], narrowed := true }
def FnLeadsUptoSaid : Prop := fnLeadsUptoRow.holds Tryz.pinned (OpenSpec.upto fnLeadsSpec)

end Rows
end Go.Proofs.YtbabakgjkloabaaGreatDoor
