/-
  NARROWER THAN 'FOR EVERY INPUT', by the rows' own cells (each row's printed sentence says how): FnExactMerge: ifaces, laid · FnExactNodeOk: ifaces, laid · FnExactNewNode: ifaces, laid · FnExactBeat: ifaces, laid.
  DERIVED. THE GIVEN ROWS OF THIS SEAT. 4 by the template 'for every input the law returns true; each argument reads behind the call as it read before'; 0 by the template 'total and deterministic' (their statements: YtjabllghohapgakDoorTotals.lean).
  GIVEN WITH THE SEED: the statements are not yours to turn. If you find one false, say at which input.
  Laid BY PROGRAM, IN A SANDBOX (cutbox-rows.mjs): the forced cells as the released guide's own fill.sh prints them over the translation e6205a8fc421ba2a… (all of the seat's roots in one cut). By AI agents, Wed Nov 11 2026. No macro, syntax, notation, axiom, sorry.
-/
import Derived.Test.YtjabllghohapgakDoorChecked
import GoSem.Claim
import GoSem.ClaimJoined
import GoSem.ClaimMapViews
import Derived.JoinedTies
import Derived.KernelRfl
namespace Go.Proofs.YtjabllghohapgakDoor
/- THE CELL 'sum', in the pinned program and in every row, IS THE sha256 OF THE DUMP (.gsa) THAT YtjabllghohapgakDoorProg.lean LOADS. Nothing in Lean hashes anything: it is a label: what it is worth is what the hold of that sum in a sandbox is worth. -/
noncomputable def Tryd.pinned : Pinned := { name := "ytjabllghohapgakdoor", sum := "e6205a8fc421ba2ac942705f937929798c47b03fe456c5d9b2a15f917e296a07", checked := Tryd.checked }
namespace Rows
def none {H : Type} : Left H := { results := [], args := [] }

/- WHAT THE LISTED PACKAGE-LEVEL VARIABLES READ AS WHEN THE CALL BEGINS. Each datum BY PROGRAM (the guide's laid-datum.mjs) off the statement by which the dump's own 'gosem.cut.vars' lays the variable. In a bare row this is a premise. The card (YtjabllghohapgakDoorCards.lean) ties it to the program's text. -/
def laid_errors_errorType {H : Type} : DataW H := .iface "internal/reflectlite.rtype" (.agg [.ptr (.lit (.string [101, 114, 114, 111, 114]))])
def laid_loop_example_g00161_impl_errNoLog {H : Type} : DataW H := .iface "*errors.errorString" (.ptr (.agg [.lit (.string [116, 104, 105, 115, 32, 109, 97, 107, 101, 115, 32, 105, 116, 32, 110, 111, 32, 108, 111, 103])]))
def laid_loop_example_g00161_impl_errNoEntry {H : Type} : DataW H := .iface "*errors.errorString" (.ptr (.agg [.lit (.string [116, 104, 101, 32, 108, 111, 103, 32, 104, 97, 115, 32, 110, 111, 32, 115, 117, 99, 104, 32, 101, 110, 116, 114, 121])]))
def laid_loop_example_g00161_impl_errOtherTerm {H : Type} : DataW H := .iface "*errors.errorString" (.ptr (.agg [.lit (.string [116, 104, 101, 32, 108, 111, 103, 32, 104, 97, 115, 32, 105, 116, 32, 119, 105, 116, 104, 32, 97, 110, 111, 116, 104, 101, 114, 32, 84, 101, 114, 109])]))

/-- 'laws.FnExactMerge': WHATEVER THE INPUT: true; the input reads as it did. -/
def fnExactMergeSpec : ChangeSpec := { name := "fnExactMerge", vars := ["loop.example/g00161/impl.errNoEntry", "loop.example/g00161/impl.errNoLog", "loop.example/g00161/impl.errOtherTerm"], fn := fun _ => fun
  | [d1, d2, d3, g1, g2, g3] => { results := [.lit (.bool true)], args := [d1, d2, d3], vars := [g1, g2, g3] }
  | _ => none }
def fnExactMergeRow : OpenClaim := { program := "ytjabllghohapgakdoor", sum := "e6205a8fc421ba2ac942705f937929798c47b03fe456c5d9b2a15f917e296a07", func := "loop.example/g00161/laws.FnExactMerge", spec := "fnExactMerge", inPlace := ["internal/reflectlite.TypeOf", "internal/reflectlite.ValueOf", "(internal/reflectlite.Value).Type", "(internal/reflectlite.Value).IsNil", "(internal/reflectlite.Value).Elem", "(internal/reflectlite.Value).Set"], unfollowed := true, recurses := true, named := ["loop.example/g00161/impl.errNoEntry", "loop.example/g00161/impl.errNoLog", "loop.example/g00161/impl.errOtherTerm", "errors.errorType"], ifaces := true, apart := false, laid := [("errors.errorType", laid_errors_errorType), ("loop.example/g00161/impl.errNoLog", laid_loop_example_g00161_impl_errNoLog), ("loop.example/g00161/impl.errNoEntry", laid_loop_example_g00161_impl_errNoEntry), ("loop.example/g00161/impl.errOtherTerm", laid_loop_example_g00161_impl_errOtherTerm)] }
def FnExactMergeSaid : Prop := fnExactMergeRow.holds Tryd.pinned (OpenSpec.ofChange fnExactMergeSpec)

/-- ITS FALSE NEIGHBOUR: 'it returns false'. Refute it at one input. -/
def fnExactMergeWrong : ChangeSpec := { name := "fnExactMerge", vars := ["loop.example/g00161/impl.errNoEntry", "loop.example/g00161/impl.errNoLog", "loop.example/g00161/impl.errOtherTerm"], fn := fun _ => fun
  | [d1, d2, d3, g1, g2, g3] => { results := [.lit (.bool false)], args := [d1, d2, d3], vars := [g1, g2, g3] }
  | _ => none }
def FnExactMergeWrongFalsely : Prop := fnExactMergeRow.holds Tryd.pinned (OpenSpec.ofChange fnExactMergeWrong)

/-- 'laws.FnExactNodeOk': WHATEVER THE INPUT: true; the input reads as it did. -/
def fnExactNodeOkSpec : ChangeSpec := { name := "fnExactNodeOk", vars := ["loop.example/g00161/impl.errNoLog"], fn := fun _ => fun
  | [d, g1] => { results := [.lit (.bool true)], args := [d], vars := [g1] }
  | _ => none }
def fnExactNodeOkRow : OpenClaim := { program := "ytjabllghohapgakdoor", sum := "e6205a8fc421ba2ac942705f937929798c47b03fe456c5d9b2a15f917e296a07", func := "loop.example/g00161/laws.FnExactNodeOk", spec := "fnExactNodeOk", inPlace := ["internal/reflectlite.TypeOf"], unfollowed := true, recurses := true, named := ["loop.example/g00161/impl.errNoLog"], ifaces := true, apart := false, laid := [("loop.example/g00161/impl.errNoLog", laid_loop_example_g00161_impl_errNoLog)] }
def FnExactNodeOkSaid : Prop := fnExactNodeOkRow.holds Tryd.pinned (OpenSpec.ofChange fnExactNodeOkSpec)

/-- ITS FALSE NEIGHBOUR: 'it returns false'. Refute it at one input. -/
def fnExactNodeOkWrong : ChangeSpec := { name := "fnExactNodeOk", vars := ["loop.example/g00161/impl.errNoLog"], fn := fun _ => fun
  | [d, g1] => { results := [.lit (.bool false)], args := [d], vars := [g1] }
  | _ => none }
def FnExactNodeOkWrongFalsely : Prop := fnExactNodeOkRow.holds Tryd.pinned (OpenSpec.ofChange fnExactNodeOkWrong)

/-- 'laws.FnExactNewNode': WHATEVER THE INPUT: true; the input reads as it did. -/
def fnExactNewNodeSpec : ChangeSpec := { name := "fnExactNewNode", vars := ["loop.example/g00161/impl.errNoLog"], fn := fun _ => fun
  | [d1, d2, g1] => { results := [.lit (.bool true)], args := [d1, d2], vars := [g1] }
  | _ => none }
def fnExactNewNodeRow : OpenClaim := { program := "ytjabllghohapgakdoor", sum := "e6205a8fc421ba2ac942705f937929798c47b03fe456c5d9b2a15f917e296a07", func := "loop.example/g00161/laws.FnExactNewNode", spec := "fnExactNewNode", inPlace := ["internal/reflectlite.TypeOf"], unfollowed := true, recurses := true, named := ["loop.example/g00161/impl.errNoLog"], ifaces := true, apart := false, laid := [("loop.example/g00161/impl.errNoLog", laid_loop_example_g00161_impl_errNoLog)] }
def FnExactNewNodeSaid : Prop := fnExactNewNodeRow.holds Tryd.pinned (OpenSpec.ofChange fnExactNewNodeSpec)

/-- ITS FALSE NEIGHBOUR: 'it returns false'. Refute it at one input. -/
def fnExactNewNodeWrong : ChangeSpec := { name := "fnExactNewNode", vars := ["loop.example/g00161/impl.errNoLog"], fn := fun _ => fun
  | [d1, d2, g1] => { results := [.lit (.bool false)], args := [d1, d2], vars := [g1] }
  | _ => none }
def FnExactNewNodeWrongFalsely : Prop := fnExactNewNodeRow.holds Tryd.pinned (OpenSpec.ofChange fnExactNewNodeWrong)

/-- 'laws.FnExactBeat': WHATEVER THE INPUT: true; the input reads as it did. -/
def fnExactBeatSpec : ChangeSpec := { name := "fnExactBeat", vars := ["loop.example/g00161/impl.errNoLog"], fn := fun _ => fun
  | [d, g1] => { results := [.lit (.bool true)], args := [d], vars := [g1] }
  | _ => none }
def fnExactBeatRow : OpenClaim := { program := "ytjabllghohapgakdoor", sum := "e6205a8fc421ba2ac942705f937929798c47b03fe456c5d9b2a15f917e296a07", func := "loop.example/g00161/laws.FnExactBeat", spec := "fnExactBeat", inPlace := ["internal/reflectlite.TypeOf"], unfollowed := true, recurses := true, named := ["loop.example/g00161/impl.errNoLog"], ifaces := true, apart := false, laid := [("loop.example/g00161/impl.errNoLog", laid_loop_example_g00161_impl_errNoLog)] }
def FnExactBeatSaid : Prop := fnExactBeatRow.holds Tryd.pinned (OpenSpec.ofChange fnExactBeatSpec)

/-- ITS FALSE NEIGHBOUR: 'it returns false'. Refute it at one input. -/
def fnExactBeatWrong : ChangeSpec := { name := "fnExactBeat", vars := ["loop.example/g00161/impl.errNoLog"], fn := fun _ => fun
  | [d, g1] => { results := [.lit (.bool false)], args := [d], vars := [g1] }
  | _ => none }
def FnExactBeatWrongFalsely : Prop := fnExactBeatRow.holds Tryd.pinned (OpenSpec.ofChange fnExactBeatWrong)

/- THE SECOND FORM. 'bulk': how many values and letters a reading holds, each counted each time it is reached (what is shared counts as often as it is met; a slice's spare places count too). A statement '..UptoSaid' is the law's where the arguments, and the package variables that the reading takes, are together of bulk at most 1048576: NARROWER than '..Said'. Prove '..Said' where nothing that the law and all that it calls make is longer than what came in: it says more and counts as full. Else prove '..UptoSaid'. A law counts once. -/
mutual
def uptoBulk {H : Type} : DataW H → Nat
  | .lit (.string bytes) => bytes.length + 1
  | .lit _ => 1
  | .nil => 1
  | .ptr d => uptoBulk d + 1
  | .slice elems spare => uptoBulkAll elems + uptoBulkAll spare + 1
  | .agg parts => uptoBulkAll parts + 1
  | .iface _ d => uptoBulk d + 1
  | .map entries => uptoBulkEntries entries + 1
  | .held _ => 1
def uptoBulkAll {H : Type} : List (DataW H) → Nat
  | [] => 0
  | d :: r => uptoBulk d + uptoBulkAll r
def uptoBulkEntries {H : Type} : List (Lit × DataW H) → Nat
  | [] => 0
  | x :: r => uptoBulkEntry x + uptoBulkEntries r
def uptoBulkEntry {H : Type} : Lit × DataW H → Nat
  | (.string bytes, d) => bytes.length + uptoBulk d + 1
  | (_, d) => uptoBulk d + 1
 end
def uptoSmall : (H : Type) → List (DataW H) → Bool := fun _ ds => decide (uptoBulkAll ds ≤ 1048576)
def OpenSpec.upto (s : _root_.Go.ChangeSpec) : _root_.Go.OpenSpec := { _root_.Go.OpenSpec.ofChange s with cond := some uptoSmall }

/-- 'laws.FnExactMerge', WHERE WHAT IT READS IS OF BULK AT MOST 1048576: true; the input reads as it did. -/
def fnExactMergeUptoRow : OpenClaim := { program := "ytjabllghohapgakdoor", sum := "e6205a8fc421ba2ac942705f937929798c47b03fe456c5d9b2a15f917e296a07", func := "loop.example/g00161/laws.FnExactMerge", spec := "fnExactMerge", inPlace := ["internal/reflectlite.TypeOf", "internal/reflectlite.ValueOf", "(internal/reflectlite.Value).Type", "(internal/reflectlite.Value).IsNil", "(internal/reflectlite.Value).Elem", "(internal/reflectlite.Value).Set"], unfollowed := true, recurses := true, named := ["loop.example/g00161/impl.errNoEntry", "loop.example/g00161/impl.errNoLog", "loop.example/g00161/impl.errOtherTerm", "errors.errorType"], ifaces := true, apart := false, laid := [("errors.errorType", laid_errors_errorType), ("loop.example/g00161/impl.errNoLog", laid_loop_example_g00161_impl_errNoLog), ("loop.example/g00161/impl.errNoEntry", laid_loop_example_g00161_impl_errNoEntry), ("loop.example/g00161/impl.errOtherTerm", laid_loop_example_g00161_impl_errOtherTerm)], narrowed := true }
def FnExactMergeUptoSaid : Prop := fnExactMergeUptoRow.holds Tryd.pinned (OpenSpec.upto fnExactMergeSpec)

/-- 'laws.FnExactNodeOk', WHERE WHAT IT READS IS OF BULK AT MOST 1048576: true; the input reads as it did. -/
def fnExactNodeOkUptoRow : OpenClaim := { program := "ytjabllghohapgakdoor", sum := "e6205a8fc421ba2ac942705f937929798c47b03fe456c5d9b2a15f917e296a07", func := "loop.example/g00161/laws.FnExactNodeOk", spec := "fnExactNodeOk", inPlace := ["internal/reflectlite.TypeOf"], unfollowed := true, recurses := true, named := ["loop.example/g00161/impl.errNoLog"], ifaces := true, apart := false, laid := [("loop.example/g00161/impl.errNoLog", laid_loop_example_g00161_impl_errNoLog)], narrowed := true }
def FnExactNodeOkUptoSaid : Prop := fnExactNodeOkUptoRow.holds Tryd.pinned (OpenSpec.upto fnExactNodeOkSpec)

/-- 'laws.FnExactNewNode', WHERE WHAT IT READS IS OF BULK AT MOST 1048576: true; the input reads as it did. -/
def fnExactNewNodeUptoRow : OpenClaim := { program := "ytjabllghohapgakdoor", sum := "e6205a8fc421ba2ac942705f937929798c47b03fe456c5d9b2a15f917e296a07", func := "loop.example/g00161/laws.FnExactNewNode", spec := "fnExactNewNode", inPlace := ["internal/reflectlite.TypeOf"], unfollowed := true, recurses := true, named := ["loop.example/g00161/impl.errNoLog"], ifaces := true, apart := false, laid := [("loop.example/g00161/impl.errNoLog", laid_loop_example_g00161_impl_errNoLog)], narrowed := true }
def FnExactNewNodeUptoSaid : Prop := fnExactNewNodeUptoRow.holds Tryd.pinned (OpenSpec.upto fnExactNewNodeSpec)

/-- 'laws.FnExactBeat', WHERE WHAT IT READS IS OF BULK AT MOST 1048576: true; the input reads as it did. -/
def fnExactBeatUptoRow : OpenClaim := { program := "ytjabllghohapgakdoor", sum := "e6205a8fc421ba2ac942705f937929798c47b03fe456c5d9b2a15f917e296a07", func := "loop.example/g00161/laws.FnExactBeat", spec := "fnExactBeat", inPlace := ["internal/reflectlite.TypeOf"], unfollowed := true, recurses := true, named := ["loop.example/g00161/impl.errNoLog"], ifaces := true, apart := false, laid := [("loop.example/g00161/impl.errNoLog", laid_loop_example_g00161_impl_errNoLog)], narrowed := true }
def FnExactBeatUptoSaid : Prop := fnExactBeatUptoRow.holds Tryd.pinned (OpenSpec.upto fnExactBeatSpec)

end Rows
end Go.Proofs.YtjabllghohapgakDoor
