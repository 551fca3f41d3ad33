/-
  No cell of these rows narrows 'for every input' (looked for: loops, veiled, ifaces, maps, wideKeys, modest, calm, conditions, laid).
  DERIVED. THE GIVEN ROWS OF THIS SEAT. 6 by the template 'for every input the law returns true; each argument reads behind the call as it read before'; 0 by the template 'total and deterministic' (their statements: YtjabllghohapgahTotals.lean).
  GIVEN WITH THE SEED: the statements are not yours to turn. If you find one false, say at which input.
  Laid BY PROGRAM, IN A SANDBOX (cutbox-rows.mjs): the forced cells as the released guide's own fill.sh prints them over the translation 4af455a0ed923cb9… (all of the seat's roots in one cut). By AI agents, Wed Nov 11 2026. No macro, syntax, notation, axiom, sorry.
-/
import Derived.Test.YtjabllghohapgahChecked
import GoSem.Claim
import GoSem.ClaimJoined
import GoSem.ClaimMapViews
import Derived.JoinedTies
import Derived.KernelRfl
namespace Go.Proofs.Ytjabllghohapgah
/- THE CELL 'sum', in the pinned program and in every row, IS THE sha256 OF THE DUMP (.gsa) THAT YtjabllghohapgahProg.lean LOADS. Nothing in Lean hashes anything: it is a label: what it is worth is what the hold of that sum in a sandbox is worth. -/
noncomputable def Try.pinned : Pinned := { name := "ytjabllghohapgah", sum := "4af455a0ed923cb96663fd2c6ef63fa5e8f58d95a27b968949a760cfb370a164", checked := Try.checked }
namespace Rows
def none {H : Type} : Left H := { results := [], args := [] }

/-- 'laws.FnExactMetricOk': WHATEVER THE INPUT: true; the input reads as it did. -/
def fnExactMetricOkSpec : ChangeSpec := { name := "fnExactMetricOk", fn := fun _ => fun
  | [d1, d2] => { results := [.lit (.bool true)], args := [d1, d2] }
  | _ => none }
def fnExactMetricOkRow : OpenClaim := { program := "ytjabllghohapgah", sum := "4af455a0ed923cb96663fd2c6ef63fa5e8f58d95a27b968949a760cfb370a164", func := "loop.example/g00161/laws.FnExactMetricOk", spec := "fnExactMetricOk", unfollowed := true, recurses := true, plainKeys := false, apart := false }
def FnExactMetricOkSaid : Prop := fnExactMetricOkRow.holds Try.pinned (OpenSpec.ofChange fnExactMetricOkSpec)

/-- ITS FALSE NEIGHBOUR: 'it returns false'. Refute it at one input. -/
def fnExactMetricOkWrong : ChangeSpec := { name := "fnExactMetricOk", fn := fun _ => fun
  | [d1, d2] => { results := [.lit (.bool false)], args := [d1, d2] }
  | _ => none }
def FnExactMetricOkWrongFalsely : Prop := fnExactMetricOkRow.holds Try.pinned (OpenSpec.ofChange fnExactMetricOkWrong)

/-- 'laws.FnExactRecustomize': WHATEVER THE INPUT: true; the input reads as it did. -/
def fnExactRecustomizeSpec : ChangeSpec := { name := "fnExactRecustomize", fn := fun _ => fun
  | [d1, d2, d3, d4] => { results := [.lit (.bool true)], args := [d1, d2, d3, d4] }
  | _ => none }
def fnExactRecustomizeRow : OpenClaim := { program := "ytjabllghohapgah", sum := "4af455a0ed923cb96663fd2c6ef63fa5e8f58d95a27b968949a760cfb370a164", func := "loop.example/g00161/laws.FnExactRecustomize", spec := "fnExactRecustomize", unfollowed := true, recurses := true, plainKeys := false, apart := false }
def FnExactRecustomizeSaid : Prop := fnExactRecustomizeRow.holds Try.pinned (OpenSpec.ofChange fnExactRecustomizeSpec)

/-- ITS FALSE NEIGHBOUR: 'it returns false'. Refute it at one input. -/
def fnExactRecustomizeWrong : ChangeSpec := { name := "fnExactRecustomize", fn := fun _ => fun
  | [d1, d2, d3, d4] => { results := [.lit (.bool false)], args := [d1, d2, d3, d4] }
  | _ => none }
def FnExactRecustomizeWrongFalsely : Prop := fnExactRecustomizeRow.holds Try.pinned (OpenSpec.ofChange fnExactRecustomizeWrong)

/-- 'laws.FnExactClimb': WHATEVER THE INPUT: true; the input reads as it did. -/
def fnExactClimbSpec : ChangeSpec := { name := "fnExactClimb", fn := fun _ => fun
  | [d1, d2, d3, d4] => { results := [.lit (.bool true)], args := [d1, d2, d3, d4] }
  | _ => none }
def fnExactClimbRow : OpenClaim := { program := "ytjabllghohapgah", sum := "4af455a0ed923cb96663fd2c6ef63fa5e8f58d95a27b968949a760cfb370a164", func := "loop.example/g00161/laws.FnExactClimb", spec := "fnExactClimb", unfollowed := true, recurses := true, plainKeys := false, apart := false }
def FnExactClimbSaid : Prop := fnExactClimbRow.holds Try.pinned (OpenSpec.ofChange fnExactClimbSpec)

/-- ITS FALSE NEIGHBOUR: 'it returns false'. Refute it at one input. -/
def fnExactClimbWrong : ChangeSpec := { name := "fnExactClimb", fn := fun _ => fun
  | [d1, d2, d3, d4] => { results := [.lit (.bool false)], args := [d1, d2, d3, d4] }
  | _ => none }
def FnExactClimbWrongFalsely : Prop := fnExactClimbRow.holds Try.pinned (OpenSpec.ofChange fnExactClimbWrong)

/-- 'laws.FnExactMeeting': WHATEVER THE INPUT: true; the input reads as it did. -/
def fnExactMeetingSpec : ChangeSpec := { name := "fnExactMeeting", fn := fun _ => fun
  | [d1, d2, d3, d4] => { results := [.lit (.bool true)], args := [d1, d2, d3, d4] }
  | _ => none }
def fnExactMeetingRow : OpenClaim := { program := "ytjabllghohapgah", sum := "4af455a0ed923cb96663fd2c6ef63fa5e8f58d95a27b968949a760cfb370a164", func := "loop.example/g00161/laws.FnExactMeeting", spec := "fnExactMeeting", unfollowed := true, recurses := true, plainKeys := false, apart := false }
def FnExactMeetingSaid : Prop := fnExactMeetingRow.holds Try.pinned (OpenSpec.ofChange fnExactMeetingSpec)

/-- ITS FALSE NEIGHBOUR: 'it returns false'. Refute it at one input. -/
def fnExactMeetingWrong : ChangeSpec := { name := "fnExactMeeting", fn := fun _ => fun
  | [d1, d2, d3, d4] => { results := [.lit (.bool false)], args := [d1, d2, d3, d4] }
  | _ => none }
def FnExactMeetingWrongFalsely : Prop := fnExactMeetingRow.holds Try.pinned (OpenSpec.ofChange fnExactMeetingWrong)

/-- 'laws.FnExactDistance': WHATEVER THE INPUT: true; the input reads as it did. -/
def fnExactDistanceSpec : ChangeSpec := { name := "fnExactDistance", fn := fun _ => fun
  | [d1, d2, d3, d4] => { results := [.lit (.bool true)], args := [d1, d2, d3, d4] }
  | _ => none }
def fnExactDistanceRow : OpenClaim := { program := "ytjabllghohapgah", sum := "4af455a0ed923cb96663fd2c6ef63fa5e8f58d95a27b968949a760cfb370a164", func := "loop.example/g00161/laws.FnExactDistance", spec := "fnExactDistance", unfollowed := true, recurses := true, plainKeys := false, apart := false }
def FnExactDistanceSaid : Prop := fnExactDistanceRow.holds Try.pinned (OpenSpec.ofChange fnExactDistanceSpec)

/-- ITS FALSE NEIGHBOUR: 'it returns false'. Refute it at one input. -/
def fnExactDistanceWrong : ChangeSpec := { name := "fnExactDistance", fn := fun _ => fun
  | [d1, d2, d3, d4] => { results := [.lit (.bool false)], args := [d1, d2, d3, d4] }
  | _ => none }
def FnExactDistanceWrongFalsely : Prop := fnExactDistanceRow.holds Try.pinned (OpenSpec.ofChange fnExactDistanceWrong)

/-- 'laws.FnExactUnpack': WHATEVER THE INPUT: true; the input reads as it did. -/
def fnExactUnpackSpec : ChangeSpec := { name := "fnExactUnpack", fn := fun _ => fun
  | [d1, d2, d3, d4, d5, d6] => { results := [.lit (.bool true)], args := [d1, d2, d3, d4, d5, d6] }
  | _ => none }
def fnExactUnpackRow : OpenClaim := { program := "ytjabllghohapgah", sum := "4af455a0ed923cb96663fd2c6ef63fa5e8f58d95a27b968949a760cfb370a164", func := "loop.example/g00161/laws.FnExactUnpack", spec := "fnExactUnpack", unfollowed := true, recurses := true, plainKeys := false, apart := false }
def FnExactUnpackSaid : Prop := fnExactUnpackRow.holds Try.pinned (OpenSpec.ofChange fnExactUnpackSpec)

/-- ITS FALSE NEIGHBOUR: 'it returns false'. Refute it at one input. -/
def fnExactUnpackWrong : ChangeSpec := { name := "fnExactUnpack", fn := fun _ => fun
  | [d1, d2, d3, d4, d5, d6] => { results := [.lit (.bool false)], args := [d1, d2, d3, d4, d5, d6] }
  | _ => none }
def FnExactUnpackWrongFalsely : Prop := fnExactUnpackRow.holds Try.pinned (OpenSpec.ofChange fnExactUnpackWrong)

/- THE SECOND FORM. 'bulk': how many values and letters a reading holds, each counted each time it is reached (what is shared counts as often as it is met; a slice's spare places count too). A statement '..UptoSaid' is the law's where the arguments, and the package variables that the reading takes, are together of bulk at most 1048576: NARROWER than '..Said'. Prove '..Said' where nothing that the law and all that it calls make is longer than what came in: it says more and counts as full. Else prove '..UptoSaid'. A law counts once. -/
mutual
def uptoBulk {H : Type} : DataW H → Nat
  | .lit (.string bytes) => bytes.length + 1
  | .lit _ => 1
  | .nil => 1
  | .ptr d => uptoBulk d + 1
  | .slice elems spare => uptoBulkAll elems + uptoBulkAll spare + 1
  | .agg parts => uptoBulkAll parts + 1
  | .iface _ d => uptoBulk d + 1
  | .map entries => uptoBulkEntries entries + 1
  | .held _ => 1
def uptoBulkAll {H : Type} : List (DataW H) → Nat
  | [] => 0
  | d :: r => uptoBulk d + uptoBulkAll r
def uptoBulkEntries {H : Type} : List (Lit × DataW H) → Nat
  | [] => 0
  | x :: r => uptoBulkEntry x + uptoBulkEntries r
def uptoBulkEntry {H : Type} : Lit × DataW H → Nat
  | (.string bytes, d) => bytes.length + uptoBulk d + 1
  | (_, d) => uptoBulk d + 1
 end
def uptoSmall : (H : Type) → List (DataW H) → Bool := fun _ ds => decide (uptoBulkAll ds ≤ 1048576)
def OpenSpec.upto (s : _root_.Go.ChangeSpec) : _root_.Go.OpenSpec := { _root_.Go.OpenSpec.ofChange s with cond := some uptoSmall }

/-- 'laws.FnExactMetricOk', WHERE WHAT IT READS IS OF BULK AT MOST 1048576: true; the input reads as it did. -/
def fnExactMetricOkUptoRow : OpenClaim := { program := "ytjabllghohapgah", sum := "4af455a0ed923cb96663fd2c6ef63fa5e8f58d95a27b968949a760cfb370a164", func := "loop.example/g00161/laws.FnExactMetricOk", spec := "fnExactMetricOk", unfollowed := true, recurses := true, plainKeys := false, apart := false, narrowed := true }
def FnExactMetricOkUptoSaid : Prop := fnExactMetricOkUptoRow.holds Try.pinned (OpenSpec.upto fnExactMetricOkSpec)

/-- 'laws.FnExactRecustomize', WHERE WHAT IT READS IS OF BULK AT MOST 1048576: true; the input reads as it did. -/
def fnExactRecustomizeUptoRow : OpenClaim := { program := "ytjabllghohapgah", sum := "4af455a0ed923cb96663fd2c6ef63fa5e8f58d95a27b968949a760cfb370a164", func := "loop.example/g00161/laws.FnExactRecustomize", spec := "fnExactRecustomize", unfollowed := true, recurses := true, plainKeys := false, apart := false, narrowed := true }
def FnExactRecustomizeUptoSaid : Prop := fnExactRecustomizeUptoRow.holds Try.pinned (OpenSpec.upto fnExactRecustomizeSpec)

/-- 'laws.FnExactClimb', WHERE WHAT IT READS IS OF BULK AT MOST 1048576: true; the input reads as it did. -/
def fnExactClimbUptoRow : OpenClaim := { program := "ytjabllghohapgah", sum := "4af455a0ed923cb96663fd2c6ef63fa5e8f58d95a27b968949a760cfb370a164", func := "loop.example/g00161/laws.FnExactClimb", spec := "fnExactClimb", unfollowed := true, recurses := true, plainKeys := false, apart := false, narrowed := true }
def FnExactClimbUptoSaid : Prop := fnExactClimbUptoRow.holds Try.pinned (OpenSpec.upto fnExactClimbSpec)

/-- 'laws.FnExactMeeting', WHERE WHAT IT READS IS OF BULK AT MOST 1048576: true; the input reads as it did. -/
def fnExactMeetingUptoRow : OpenClaim := { program := "ytjabllghohapgah", sum := "4af455a0ed923cb96663fd2c6ef63fa5e8f58d95a27b968949a760cfb370a164", func := "loop.example/g00161/laws.FnExactMeeting", spec := "fnExactMeeting", unfollowed := true, recurses := true, plainKeys := false, apart := false, narrowed := true }
def FnExactMeetingUptoSaid : Prop := fnExactMeetingUptoRow.holds Try.pinned (OpenSpec.upto fnExactMeetingSpec)

/-- 'laws.FnExactDistance', WHERE WHAT IT READS IS OF BULK AT MOST 1048576: true; the input reads as it did. -/
def fnExactDistanceUptoRow : OpenClaim := { program := "ytjabllghohapgah", sum := "4af455a0ed923cb96663fd2c6ef63fa5e8f58d95a27b968949a760cfb370a164", func := "loop.example/g00161/laws.FnExactDistance", spec := "fnExactDistance", unfollowed := true, recurses := true, plainKeys := false, apart := false, narrowed := true }
def FnExactDistanceUptoSaid : Prop := fnExactDistanceUptoRow.holds Try.pinned (OpenSpec.upto fnExactDistanceSpec)

/-- 'laws.FnExactUnpack', WHERE WHAT IT READS IS OF BULK AT MOST 1048576: true; the input reads as it did. -/
def fnExactUnpackUptoRow : OpenClaim := { program := "ytjabllghohapgah", sum := "4af455a0ed923cb96663fd2c6ef63fa5e8f58d95a27b968949a760cfb370a164", func := "loop.example/g00161/laws.FnExactUnpack", spec := "fnExactUnpack", unfollowed := true, recurses := true, plainKeys := false, apart := false, narrowed := true }
def FnExactUnpackUptoSaid : Prop := fnExactUnpackUptoRow.holds Try.pinned (OpenSpec.upto fnExactUnpackSpec)

end Rows
end Go.Proofs.Ytjabllghohapgah
