/-
  No cell of these rows narrows 'for every input' (looked for: loops, veiled, ifaces, maps, wideKeys, modest, calm, conditions, laid).
  DERIVED. THE GIVEN ROWS OF THIS SEAT. 4 by the template 'for every input the law returns true; each argument reads behind the call as it read before'; 0 by the template 'total and deterministic' (their statements: YteibbknpcgcjjabTotals.lean).
  GIVEN WITH THE SEED: the statements are not yours to turn. If you find one false, say at which input.
  Laid BY PROGRAM, IN A SANDBOX (cutbox-rows.mjs): the forced cells as the released guide's own fill.sh prints them over the translation 408fff7b8940e9a5… (all of the seat's roots in one cut). By AI agents, Wed Nov 11 2026. No macro, syntax, notation, axiom, sorry.
-/
import Derived.Test.YteibbknpcgcjjabChecked
import GoSem.Claim
import GoSem.ClaimJoined
import GoSem.ClaimMapViews
import Derived.JoinedTies
import Derived.KernelRfl
namespace Go.Proofs.Yteibbknpcgcjjab
/- THE CELL 'sum', in the pinned program and in every row, IS THE sha256 OF THE DUMP (.gsa) THAT YteibbknpcgcjjabProg.lean LOADS. Nothing in Lean hashes anything: it is a label: what it is worth is what the hold of that sum in a sandbox is worth. -/
noncomputable def Try.pinned : Pinned := { name := "yteibbknpcgcjjab", sum := "408fff7b8940e9a5e03e4ec7979f3fb977714b30cd5118267414d6ca66e711e1", checked := Try.checked }
namespace Rows
def none {H : Type} : Left H := { results := [], args := [] }

/-- 'laws.FnAbove': WHATEVER THE INPUT: true; the input reads as it did. -/
def fnAboveSpec : ChangeSpec := { name := "fnAbove", fn := fun _ => fun
  | [d] => { results := [.lit (.bool true)], args := [d] }
  | _ => none }
def fnAboveRow : OpenClaim := { program := "yteibbknpcgcjjab", sum := "408fff7b8940e9a5e03e4ec7979f3fb977714b30cd5118267414d6ca66e711e1", func := "loop.example/g00161/laws.FnAbove", spec := "fnAbove", plainKeys := false, apart := false }
def FnAboveSaid : Prop := fnAboveRow.holds Try.pinned (OpenSpec.ofChange fnAboveSpec)

/-- ITS FALSE NEIGHBOUR: 'it returns false'. Refute it at one input. -/
def fnAboveWrong : ChangeSpec := { name := "fnAbove", fn := fun _ => fun
  | [d] => { results := [.lit (.bool false)], args := [d] }
  | _ => none }
def FnAboveWrongFalsely : Prop := fnAboveRow.holds Try.pinned (OpenSpec.ofChange fnAboveWrong)

/-- 'laws.FnShortest': WHATEVER THE INPUT: true; the input reads as it did. -/
def fnShortestSpec : ChangeSpec := { name := "fnShortest", fn := fun _ => fun
  | [d] => { results := [.lit (.bool true)], args := [d] }
  | _ => none }
def fnShortestRow : OpenClaim := { program := "yteibbknpcgcjjab", sum := "408fff7b8940e9a5e03e4ec7979f3fb977714b30cd5118267414d6ca66e711e1", func := "loop.example/g00161/laws.FnShortest", spec := "fnShortest", unfollowed := true, recurses := true, plainKeys := false, apart := false }
def FnShortestSaid : Prop := fnShortestRow.holds Try.pinned (OpenSpec.ofChange fnShortestSpec)

/-- ITS FALSE NEIGHBOUR: 'it returns false'. Refute it at one input. -/
def fnShortestWrong : ChangeSpec := { name := "fnShortest", fn := fun _ => fun
  | [d] => { results := [.lit (.bool false)], args := [d] }
  | _ => none }
def FnShortestWrongFalsely : Prop := fnShortestRow.holds Try.pinned (OpenSpec.ofChange fnShortestWrong)

/-- 'laws.FnClimbed': WHATEVER THE INPUT: true; the input reads as it did. -/
def fnClimbedSpec : ChangeSpec := { name := "fnClimbed", fn := fun _ => fun
  | [d] => { results := [.lit (.bool true)], args := [d] }
  | _ => none }
def fnClimbedRow : OpenClaim := { program := "yteibbknpcgcjjab", sum := "408fff7b8940e9a5e03e4ec7979f3fb977714b30cd5118267414d6ca66e711e1", func := "loop.example/g00161/laws.FnClimbed", spec := "fnClimbed", unfollowed := true, recurses := true, plainKeys := false, apart := false }
def FnClimbedSaid : Prop := fnClimbedRow.holds Try.pinned (OpenSpec.ofChange fnClimbedSpec)

/-- ITS FALSE NEIGHBOUR: 'it returns false'. Refute it at one input. -/
def fnClimbedWrong : ChangeSpec := { name := "fnClimbed", fn := fun _ => fun
  | [d] => { results := [.lit (.bool false)], args := [d] }
  | _ => none }
def FnClimbedWrongFalsely : Prop := fnClimbedRow.holds Try.pinned (OpenSpec.ofChange fnClimbedWrong)

/-- 'laws.FnUnpacked': WHATEVER THE INPUT: true; the input reads as it did. -/
def fnUnpackedSpec : ChangeSpec := { name := "fnUnpacked", fn := fun _ => fun
  | [d] => { results := [.lit (.bool true)], args := [d] }
  | _ => none }
def fnUnpackedRow : OpenClaim := { program := "yteibbknpcgcjjab", sum := "408fff7b8940e9a5e03e4ec7979f3fb977714b30cd5118267414d6ca66e711e1", func := "loop.example/g00161/laws.FnUnpacked", spec := "fnUnpacked", unfollowed := true, recurses := true, plainKeys := false, apart := false }
def FnUnpackedSaid : Prop := fnUnpackedRow.holds Try.pinned (OpenSpec.ofChange fnUnpackedSpec)

/-- ITS FALSE NEIGHBOUR: 'it returns false'. Refute it at one input. -/
def fnUnpackedWrong : ChangeSpec := { name := "fnUnpacked", fn := fun _ => fun
  | [d] => { results := [.lit (.bool false)], args := [d] }
  | _ => none }
def FnUnpackedWrongFalsely : Prop := fnUnpackedRow.holds Try.pinned (OpenSpec.ofChange fnUnpackedWrong)

/- THE SECOND FORM. 'bulk': how many values and letters a reading holds, each counted each time it is reached (what is shared counts as often as it is met; a slice's spare places count too). A statement '..UptoSaid' is the law's where the arguments, and the package variables that the reading takes, are together of bulk at most 1048576: NARROWER than '..Said'. Prove '..Said' where nothing that the law and all that it calls make is longer than what came in: it says more and counts as full. Else prove '..UptoSaid'. A law counts once. -/
mutual
def uptoBulk {H : Type} : DataW H → Nat
  | .lit (.string bytes) => bytes.length + 1
  | .lit _ => 1
  | .nil => 1
  | .ptr d => uptoBulk d + 1
  | .slice elems spare => uptoBulkAll elems + uptoBulkAll spare + 1
  | .agg parts => uptoBulkAll parts + 1
  | .iface _ d => uptoBulk d + 1
  | .map entries => uptoBulkEntries entries + 1
  | .held _ => 1
def uptoBulkAll {H : Type} : List (DataW H) → Nat
  | [] => 0
  | d :: r => uptoBulk d + uptoBulkAll r
def uptoBulkEntries {H : Type} : List (Lit × DataW H) → Nat
  | [] => 0
  | x :: r => uptoBulkEntry x + uptoBulkEntries r
def uptoBulkEntry {H : Type} : Lit × DataW H → Nat
  | (.string bytes, d) => bytes.length + uptoBulk d + 1
  | (_, d) => uptoBulk d + 1
 end
def uptoSmall : (H : Type) → List (DataW H) → Bool := fun _ ds => decide (uptoBulkAll ds ≤ 1048576)
def OpenSpec.upto (s : _root_.Go.ChangeSpec) : _root_.Go.OpenSpec := { _root_.Go.OpenSpec.ofChange s with cond := some uptoSmall }

/-- 'laws.FnAbove', WHERE WHAT IT READS IS OF BULK AT MOST 1048576: true; the input reads as it did. -/
def fnAboveUptoRow : OpenClaim := { program := "yteibbknpcgcjjab", sum := "408fff7b8940e9a5e03e4ec7979f3fb977714b30cd5118267414d6ca66e711e1", func := "loop.example/g00161/laws.FnAbove", spec := "fnAbove", plainKeys := false, apart := false, narrowed := true }
def FnAboveUptoSaid : Prop := fnAboveUptoRow.holds Try.pinned (OpenSpec.upto fnAboveSpec)

/-- 'laws.FnShortest', WHERE WHAT IT READS IS OF BULK AT MOST 1048576: true; the input reads as it did. -/
def fnShortestUptoRow : OpenClaim := { program := "yteibbknpcgcjjab", sum := "408fff7b8940e9a5e03e4ec7979f3fb977714b30cd5118267414d6ca66e711e1", func := "loop.example/g00161/laws.FnShortest", spec := "fnShortest", unfollowed := true, recurses := true, plainKeys := false, apart := false, narrowed := true }
def FnShortestUptoSaid : Prop := fnShortestUptoRow.holds Try.pinned (OpenSpec.upto fnShortestSpec)

/-- 'laws.FnClimbed', WHERE WHAT IT READS IS OF BULK AT MOST 1048576: true; the input reads as it did. -/
def fnClimbedUptoRow : OpenClaim := { program := "yteibbknpcgcjjab", sum := "408fff7b8940e9a5e03e4ec7979f3fb977714b30cd5118267414d6ca66e711e1", func := "loop.example/g00161/laws.FnClimbed", spec := "fnClimbed", unfollowed := true, recurses := true, plainKeys := false, apart := false, narrowed := true }
def FnClimbedUptoSaid : Prop := fnClimbedUptoRow.holds Try.pinned (OpenSpec.upto fnClimbedSpec)

/-- 'laws.FnUnpacked', WHERE WHAT IT READS IS OF BULK AT MOST 1048576: true; the input reads as it did. -/
def fnUnpackedUptoRow : OpenClaim := { program := "yteibbknpcgcjjab", sum := "408fff7b8940e9a5e03e4ec7979f3fb977714b30cd5118267414d6ca66e711e1", func := "loop.example/g00161/laws.FnUnpacked", spec := "fnUnpacked", unfollowed := true, recurses := true, plainKeys := false, apart := false, narrowed := true }
def FnUnpackedUptoSaid : Prop := fnUnpackedUptoRow.holds Try.pinned (OpenSpec.upto fnUnpackedSpec)

end Rows
end Go.Proofs.Yteibbknpcgcjjab
