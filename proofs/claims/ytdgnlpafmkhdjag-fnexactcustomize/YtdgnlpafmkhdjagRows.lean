/-
  No cell of these rows narrows 'for every input' (looked for: loops, veiled, ifaces, maps, wideKeys, modest, calm, conditions, laid).
  DERIVED. THE GIVEN ROWS OF THIS SEAT. 6 by the template 'for every input the law returns true; each argument reads behind the call as it read before'; 0 by the template 'total and deterministic' (their statements: YtdgnlpafmkhdjagTotals.lean).
  GIVEN WITH THE SEED: the statements are not yours to turn. If you find one false, say at which input.
  Laid BY PROGRAM, IN A SANDBOX (cutbox-rows.mjs): the forced cells as the released guide's own fill.sh prints them over the translation 34534d9b293cca51… (all of the seat's roots in one cut). By AI agents, Wed Nov 11 2026. No macro, syntax, notation, axiom, sorry.
-/
import Derived.Test.YtdgnlpafmkhdjagChecked
import GoSem.Claim
import GoSem.ClaimJoined
import GoSem.ClaimMapViews
import Derived.JoinedTies
import Derived.KernelRfl
namespace Go.Proofs.Ytdgnlpafmkhdjag
/- THE CELL 'sum', in the pinned program and in every row, IS THE sha256 OF THE DUMP (.gsa) THAT YtdgnlpafmkhdjagProg.lean LOADS. Nothing in Lean hashes anything: it is a label: what it is worth is what the hold of that sum in a sandbox is worth. -/
noncomputable def Try.pinned : Pinned := { name := "ytdgnlpafmkhdjag", sum := "34534d9b293cca5102d070ed7510925361c4c4339d2c1e3c0ca1859c62bc92e5", checked := Try.checked }
namespace Rows
def none {H : Type} : Left H := { results := [], args := [] }

/-- 'laws.FnExactParents': WHATEVER THE INPUT: true; the input reads as it did. -/
def fnExactParentsSpec : ChangeSpec := { name := "fnExactParents", fn := fun _ => fun
  | [d1, d2] => { results := [.lit (.bool true)], args := [d1, d2] }
  | _ => none }
def fnExactParentsRow : OpenClaim := { program := "ytdgnlpafmkhdjag", sum := "34534d9b293cca5102d070ed7510925361c4c4339d2c1e3c0ca1859c62bc92e5", func := "loop.example/g00161/laws.FnExactParents", spec := "fnExactParents", plainKeys := false, apart := false }
def FnExactParentsSaid : Prop := fnExactParentsRow.holds Try.pinned (OpenSpec.ofChange fnExactParentsSpec)

/-- ITS FALSE NEIGHBOUR: 'it returns false'. Refute it at one input. -/
def fnExactParentsWrong : ChangeSpec := { name := "fnExactParents", fn := fun _ => fun
  | [d1, d2] => { results := [.lit (.bool false)], args := [d1, d2] }
  | _ => none }
def FnExactParentsWrongFalsely : Prop := fnExactParentsRow.holds Try.pinned (OpenSpec.ofChange fnExactParentsWrong)

/-- 'laws.FnExactChordal': WHATEVER THE INPUT: true; the input reads as it did. -/
def fnExactChordalSpec : ChangeSpec := { name := "fnExactChordal", fn := fun _ => fun
  | [d1, d2] => { results := [.lit (.bool true)], args := [d1, d2] }
  | _ => none }
def fnExactChordalRow : OpenClaim := { program := "ytdgnlpafmkhdjag", sum := "34534d9b293cca5102d070ed7510925361c4c4339d2c1e3c0ca1859c62bc92e5", func := "loop.example/g00161/laws.FnExactChordal", spec := "fnExactChordal", plainKeys := false, apart := false }
def FnExactChordalSaid : Prop := fnExactChordalRow.holds Try.pinned (OpenSpec.ofChange fnExactChordalSpec)

/-- ITS FALSE NEIGHBOUR: 'it returns false'. Refute it at one input. -/
def fnExactChordalWrong : ChangeSpec := { name := "fnExactChordal", fn := fun _ => fun
  | [d1, d2] => { results := [.lit (.bool false)], args := [d1, d2] }
  | _ => none }
def FnExactChordalWrongFalsely : Prop := fnExactChordalRow.holds Try.pinned (OpenSpec.ofChange fnExactChordalWrong)

/-- 'laws.FnExactAbove': WHATEVER THE INPUT: true; the input reads as it did. -/
def fnExactAboveSpec : ChangeSpec := { name := "fnExactAbove", fn := fun _ => fun
  | [d1, d2, d3] => { results := [.lit (.bool true)], args := [d1, d2, d3] }
  | _ => none }
def fnExactAboveRow : OpenClaim := { program := "ytdgnlpafmkhdjag", sum := "34534d9b293cca5102d070ed7510925361c4c4339d2c1e3c0ca1859c62bc92e5", func := "loop.example/g00161/laws.FnExactAbove", spec := "fnExactAbove", plainKeys := false, apart := false }
def FnExactAboveSaid : Prop := fnExactAboveRow.holds Try.pinned (OpenSpec.ofChange fnExactAboveSpec)

/-- ITS FALSE NEIGHBOUR: 'it returns false'. Refute it at one input. -/
def fnExactAboveWrong : ChangeSpec := { name := "fnExactAbove", fn := fun _ => fun
  | [d1, d2, d3] => { results := [.lit (.bool false)], args := [d1, d2, d3] }
  | _ => none }
def FnExactAboveWrongFalsely : Prop := fnExactAboveRow.holds Try.pinned (OpenSpec.ofChange fnExactAboveWrong)

/-- 'laws.FnExactNewHier': WHATEVER THE INPUT: true; the input reads as it did. -/
def fnExactNewHierSpec : ChangeSpec := { name := "fnExactNewHier", fn := fun _ => fun
  | [d] => { results := [.lit (.bool true)], args := [d] }
  | _ => none }
def fnExactNewHierRow : OpenClaim := { program := "ytdgnlpafmkhdjag", sum := "34534d9b293cca5102d070ed7510925361c4c4339d2c1e3c0ca1859c62bc92e5", func := "loop.example/g00161/laws.FnExactNewHier", spec := "fnExactNewHier", unfollowed := true, recurses := true, plainKeys := false, apart := false }
def FnExactNewHierSaid : Prop := fnExactNewHierRow.holds Try.pinned (OpenSpec.ofChange fnExactNewHierSpec)

/-- ITS FALSE NEIGHBOUR: 'it returns false'. Refute it at one input. -/
def fnExactNewHierWrong : ChangeSpec := { name := "fnExactNewHier", fn := fun _ => fun
  | [d] => { results := [.lit (.bool false)], args := [d] }
  | _ => none }
def FnExactNewHierWrongFalsely : Prop := fnExactNewHierRow.holds Try.pinned (OpenSpec.ofChange fnExactNewHierWrong)

/-- 'laws.FnExactHierOk': WHATEVER THE INPUT: true; the input reads as it did. -/
def fnExactHierOkSpec : ChangeSpec := { name := "fnExactHierOk", fn := fun _ => fun
  | [d1, d2] => { results := [.lit (.bool true)], args := [d1, d2] }
  | _ => none }
def fnExactHierOkRow : OpenClaim := { program := "ytdgnlpafmkhdjag", sum := "34534d9b293cca5102d070ed7510925361c4c4339d2c1e3c0ca1859c62bc92e5", func := "loop.example/g00161/laws.FnExactHierOk", spec := "fnExactHierOk", unfollowed := true, recurses := true, plainKeys := false, apart := false }
def FnExactHierOkSaid : Prop := fnExactHierOkRow.holds Try.pinned (OpenSpec.ofChange fnExactHierOkSpec)

/-- ITS FALSE NEIGHBOUR: 'it returns false'. Refute it at one input. -/
def fnExactHierOkWrong : ChangeSpec := { name := "fnExactHierOk", fn := fun _ => fun
  | [d1, d2] => { results := [.lit (.bool false)], args := [d1, d2] }
  | _ => none }
def FnExactHierOkWrongFalsely : Prop := fnExactHierOkRow.holds Try.pinned (OpenSpec.ofChange fnExactHierOkWrong)

/-- 'laws.FnExactCustomize': WHATEVER THE INPUT: true; the input reads as it did. -/
def fnExactCustomizeSpec : ChangeSpec := { name := "fnExactCustomize", fn := fun _ => fun
  | [d1, d2] => { results := [.lit (.bool true)], args := [d1, d2] }
  | _ => none }
def fnExactCustomizeRow : OpenClaim := { program := "ytdgnlpafmkhdjag", sum := "34534d9b293cca5102d070ed7510925361c4c4339d2c1e3c0ca1859c62bc92e5", func := "loop.example/g00161/laws.FnExactCustomize", spec := "fnExactCustomize", unfollowed := true, recurses := true, plainKeys := false, apart := false }
def FnExactCustomizeSaid : Prop := fnExactCustomizeRow.holds Try.pinned (OpenSpec.ofChange fnExactCustomizeSpec)

/-- ITS FALSE NEIGHBOUR: 'it returns false'. Refute it at one input. -/
def fnExactCustomizeWrong : ChangeSpec := { name := "fnExactCustomize", fn := fun _ => fun
  | [d1, d2] => { results := [.lit (.bool false)], args := [d1, d2] }
  | _ => none }
def FnExactCustomizeWrongFalsely : Prop := fnExactCustomizeRow.holds Try.pinned (OpenSpec.ofChange fnExactCustomizeWrong)

/- THE SECOND FORM. 'bulk': how many values and letters a reading holds, each counted each time it is reached (what is shared counts as often as it is met; a slice's spare places count too). A statement '..UptoSaid' is the law's where the arguments, and the package variables that the reading takes, are together of bulk at most 1048576: NARROWER than '..Said'. Prove '..Said' where nothing that the law and all that it calls make is longer than what came in: it says more and counts as full. Else prove '..UptoSaid'. A law counts once. -/
mutual
def uptoBulk {H : Type} : DataW H → Nat
  | .lit (.string bytes) => bytes.length + 1
  | .lit _ => 1
  | .nil => 1
  | .ptr d => uptoBulk d + 1
  | .slice elems spare => uptoBulkAll elems + uptoBulkAll spare + 1
  | .agg parts => uptoBulkAll parts + 1
  | .iface _ d => uptoBulk d + 1
  | .map entries => uptoBulkEntries entries + 1
  | .held _ => 1
def uptoBulkAll {H : Type} : List (DataW H) → Nat
  | [] => 0
  | d :: r => uptoBulk d + uptoBulkAll r
def uptoBulkEntries {H : Type} : List (Lit × DataW H) → Nat
  | [] => 0
  | x :: r => uptoBulkEntry x + uptoBulkEntries r
def uptoBulkEntry {H : Type} : Lit × DataW H → Nat
  | (.string bytes, d) => bytes.length + uptoBulk d + 1
  | (_, d) => uptoBulk d + 1
 end
def uptoSmall : (H : Type) → List (DataW H) → Bool := fun _ ds => decide (uptoBulkAll ds ≤ 1048576)
def OpenSpec.upto (s : _root_.Go.ChangeSpec) : _root_.Go.OpenSpec := { _root_.Go.OpenSpec.ofChange s with cond := some uptoSmall }

/-- 'laws.FnExactParents', WHERE WHAT IT READS IS OF BULK AT MOST 1048576: true; the input reads as it did. -/
def fnExactParentsUptoRow : OpenClaim := { program := "ytdgnlpafmkhdjag", sum := "34534d9b293cca5102d070ed7510925361c4c4339d2c1e3c0ca1859c62bc92e5", func := "loop.example/g00161/laws.FnExactParents", spec := "fnExactParents", plainKeys := false, apart := false, narrowed := true }
def FnExactParentsUptoSaid : Prop := fnExactParentsUptoRow.holds Try.pinned (OpenSpec.upto fnExactParentsSpec)

/-- 'laws.FnExactChordal', WHERE WHAT IT READS IS OF BULK AT MOST 1048576: true; the input reads as it did. -/
def fnExactChordalUptoRow : OpenClaim := { program := "ytdgnlpafmkhdjag", sum := "34534d9b293cca5102d070ed7510925361c4c4339d2c1e3c0ca1859c62bc92e5", func := "loop.example/g00161/laws.FnExactChordal", spec := "fnExactChordal", plainKeys := false, apart := false, narrowed := true }
def FnExactChordalUptoSaid : Prop := fnExactChordalUptoRow.holds Try.pinned (OpenSpec.upto fnExactChordalSpec)

/-- 'laws.FnExactAbove', WHERE WHAT IT READS IS OF BULK AT MOST 1048576: true; the input reads as it did. -/
def fnExactAboveUptoRow : OpenClaim := { program := "ytdgnlpafmkhdjag", sum := "34534d9b293cca5102d070ed7510925361c4c4339d2c1e3c0ca1859c62bc92e5", func := "loop.example/g00161/laws.FnExactAbove", spec := "fnExactAbove", plainKeys := false, apart := false, narrowed := true }
def FnExactAboveUptoSaid : Prop := fnExactAboveUptoRow.holds Try.pinned (OpenSpec.upto fnExactAboveSpec)

/-- 'laws.FnExactNewHier', WHERE WHAT IT READS IS OF BULK AT MOST 1048576: true; the input reads as it did. -/
def fnExactNewHierUptoRow : OpenClaim := { program := "ytdgnlpafmkhdjag", sum := "34534d9b293cca5102d070ed7510925361c4c4339d2c1e3c0ca1859c62bc92e5", func := "loop.example/g00161/laws.FnExactNewHier", spec := "fnExactNewHier", unfollowed := true, recurses := true, plainKeys := false, apart := false, narrowed := true }
def FnExactNewHierUptoSaid : Prop := fnExactNewHierUptoRow.holds Try.pinned (OpenSpec.upto fnExactNewHierSpec)

/-- 'laws.FnExactHierOk', WHERE WHAT IT READS IS OF BULK AT MOST 1048576: true; the input reads as it did. -/
def fnExactHierOkUptoRow : OpenClaim := { program := "ytdgnlpafmkhdjag", sum := "34534d9b293cca5102d070ed7510925361c4c4339d2c1e3c0ca1859c62bc92e5", func := "loop.example/g00161/laws.FnExactHierOk", spec := "fnExactHierOk", unfollowed := true, recurses := true, plainKeys := false, apart := false, narrowed := true }
def FnExactHierOkUptoSaid : Prop := fnExactHierOkUptoRow.holds Try.pinned (OpenSpec.upto fnExactHierOkSpec)

/-- 'laws.FnExactCustomize', WHERE WHAT IT READS IS OF BULK AT MOST 1048576: true; the input reads as it did. -/
def fnExactCustomizeUptoRow : OpenClaim := { program := "ytdgnlpafmkhdjag", sum := "34534d9b293cca5102d070ed7510925361c4c4339d2c1e3c0ca1859c62bc92e5", func := "loop.example/g00161/laws.FnExactCustomize", spec := "fnExactCustomize", unfollowed := true, recurses := true, plainKeys := false, apart := false, narrowed := true }
def FnExactCustomizeUptoSaid : Prop := fnExactCustomizeUptoRow.holds Try.pinned (OpenSpec.upto fnExactCustomizeSpec)

end Rows
end Go.Proofs.Ytdgnlpafmkhdjag
