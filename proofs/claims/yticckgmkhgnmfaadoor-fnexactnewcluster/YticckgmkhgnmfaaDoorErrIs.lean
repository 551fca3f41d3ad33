/-
  errors.Is of the program's own error (a number and the reason that it wraps), by its contracts: asked for that very reason, and of nil.
-/
import Derived.Test.YticckgmkhgnmfaaDoorBase
import Derived.WalkKit
import Derived.LaidEql
import Derived.Stop.Asserts
import Derived.RowKitTokens
set_option linter.unusedVariables false
set_option linter.unusedSimpArgs false
namespace Go.Proofs.YticckgmkhgnmfaaDoor
open Go.RowKit Go.Extern.Stop Go.Stop Go.Extern

/-- What Comparable of a type is, under a name of its own. -/
def comparableM : Array Value → Sem Value := Extern.ReflectliteType.method fun t => do Go.Extern.Rtype.noPackHeld "Comparable" t; pure (.bool (← typeInfo t).comparable)
theorem Tryd.isTypeOf (v : Value) (w : World) : (Extern.ReflectliteType.typeOf #[.iface 180 v]).run Tryd.prog w = .ok (.iface 168 (.agg #[.pointer (some ⟨4, 180, none⟩)])) w := by kernel_rfl
theorem Tryd.isComparable (w : World) : (comparableM #[.agg #[.pointer (some ⟨4, 180, none⟩)]]).run Tryd.prog w = .ok (.bool true) w := by kernel_rfl
theorem Tryd.isMethodComparable (v : Value) (w : World) : (Go.method 326 168 v "Comparable").run Tryd.prog w = .ok (139, v) w := by kernel_rfl
theorem Tryd.isComp : (Tryd.prog.info? 180).map (·.comparable) = some true := by kernel_rfl
theorem Tryd.isSize : (Tryd.prog.info? 207).map (·.size) = some 1 := by kernel_rfl
theorem Tryd.noIsE (v : Value) (xT : TypeId) (w : World) : (Instr.typeAssert (.iface 180 v) xT 170 true).run Tryd.prog w = .ok (.tuple #[.nilIface, .bool false]) w := run_typeAssert_lacksB Tryd.underlying170 (by kernel_rfl) (by kernel_rfl) v xT w
theorem Tryd.noUnwrapE (v : Value) (xT : TypeId) (w : World) : (Instr.typeAssert (.iface 180 v) xT 173 true).run Tryd.prog w = .ok (.tuple #[.nilIface, .bool false]) w := run_typeAssert_lacksB Tryd.underlying173 (by kernel_rfl) (by kernel_rfl) v xT w
theorem Tryd.noUnwrapsE (v : Value) (xT : TypeId) (w : World) : (Instr.typeAssert (.iface 180 v) xT 175 true).run Tryd.prog w = .ok (.tuple #[.nilIface, .bool false]) w := run_typeAssert_lacksB Tryd.underlying175 (by kernel_rfl) (by kernel_rfl) v xT w
theorem Tryd.noIsM (v : Value) (xT : TypeId) (w : World) : (Instr.typeAssert (.iface 165 v) xT 170 true).run Tryd.prog w = .ok (.tuple #[.nilIface, .bool false]) w := run_typeAssert_lacksB Tryd.underlying170 (by kernel_rfl) (by kernel_rfl) v xT w
theorem Tryd.hasUnwrapM (v : Value) (xT : TypeId) (w : World) : (Instr.typeAssert (.iface 165 v) xT 173 true).run Tryd.prog w = .ok (.tuple #[.iface 165 v, .bool true]) w := run_typeAssert_hasB Tryd.underlying173 (by kernel_rfl) v xT w
theorem Tryd.methodUnwrapM (v : Value) (w : World) : (Go.method 326 165 v "Unwrap").run Tryd.prog w = .ok (135, v) w := by kernel_rfl

/-- The program's own error: a number, and the reason that lies behind the pointer a. -/
abbrev mis (k : Int) (a : Addr) : Value := .iface 165 (.agg #[.int .i64 k, .iface 180 (.pointer (some a))])

theorem unwrapM_any (k : Int) (a : Addr) (w : World) :
    Calls Tryd.prog 135 #[.agg #[.int .i64 k, .iface 180 (.pointer (some a))]] w fun e w' => e = .returned (.iface 180 (.pointer (some a))) ∧ Below w.heap.size w w' := by
  go_enter Tryd.func135, Tryd.ntmps135
  go_wp2
  go_ret
  exact ⟨rfl, by first | exact Below.refl _ _ | exact (Below.refl _ _).alloc (Nat.le_refl _) _⟩

/-- errors.Is(nil, x). -/
theorem is_nil (b : Addr) (w : World) :
    Calls Tryd.prog 103 #[.nilIface, .iface 180 (.pointer (some b))] w fun e w' => e = .returned (.bool false) ∧ w' = w := by
  have hn := run_eql_iface_nil_left (P := Tryd.prog) w 180 (.pointer (some b)) Tryd.underlying149
  go_enter Tryd.func103, Tryd.ntmps103
  go_wp2
  go_ret
  exact ⟨rfl, rfl⟩

set_option maxHeartbeats 1000000 in
/-- errors.Is(e, x), e the program's error that wraps x itself: one Unwrap, then equal. -/
theorem is_mis (k : Int) (b : Addr) (w : World) :
    Calls Tryd.prog 103 #[mis k b, .iface 180 (.pointer (some b))] w fun e w' => e = .returned (.bool true) ∧ Below w.heap.size w w' := by
  obtain ⟨i, hi, hcmp⟩ := Option.map_eq_some_iff.1 Tryd.isComp
  obtain ⟨j, hj, hjs⟩ := Option.map_eq_some_iff.1 Tryd.isSize
  have h8 := @run_callFunc_extern Tryd.prog 110 _ Extern.ReflectliteType.typeOf Tryd.func110 (by kernel_rfl) (by kernel_rfl) (by kernel_rfl) (by kernel_rfl)
  have h32 := @run_callFunc_extern Tryd.prog 139 _ comparableM Tryd.func139 (by kernel_rfl) (by kernel_rfl) (by kernel_rfl) (by kernel_rfl)
  have tT := Tryd.isTypeOf
  have cT := Tryd.isComparable
  have mR := Tryd.isMethodComparable
  have nE := Tryd.noIsE
  have uE := Tryd.noUnwrapE
  have vE := Tryd.noUnwrapsE
  have nW := Tryd.noIsM
  have uW := Tryd.hasUnwrapM
  have mU := Tryd.methodUnwrapM
  have heq := fun w => run_eql_iface_ptr_same (P := Tryd.prog) w b Tryd.underlying149 Tryd.underlying180 hi hcmp hj
  have hty := run_eql_iface_types (P := Tryd.prog) 165 180 (.agg #[.int .i64 k, .iface 180 (.pointer (some b))]) (.pointer (some b)) Tryd.underlying149 (by decide) w
  go_enter Tryd.func103, Tryd.ntmps103
  go_wp2
  refine wp_loop_rounds 2 ?_
  rw [rounds_succ]
  go_wp2_with (go_at_call 135; refine (unwrapM_any k b _).mono ?_; rintro e w1 ⟨rfl, hb1⟩)
  rw [rounds_succ]
  go_wp2
  go_ret
  exact ⟨rfl, hb1⟩

end Go.Proofs.YticckgmkhgnmfaaDoor
