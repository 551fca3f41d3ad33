/-
  Helpers, merged: FitA, ErrAs, MrgI, MrgQ, EntA, MrgS, Fit, LogT, New, LogV, Draw.
-/
import Derived.Test.YtcmeppjfjledfacDoorPack4
import Derived.Test.YtcmeppjfjledfacDoorPack1
import Derived.Test.YtcmeppjfjledfacDoorPack2
import Derived.Deep.QuietTactic
import Derived.BigQuiet
/-
  The program's termAt and faultOfTerm, by their contracts.
-/
set_option linter.unusedVariables false
set_option linter.unusedSimpArgs false
namespace Go.Proofs.YtcmeppjfjledfacDoor
open Go.RowKit
attribute [local go_sem ↓] Go.wp_at_zero Go.wp_at_succ

/-- Does entry number i (0: what is ahead of the first) have the Term t? -/
def fitB (n : Nat) (T : Nat → Int) (i t : Int) : Bool := decide (0 ≤ i ∧ i ≤ n ∧ lastT i.toNat T = t)
abbrev vE (a : Addr) : Value := .iface 177 (.pointer (some a))

theorem termAt_in (ao : Option Addr) (n cap : Nat) (T : Nat → Int) (X : Nat → ByteArray) (i : Int) (hn : n ≤ 9223372036854775807) (hc : n ≤ cap) (h0 : 0 ≤ i) (h1 : i ≤ n) (w : World) (hr : NRow w ao n T X) :
    Calls Tryd.prog 51 #[.slice ao n cap, .int .i64 i] w fun e w' => e = .returned (.tuple #[.int .i64 (lastT i.toNat T), .nilIface]) ∧ w' = w := by
  obtain ⟨k, rfl⟩ : ∃ k : Nat, i = k := ⟨i.toNat, by omega⟩
  simp only [Int.toNat_natCast]
  have hl : k ≤ n := by omega
  have hL := fun ao' cap' W h => implLastTerm_any ao' k cap' T X (by omega) W h
  have hrk := hr.less hl
  generalize lastT k T = q at hL ⊢
  have h2 : ¬ (k : Int) < 0 := by omega
  have h3 : ¬ (n : Int) < (k : Int) := by omega
  go_enter Tryd.func51, Tryd.ntmps51
  go_wp2_with fail
  refine (hL _ _ _ hrk).mono ?_
  rintro e w1 ⟨rfl, hq⟩
  have hq' := hq.symm
  subst hq'
  clear hq
  go_wp2
  exact bodyPost_ret (v := .tuple #[.int .i64 q, .nilIface]) (by simp [results, Tryd.results51, go_sem]) rfl ⟨rfl, rfl⟩

theorem termAt_out (ao : Option Addr) (n cap : Nat) (i : Int) (a : Addr) (hn : n ≤ 9223372036854775807) (h : i < 0 ∨ (n : Int) < i) (w : World) (hV : w.cell? ⟨0, 0, none⟩ = some (vE a)) :
    Calls Tryd.prog 51 #[.slice ao n cap, .int .i64 i] w fun e w' => e = .returned (.tuple #[.int .i64 0, mis i a]) ∧ Below w.heap.size w w' := by
  by_cases h1 : i < 0
  · go_enter Tryd.func51, Tryd.ntmps51
    go_wp2
    go_quiet (fail)
    go_wp2
    exact bodyPost_ret (v := .tuple #[.int .i64 0, mis i a]) (by simp [results, Tryd.results51, go_sem]) rfl ⟨rfl, below_drewN (Below.refl _ _) _⟩
  · have h2 : (n : Int) < i := by omega
    go_enter Tryd.func51, Tryd.ntmps51
    go_wp2
    go_quiet (fail)
    go_wp2
    exact bodyPost_ret (v := .tuple #[.int .i64 0, mis i a]) (by simp [results, Tryd.results51, go_sem]) rfl ⟨rfl, below_drewN (Below.refl _ _) _⟩

/-- What the program says of entry number i: nil where its Term is t, else an error of its own make at that number. -/
theorem faultOfTerm_any (ao : Option Addr) (n cap : Nat) (T : Nat → Int) (X : Nat → ByteArray) (i t : Int) (aE aO : Addr) (hn : n ≤ 9223372036854775807) (hc : n ≤ cap) (w : World) (hr : NRow w ao n T X)
    (hE : w.cell? ⟨0, 0, none⟩ = some (vE aE)) (hO : w.cell? ⟨2, 0, none⟩ = some (vE aO)) :
    Calls Tryd.prog 54 #[.slice ao n cap, .int .i64 i, .int .i64 t] w fun e w' => (fitB n T i t = true ∧ e = .returned .nilIface ∨ fitB n T i t = false ∧ ∃ a, e = .returned (mis i a)) ∧ Below w.heap.size w w' := by
  by_cases h : i < 0 ∨ (n : Int) < i
  · have hf : fitB n T i t = false := decide_eq_false (by omega)
    rw [hf]
    have hA := fun W h1 => termAt_out ao n cap i aE hn h W h1
    go_enter Tryd.func54, Tryd.ntmps54
    go_wp2_with fail
    refine (hA _ hE).mono ?_
    rintro e w1 ⟨rfl, hb1⟩
    go_wp2
    go_ret
    exact ⟨Or.inr ⟨trivial, _, rfl⟩, hb1⟩
  have hA := fun W h1 => termAt_in ao n cap T X i hn hc (by omega) (by omega) W h1
  by_cases ht : lastT i.toNat T = t
  · have hf : fitB n T i t = true := decide_eq_true ⟨by omega, by omega, ht⟩
    rw [hf]
    rw [ht] at hA
    go_enter Tryd.func54, Tryd.ntmps54
    go_wp2_with fail
    refine (hA _ hr).mono ?_
    rintro e w1 ⟨rfl, hq⟩
    have hq' := hq.symm
    subst hq'
    clear hq
    go_wp2
    go_ret
    exact ⟨Or.inl ⟨trivial, rfl⟩, Below.refl _ _⟩
  · have hf : fitB n T i t = false := decide_eq_false (by omega)
    rw [hf]
    generalize lastT i.toNat T = q at hA ht
    go_enter Tryd.func54, Tryd.ntmps54
    go_wp2_with fail
    refine (hA _ hr).mono ?_
    rintro e w1 ⟨rfl, hq⟩
    have hq' := hq.symm
    subst hq'
    clear hq
    go_wp2
    go_ret
    exact ⟨Or.inr ⟨trivial, _, rfl⟩, by first | exact Below.refl _ _ | exact below_drewN (Below.refl _ _) _⟩

end Go.Proofs.YtcmeppjfjledfacDoor

/-
  errors.As of the program's own error (a struct: a number and the reason that it wraps) at a variable of that very type, by its contract: the variable is set. And of nil.
-/
set_option linter.unusedVariables false
set_option linter.unusedSimpArgs false
namespace Go.Proofs.YtcmeppjfjledfacDoor
open Go.RowKit Go.Extern.Stop Go.Stop Go.Extern

/-- errors.As(nil, target). -/
theorem as_nil (t : Value) (w : World) :
    Calls Tryd.prog 74 #[.nilIface, t] w fun e w' => e = .returned (.bool false) ∧ w' = w := by
  go_enter Tryd.func74, Tryd.ntmps74
  go_wp2
  go_ret
  exact ⟨rfl, rfl⟩

/-- Kind of a type, under a name of its own. -/
def kindM : Array Value → Sem Value := ReflectliteType.abiMethod fun t => do pure (.int .u8 (← Rtype.kind t))
/-- The handle of a type. -/
abbrev hdl (t : Nat) : Value := .pointer (some ⟨8, t, none⟩)
theorem Tryd.valueOfP (t : Addr) (w : World) : (ReflectliteValue.unpack (.iface 115 (.pointer (some t)))).run Tryd.prog w
    = .ok (.agg #[hdl 115, .pointer (some ⟨w.heap.size, 0, none⟩), .int .u64 150]) (w.alloc (.cells #[.pointer (some t)] 115)) := by kernel_rfl
theorem Tryd.typeP (a : Addr) (w : World) : (ReflectliteValue.methodAny (ReflectliteValue.valueError "reflectlite.Value.Type" 0) (fun t _ _ _ => ReflectliteType.toType t) #[.agg #[hdl 115, .pointer (some a), .int .u64 150]]).run Tryd.prog w
    = .ok (.iface 130 (.agg #[hdl 115])) w := by kernel_rfl
theorem Tryd.methodKind (h : Value) (w : World) : (Go.method 316 130 (.agg #[h]) "Kind").run Tryd.prog w = .ok (120, h) w := by kernel_rfl
theorem Tryd.kindP (w : World) : (kindM #[hdl 115]).run Tryd.prog w = .ok (.int .u8 22) w := by kernel_rfl
theorem Tryd.kindS (w : World) : (kindM #[hdl 107]).run Tryd.prog w = .ok (.int .u8 25) w := by kernel_rfl
theorem rl_m (z : Sem Value) (f : TypeId → Addr → Nat → Nat → Sem Value) (v : Value) :
    ReflectliteValue.method z f #[v] = (do match ← ReflectliteValue.parts v with | none => z | some (t, a, fl) => f t a fl (fl % 32)) := rfl
theorem Tryd.partsP (a : Addr) (w : World) : (ReflectliteValue.parts (.agg #[hdl 115, .pointer (some a), .int .u64 150])).run Tryd.prog w = .ok (some (115, a, 150)) w := by kernel_rfl
theorem Tryd.isNilP (a p : Addr) (W : World) (ha : W.cell? a = some (.pointer (some p))) :
    (ReflectliteValue.method (ReflectliteValue.valueError "reflectlite.Value.IsNil" 0) ReflectliteValue.isNil #[.agg #[hdl 115, .pointer (some a), .int .u64 150]]).run Tryd.prog W = .ok (.bool false) W := by
  rw [rl_m]
  simp only [Sem.run_bind, Tryd.partsP, Result.andThen]
  simp [ReflectliteValue.isNil, loadVar, isAgg, underlying, Tryd.underlying115, ha, Result.andThen]
theorem Tryd.methodElem (h : Value) (w : World) : (Go.method 316 130 (.agg #[h]) "Elem").run Tryd.prog w = .ok (132, .agg #[h]) w := by kernel_rfl
theorem Tryd.methodImplements (h : Value) (w : World) : (Go.method 316 130 (.agg #[h]) "Implements").run Tryd.prog w = .ok (133, .agg #[h]) w := by kernel_rfl
theorem Tryd.methodAssignableTo (h : Value) (w : World) : (Go.method 316 130 (.agg #[h]) "AssignableTo").run Tryd.prog w = .ok (130, .agg #[h]) w := by kernel_rfl
theorem Tryd.elemP (w : World) : (ReflectliteType.method ReflectliteType.elem #[.agg #[hdl 115]]).run Tryd.prog w = .ok (.iface 130 (.agg #[hdl 107])) w := by kernel_rfl
theorem Tryd.implementsS (w : World) : (ReflectliteType.relation "Implements" ReflectliteType.implements_ #[.agg #[hdl 107], .iface 130 (.agg #[hdl 77])]).run Tryd.prog w = .ok (.bool true) w := by kernel_rfl
theorem Tryd.typeOfS (v : Value) (w : World) : (ReflectliteType.typeOf #[.iface 107 v]).run Tryd.prog w = .ok (.iface 130 (.agg #[hdl 107])) w := by kernel_rfl
theorem Tryd.assignableS (w : World) : (ReflectliteType.relation "AssignableTo" ReflectliteType.assignableTo #[.agg #[hdl 107], .iface 130 (.agg #[hdl 107])]).run Tryd.prog w = .ok (.bool true) w := by kernel_rfl
theorem Tryd.valueOfS (k : Int) (a : Addr) (w : World) : (ReflectliteValue.unpack (mis k a)).run Tryd.prog w
    = .ok (.agg #[hdl 107, .pointer (some ⟨w.heap.size, 0, none⟩), .int .u64 153]) (w.alloc (.cells #[.int .i64 k, .iface 177 (.pointer (some a))] 107)) := by kernel_rfl
theorem Tryd.elemOfP (w : World) : (Rtype.elem? 115).run Tryd.prog w = .ok (some 107) w := by kernel_rfl
theorem Tryd.mkS (p : Addr) (w : World) : (ReflectliteValue.mk 107 p ReflectliteValue.flagAddr).run Tryd.prog w = .ok (.agg #[hdl 107, .pointer (some p), .int .u64 409]) w := by kernel_rfl
theorem Tryd.elemVP (a p : Addr) (W : World) (ha : W.cell? a = some (.pointer (some p))) :
    (ReflectliteValue.method (ReflectliteValue.valueError "reflectlite.Value.Elem" 0) ReflectliteValue.elem #[.agg #[hdl 115, .pointer (some a), .int .u64 150]]).run Tryd.prog W
      = .ok (.agg #[hdl 107, .pointer (some p), .int .u64 409]) W := by
  rw [rl_m]
  simp only [Sem.run_bind, Tryd.partsP, Result.andThen]
  simp [ReflectliteValue.elem, loadVar, isAgg, underlying, Tryd.underlying115, ha, Result.andThen, Tryd.elemOfP, Tryd.mkS]
theorem rl_s (v x : Value) : ReflectliteValue.set #[v, x] = (do
    let (some (dst, a, fl), some (src, b, _)) := (← ReflectliteValue.parts v, ← ReflectliteValue.parts x)
      | unsupported (.noEntry "extern/(internal/reflectlite.Value).Set.zeroValue")
    if fl / ReflectliteValue.flagAddr % 2 == 0 then unsupported (.noEntry "extern/(internal/reflectlite.Value).Set.unaddressable")
    let val ← loadVar src b
    if ← Rtype.directlyAssignable dst src then storeVar dst a val
    else if ← Rtype.implements dst src then
      if (← Rtype.kind src) == 20 then
        match val with
        | .nilIface => unsupported (.noEntry "extern/reflectlite: a nil value of one interface type handed on as a value of another")
        | _ => storeVar dst a val
      else storeVar dst a (.iface src val)
    else panicString ("reflectlite.Set: value of type " ++ (← Rtype.spelt src) ++ " is not assignable to type " ++ (← Rtype.spelt dst))
    pure (.tuple #[])) := rfl
theorem Tryd.partsSa (a : Addr) (w : World) : (ReflectliteValue.parts (.agg #[hdl 107, .pointer (some a), .int .u64 409])).run Tryd.prog w = .ok (some (107, a, 409)) w := by kernel_rfl
theorem Tryd.partsS (a : Addr) (w : World) : (ReflectliteValue.parts (.agg #[hdl 107, .pointer (some a), .int .u64 153])).run Tryd.prog w = .ok (some (107, a, 153)) w := by kernel_rfl
theorem Tryd.directS (w : World) : (Rtype.directlyAssignable 107 107).run Tryd.prog w = .ok true w := by kernel_rfl
theorem Tryd.sizeS (w : World) : (sizeOf 107).run Tryd.prog w = .ok 2 w := by kernel_rfl
theorem Tryd.aggS (w : World) : (isAgg 107).run Tryd.prog w = .ok true w := by kernel_rfl
/-- (Value).Set: the struct's variable in block tb gets what the Value's own variable in block b holds. -/
theorem Tryd.setS (tb b : Nat) (v0 v1 o0 o1 : Value) (W : World) (h0 : v0.oneCell' = true) (h1 : v1.oneCell' = true) (hb0 : W.cell? ⟨b, 0, none⟩ = some v0) (hb1 : W.cell? ⟨b, 1, none⟩ = some v1) (ht : W.heap[tb]? = some (.cells #[o0, o1] 107 (0, 0))) :
    (ReflectliteValue.set #[.agg #[hdl 107, .pointer (some ⟨tb, 0, none⟩), .int .u64 409], .agg #[hdl 107, .pointer (some ⟨b, 0, none⟩), .int .u64 153]]).run Tryd.prog W
      = .ok (.tuple #[]) (W.setRow tb #[v0, v1]) := by
  have hl := run_loadCells (P := Tryd.prog) W ⟨b, 0, none⟩ 2 (fun j => if j = 0 then v0 else v1) (fun j hj => by
    have : j = 0 ∨ j = 1 := by omega
    rcases this with rfl | rfl
    · simpa [Addr.add] using hb0
    · simpa [Addr.add] using hb1)
  have hs := run_storeCells_at (P := Tryd.prog) tb 0 107 [v0, v1] 0 _ W ht (by simp) (by simp [h0, h1])
  simp at hs
  rw [rl_s]
  simp only [Sem.run_bind, Tryd.partsSa, Tryd.partsS, Result.andThen]
  simp [ReflectliteValue.flagAddr, loadVar, Tryd.aggS, Tryd.sizeS, hl, Result.andThen, Tryd.directS, storeVar, Value.cells, List.range, List.range.loop, hs]

theorem setRow_below {W : World} {tb : Nat} (cs : Array Value) : Below tb W (W.setRow tb cs) :=
  ⟨rfl, rfl, rfl, by simp [World.setRow], fun k hk => by
    have : tb ≠ k := by omega
    simp [World.setRow, Array.getElem?_modify, this]⟩
theorem setRow_cell {W : World} {tb j : Nat} {c cs : Array Value} {t : TypeId} {fr : Nat × Nat} {v : Value} (h : W.heap[tb]? = some (.cells c t fr)) (hv : cs[j]? = some v) : (W.setRow tb cs).cell? ⟨tb, j, none⟩ = some v := by
  simp [World.cell?, World.setRow, Array.getElem?_modify, h, hv]

set_option maxHeartbeats 4000000 in
theorem as_mis (k : Int) (a : Addr) (tb : Nat) (o0 o1 : Value) (w : World) (hg : w.cell? ⟨3, 0, none⟩ = some (.iface 130 (.agg #[hdl 77]))) (ht : w.heap[tb]? = some (.cells #[o0, o1] 107 (0, 0))) :
    Calls Tryd.prog 74 #[mis k a, .iface 115 (.pointer (some ⟨tb, 0, none⟩))] w fun e w' => e = .returned (.bool true) ∧ w'.cell? ⟨tb, 0, none⟩ = some (.int .i64 k) ∧ Below tb w w' := by
  have h6 := @run_callFunc_extern Tryd.prog 84 _ (fun args => ReflectliteValue.unpack (args.getD 0 (.tuple #[]))) Tryd.func84 (by kernel_rfl) (by kernel_rfl) (by kernel_rfl) (by kernel_rfl)
  have h7 := @run_callFunc_extern Tryd.prog 85 _ (ReflectliteValue.methodAny (ReflectliteValue.valueError "reflectlite.Value.Type" 0) (fun t _ _ _ => ReflectliteType.toType t)) Tryd.func85 (by kernel_rfl) (by kernel_rfl) (by kernel_rfl) (by kernel_rfl)
  have h8 := @run_callFunc_extern Tryd.prog 86 _ (ReflectliteValue.method (ReflectliteValue.valueError "reflectlite.Value.IsNil" 0) ReflectliteValue.isNil) Tryd.func86 (by kernel_rfl) (by kernel_rfl) (by kernel_rfl) (by kernel_rfl)
  have h27 := @run_callFunc_extern Tryd.prog 120 _ kindM Tryd.func120 (by kernel_rfl) (by kernel_rfl) (by kernel_rfl) (by kernel_rfl)
  have h37 := @run_callFunc_extern Tryd.prog 132 _ (ReflectliteType.method ReflectliteType.elem) Tryd.func132 (by kernel_rfl) (by kernel_rfl) (by kernel_rfl) (by kernel_rfl)
  have h38 := @run_callFunc_extern Tryd.prog 133 _ (ReflectliteType.relation "Implements" ReflectliteType.implements_) Tryd.func133 (by kernel_rfl) (by kernel_rfl) (by kernel_rfl) (by kernel_rfl)
  have h10 := @run_callFunc_extern Tryd.prog 72 _ ReflectliteType.typeOf Tryd.func72 (by kernel_rfl) (by kernel_rfl) (by kernel_rfl) (by kernel_rfl)
  have h35 := @run_callFunc_extern Tryd.prog 130 _ (ReflectliteType.relation "AssignableTo" ReflectliteType.assignableTo) Tryd.func130 (by kernel_rfl) (by kernel_rfl) (by kernel_rfl) (by kernel_rfl)
  have h11 := @run_callFunc_extern Tryd.prog 96 _ (ReflectliteValue.method (ReflectliteValue.valueError "reflectlite.Value.Elem" 0) ReflectliteValue.elem) Tryd.func96 (by kernel_rfl) (by kernel_rfl) (by kernel_rfl) (by kernel_rfl)
  have h12 := @run_callFunc_extern Tryd.prog 97 _ ReflectliteValue.set Tryd.func97 (by kernel_rfl) (by kernel_rfl) (by kernel_rfl) (by kernel_rfl)
  have tO := Tryd.typeOfS
  have mA := Tryd.methodAssignableTo
  have aS := Tryd.assignableS
  have vS := Tryd.valueOfS
  have fP := Tryd.valueOfP
  have tP := Tryd.typeP
  have mK := Tryd.methodKind
  have mE := Tryd.methodElem
  have mI := Tryd.methodImplements
  have kP := Tryd.kindP
  have kS := Tryd.kindS
  have eP := Tryd.elemP
  have iS := Tryd.implementsS
  have hlt : 3 < w.heap.size := lt_of_cell hg
  have htl : tb < w.heap.size := (Array.getElem?_eq_some_iff.1 ht).1
  have n8 := Tryd.isNilP ⟨w.heap.size, 0, none⟩ ⟨tb, 0, none⟩ ((w.alloc (.cells #[.pointer (some ⟨tb, 0, none⟩)] 115)).alloc (.cells #[hdl 115, .pointer (some ⟨w.heap.size, 0, none⟩), .int .u64 150] 143)) (by simp)
  have hg2 : ((w.alloc (.cells #[.pointer (some ⟨tb, 0, none⟩)] 115)).alloc (.cells #[hdl 115, .pointer (some ⟨w.heap.size, 0, none⟩), .int .u64 150] 143)).cell? ⟨3, 0, none⟩ = some (.iface 130 (.agg #[hdl 77])) := by
    rw [World.cell?_alloc_lt _ _ ⟨3, 0, none⟩ (by simp; omega), World.cell?_alloc_lt _ _ ⟨3, 0, none⟩ hlt]; exact hg
  have el := Tryd.elemVP ⟨w.heap.size, 0, none⟩ ⟨tb, 0, none⟩ (((w.alloc (.cells #[.pointer (some ⟨tb, 0, none⟩)] 115)).alloc (.cells #[hdl 115, .pointer (some ⟨w.heap.size, 0, none⟩), .int .u64 150] 143)).alloc (.cells #[hdl 115, .pointer (some ⟨w.heap.size, 0, none⟩), .int .u64 150] 143)) (by rw [World.cell?_alloc_lt _ _ ⟨w.heap.size, 0, none⟩ (by simp; omega)]; simp)
  have hB4 : Below w.heap.size w ((((w.alloc (.cells #[.pointer (some ⟨tb, 0, none⟩)] 115)).alloc (.cells #[hdl 115, .pointer (some ⟨w.heap.size, 0, none⟩), .int .u64 150] 143)).alloc (.cells #[hdl 115, .pointer (some ⟨w.heap.size, 0, none⟩), .int .u64 150] 143)).alloc (.cells #[.int .i64 k, .iface 177 (.pointer (some a))] 107)) := ((((Below.refl _ _).alloc (Nat.le_refl _) _).alloc (by simp) _).alloc (by simp; omega) _).alloc (by simp; omega) _
  have st := Tryd.setS tb (w.heap.size + 1 + 1 + 1) (.int .i64 k) (.iface 177 (.pointer (some a))) o0 o1 ((((w.alloc (.cells #[.pointer (some ⟨tb, 0, none⟩)] 115)).alloc (.cells #[hdl 115, .pointer (some ⟨w.heap.size, 0, none⟩), .int .u64 150] 143)).alloc (.cells #[hdl 115, .pointer (some ⟨w.heap.size, 0, none⟩), .int .u64 150] 143)).alloc (.cells #[.int .i64 k, .iface 177 (.pointer (some a))] 107)) rfl rfl
    (by rw [World.cell?_alloc_at _ _ _ _ (by simp)]; rfl) (by rw [World.cell?_alloc_at _ _ _ _ (by simp)]; rfl) (by rw [hB4.block tb htl]; exact ht)
  go_enter Tryd.func74, Tryd.ntmps74
  go_wp2
  refine wp_loop_rounds 1 ?_
  rw [rounds_succ]
  go_wp2
  go_ret
  exact ⟨rfl, setRow_cell (by rw [hB4.block tb htl]; exact ht) rfl, (hB4.mono (Nat.le_of_lt htl)).trans (setRow_below _)⟩

end Go.Proofs.YtcmeppjfjledfacDoor

/-
  Merge, the program's, by its contract.
-/
set_option linter.unusedVariables false
set_option linter.unusedSimpArgs false
namespace Go.Proofs.YtcmeppjfjledfacDoor
open Go.RowKit
attribute [local go_sem ↓] Go.wp_at_zero Go.wp_at_succ

theorem agF_fit {n : Nat} {T U : Nat → Int} {i k : Nat} : fitB n T ((i : Int) + 1 + (k : Int)) (U k) = agF n T U i k := by
  have e : ((i : Int) + 1 + (k : Int)).toNat = i + k + 1 := by omega
  unfold fitB agF lastT
  rw [e, if_neg (by omega)]
  simp only [Nat.add_sub_cancel]
  congr 1
  apply propext
  constructor
  · rintro ⟨_, h2, h3⟩; exact ⟨by omega, h3⟩
  · rintro ⟨h2, h3⟩; exact ⟨by omega, by omega, h3⟩

set_option maxHeartbeats 1000000 in
theorem faultOfEntries_any (ao : Option Addr) (n cap : Nat) (T : Nat → Int) (X : Nat → ByteArray) (i : Nat) (bo : Option Addr) (m bcap : Nat) (U : Nat → Int) (Y : Nat → ByteArray) (aE aO : Addr) (hn : n ≤ 200) (hc : n ≤ cap) (hi : i ≤ n) (hm : m ≤ 1048576) (w : World) (hr : NRow w ao n T X) (hs : NRow w bo m U Y)
    (hE : w.cell? ⟨0, 0, none⟩ = some (vE aE)) (hO : w.cell? ⟨2, 0, none⟩ = some (vE aO)) :
    Calls Tryd.prog 75 #[.slice ao n cap, .int .i64 i, .slice bo m bcap] w fun e w' => (agN n T i m U = m ∧ e = .returned .nilIface ∨ agN n T i m U < m ∧ ∃ a, e = .returned (mis ((i : Int) + 1 + (agN n T i m U : Int)) a)) ∧ Below w.heap.size w w' := by
  have HA : Hid (∀ k, k ≤ m → (∀ j, j < k → agF n T U i j = true) → (k < m → agF n T U i k = false) → agN n T i m U = k) := fun k h1 h2 h3 => ag_is h1 h2 h3
  generalize agN n T i m U = K at HA ⊢
  go_enter Tryd.func75, Tryd.ntmps75
  go_wp2
  go_loopw [12] (fun q wr => ∃ k : Nat, k ≤ m ∧ q = .int .i64 k ∧ (∀ j, j < k → agF n T U i j = true) ∧ Below w.heap.size w wr) (fun q _ => m - (intOf q).toNat)
  case atStart => exact ⟨0, Nat.zero_le _, rfl, fun j hj => by omega, Below.refl _ _⟩
  case round =>
    obtain ⟨k, hk, rfl, hat, hbel⟩ := hrel
    by_cases hlt : k < m
    rotate_left
    · have hkn : k = m := by omega
      subst hkn
      go_wp2
      go_ret
      exact ⟨Or.inl ⟨HA.out k (Nat.le_refl _) hat (fun h => by omega), rfl⟩, hbel⟩
    obtain ⟨b, o, hao, c0, c1⟩ := (hs.below hbel (Nat.le_refl _)) k hlt
    subst hao
    have hk1 : (0 : Int) ≤ (k : Int) := by omega
    have hk2 : (k : Int) < (m : Int) := by omega
    have w1 : IntKind.i64.wrap ((i : Int) + 1) = (i : Int) + 1 := by rw [IntKind.wrap_i64]; omega
    have w2 : IntKind.i64.wrap ((i : Int) + 1 + (k : Int)) = (i : Int) + 1 + (k : Int) := by rw [IntKind.wrap_i64]; omega
    have hF := fun W h1 h2 h3 => faultOfTerm_any ao n cap T X ((i : Int) + 1 + (k : Int)) (U k) aE aO (by omega) hc W h1 h2 h3
    rw [agF_fit] at hF
    have hbA : ∀ o, Below w.heap.size w (wr.alloc o) := fun o => hbel.alloc hbel.size o
    obtain ⟨g, hg⟩ : ∃ g, agF n T U i k = g := ⟨_, rfl⟩
    rw [hg] at hF
    cases g
    · simp only [Bool.false_eq_true, false_and, true_and, false_or] at hF
      go_wp2_with fail
      refine (hF _ (hr.below (hbA _) (Nat.le_refl _)) (keep_cell (hbA _) (Nat.le_refl _) hE) (keep_cell (hbA _) (Nat.le_refl _) hO)).mono ?_
      rintro e W1 ⟨⟨a, rfl⟩, hb1⟩
      go_wp2
      go_ret
      have hKk := HA.out k hk hat (fun _ => hg)
      exact ⟨Or.inr ⟨by omega, a, by rw [hKk]; rfl⟩, below_next (hbA _) (Nat.le_refl _) hb1⟩
    · simp only [true_and, Bool.true_eq_false, false_and, or_false] at hF
      go_wp2_with fail
      refine (hF _ (hr.below (hbA _) (Nat.le_refl _)) (keep_cell (hbA _) (Nat.le_refl _) hE) (keep_cell (hbA _) (Nat.le_refl _) hO)).mono ?_
      rintro e W1 ⟨rfl, hb1⟩
      go_wp2
      go_roundw
      case rel =>
        refine ⟨k + 1, by omega, by go_num, fun j hj => ?_, below_next (hbA _) (Nat.le_refl _) hb1⟩
        by_cases e : j = k
        · subst e; exact hg
        · exact hat j (by omega)
      case measure => simp [intOf]; omega

set_option maxHeartbeats 2000000 in
theorem mergedBehind_any (ao : Option Addr) (n cap : Nat) (T : Nat → Int) (X : Nat → ByteArray) (i : Nat) (bo : Option Addr) (m bcap : Nat) (U : Nat → Int) (Y : Nat → ByteArray) (aE aO : Addr) (hn : n ≤ 200) (hc : n ≤ cap) (hi : i ≤ n) (hm : m ≤ 1048576) (hbc : m ≤ bcap) (w : World) (hr : NRow w ao n T X) (hs : NRow w bo m U Y)
    (hE : w.cell? ⟨0, 0, none⟩ = some (vE aE)) (hO : w.cell? ⟨2, 0, none⟩ = some (vE aO)) (hT : w.cell? ⟨3, 0, none⟩ = some (.iface 130 (.agg #[hdl 77]))) :
    Calls Tryd.prog 53 #[.slice ao n cap, .int .i64 i, .slice bo m bcap] w fun e w' => ∃ ao' cap', e = .returned (.slice ao' (mN n i m (agN n T i m U)) cap') ∧ mN n i m (agN n T i m U) ≤ cap' ∧ NOwn w w' ao' (mN n i m (agN n T i m U)) (mV m (agN n T i m U) i T U) (mV m (agN n T i m U) i X Y) ∧ Below w.heap.size w w' := by
  have hkn := agN_in (T := T) (m := m) (U := U) hi
  have hF := fun W h1 h2 h3 h4 => faultOfEntries_any ao n cap T X i bo m bcap U Y aE aO hn hc hi hm W h1 h2 h3 h4
  generalize agN n T i m U = K at hkn hF ⊢
  have hb0 : ∀ o, Below w.heap.size w (w.alloc o) := fun o => (Below.refl _ _).alloc (Nat.le_refl _) o
  go_enter Tryd.func53, Tryd.ntmps53
  go_wp2_with fail
  refine (hF _ (hr.below (hb0 _) (Nat.le_refl _)) (hs.below (hb0 _) (Nat.le_refl _)) (keep_cell (hb0 _) (Nat.le_refl _) hE) (keep_cell (hb0 _) (Nat.le_refl _) hO)).mono ?_
  rintro e w1 ⟨hh, hb1⟩
  have hA1 := below_next (hb0 _) (Nat.le_refl _) hb1
  have hbx : w1.heap[w.heap.size]? = some (.cells #[.int .i64 0, .nilIface] 107 (0, 0)) := by rw [hb1.block _ (by simp)]; exact Go.Deep.blk_alloc_new _ _
  clear hb1
  rcases hh with ⟨hK, rfl⟩ | ⟨hK, a, rfl⟩
  · go_wp2_with fail
    refine (as_nil _ _).mono ?_
    rintro e w2 ⟨rfl, hq⟩
    have hq' := hq.symm
    subst hq'
    clear hq
    go_wp2_with fail
    refine (cloneN_any ao n cap T X (by omega) _ (hr.below hA1 (Nat.le_refl _))).mono ?_
    rintro e w3 ⟨ao', cap', rfl, hc3, hO3, hb3⟩
    go_wp2
    go_ret
    rw [mN_no (by omega), mV_no (by omega), mV_no (by omega)]
    refine ⟨ao', cap', rfl, hc3, fun h => ?_, below_next hA1 (Nat.le_refl _) hb3⟩
    obtain ⟨g, e, hg, hN⟩ := hO3 h
    exact ⟨g, e, Nat.le_trans hA1.size hg, hN⟩
  · obtain ⟨b2, o2, hao2, _⟩ := hs 0 (by omega)
    subst hao2
    go_wp2_with fail
    refine (as_mis _ a w.heap.size _ _ _ (keep_cell hA1 (Nat.le_refl _) hT) hbx).mono ?_
    rintro e w2 ⟨rfl, hcell, hb2⟩
    have hA2 : Below w.heap.size w w2 := hA1.trans hb2
    clear hbx hb2
    have e1 : IntKind.i64.wrap ((i : Int) + 1 + (K : Int) - 1) = ((i + K : Nat) : Int) := by rw [IntKind.wrap_i64]; omega
    have e2 : IntKind.i64.wrap (((i + K : Nat) : Int) - (i : Int)) = (K : Int) := by rw [IntKind.wrap_i64]; omega
    have hk3 : (K : Int) ≤ (m : Int) := by omega
    have hk4 : ((i + K : Nat) : Int) ≤ (n : Int) := by omega
    have f1 : (0 : Int) ≤ (i : Int) + (K : Int) := by omega
    have f2 : (i : Int) + (K : Int) ≤ (cap : Int) := by omega
    have f3 : ((i : Int) + (K : Int)).toNat = i + K := by omega
    have f4 : (i : Int) + (K : Int) - (i : Int) = (K : Int) := by omega
    have f5 : K ≤ m := by omega
    have f6 : K < bcap := by omega
    have f7 : IntKind.i64.wrap ((i : Int) + (K : Int) - (i : Int)) = (K : Int) := by rw [IntKind.wrap_i64]; omega
    go_wp2_with fail
    refine wp_region_held_drew (S := fun _ => True) (by kernel_rfl) trivial (fun _ => ?_)
    refine takeH 0 (some 21) (.slice ao n cap) rfl rfl (by kernel_rfl) (by kernel_rfl) (by kernel_rfl) (fun _ _ _ h => h) (by rfl) trivial (fun w _ => by go_simp <;> first | omega | (rw [IntKind.wrap_i64]; omega)) ?_
    simp only [Act.put, List.setIfInBounds_toArray, List.set_cons_zero, List.set_cons_succ]
    refine takeH 1 (some 22) (.int .i64 ((i : Int) + (K : Int))) rfl rfl (by kernel_rfl) (by kernel_rfl) (by kernel_rfl) (fun _ _ _ h => h) (by rfl) trivial (fun w _ => by go_simp <;> first | omega | (rw [IntKind.wrap_i64]; omega)) ?_
    simp only [Act.put, List.setIfInBounds_toArray, List.set_cons_zero, List.set_cons_succ]
    refine takeH 2 (some 23) (.slice ao (i + K) cap) rfl rfl (by kernel_rfl) (by kernel_rfl) (by kernel_rfl) (fun _ _ _ h => h) (by rfl) trivial (fun w _ => by go_simp <;> first | omega | (rw [IntKind.wrap_i64]; omega)) ?_
    simp only [Act.put, List.setIfInBounds_toArray, List.set_cons_zero, List.set_cons_succ]
    refine takeH 3 (some 24) (.slice (some ⟨b2, o2, none⟩) m bcap) rfl rfl (by kernel_rfl) (by kernel_rfl) (by kernel_rfl) (fun _ _ _ h => h) (by rfl) trivial (fun w _ => by go_simp <;> first | omega | (rw [IntKind.wrap_i64]; omega)) ?_
    simp only [Act.put, List.setIfInBounds_toArray, List.set_cons_zero, List.set_cons_succ]
    refine takeH 4 (some 25) (.int .i64 ((i : Int) + (K : Int))) rfl rfl (by kernel_rfl) (by kernel_rfl) (by kernel_rfl) (fun _ _ _ h => h) (by rfl) trivial (fun w _ => by go_simp <;> first | omega | (rw [IntKind.wrap_i64]; omega)) ?_
    simp only [Act.put, List.setIfInBounds_toArray, List.set_cons_zero, List.set_cons_succ]
    refine takeH 5 (some 26) (.int .i64 (i : Int)) rfl rfl (by kernel_rfl) (by kernel_rfl) (by kernel_rfl) (fun _ _ _ h => h) (by rfl) trivial (fun w _ => by go_simp <;> first | omega | (rw [IntKind.wrap_i64]; omega)) ?_
    simp only [Act.put, List.setIfInBounds_toArray, List.set_cons_zero, List.set_cons_succ]
    refine takeH 6 (some 27) (.int .i64 (K : Int)) rfl rfl (by kernel_rfl) (by kernel_rfl) (by kernel_rfl) (fun _ _ _ h => h) (by rfl) trivial (fun w _ => by go_simp <;> first | omega | (rw [IntKind.wrap_i64]; omega)) ?_
    simp only [Act.put, List.setIfInBounds_toArray, List.set_cons_zero, List.set_cons_succ]
    refine takeH 7 (some 28) (.slice (some ⟨b2, o2 + K * 2, none⟩) (m - K) (bcap - K)) rfl rfl (by kernel_rfl) (by kernel_rfl) (by kernel_rfl) (fun _ _ _ h => h) (by rfl) trivial (fun w _ => by go_simp <;> first | omega | (rw [IntKind.wrap_i64]; omega)) ?_
    simp only [Act.put, List.setIfInBounds_toArray, List.set_cons_zero, List.set_cons_succ]
    refine step1H 8 _ rfl (by kernel_rfl) (by rfl) ?_
    go_simp
    have hW : Below w.heap.size w ((w2.alloc (.cells #[.slice ao (i + K) cap, .slice (some ⟨b2, o2 + K * 2, none⟩) (m - K) (bcap - K)] 35)).drew) := (hA2.alloc hA2.size _).drew
    have c0 : ((w2.alloc (.cells #[.slice ao (i + K) cap, .slice (some ⟨b2, o2 + K * 2, none⟩) (m - K) (bcap - K)] 35)).drew).cell? ⟨w2.heap.size, 0, none⟩ = some (.slice ao (i + K) cap) := by simp [go_sem]
    have c1 : ((w2.alloc (.cells #[.slice ao (i + K) cap, .slice (some ⟨b2, o2 + K * 2, none⟩) (m - K) (bcap - K)] 35)).drew).cell? ⟨w2.heap.size, 1, none⟩ = some (.slice (some ⟨b2, o2 + K * 2, none⟩) (m - K) (bcap - K)) := by simp [go_sem]
    generalize ((w2.alloc (.cells #[.slice ao (i + K) cap, .slice (some ⟨b2, o2 + K * 2, none⟩) (m - K) (bcap - K)] 35)).drew) = W at hW c0 c1 ⊢
    have hC := concatN_any w2.heap.size ao (some ⟨b2, o2 + K * 2, none⟩) (i + K) (m - K) cap (bcap - K) T (fun j => U (K + j)) X (fun j => Y (K + j)) (by omega) (by omega) (by omega) W c0 c1 ((hr.less hkn).below hW (Nat.le_refl _)) ((hs.below hW (Nat.le_refl _)).drop (by omega))
    refine step1H 9 _ rfl (by kernel_rfl) (by rfl) ?_
    go_simp
    refine hC.mono ?_
    rintro e w3 ⟨ao3, cap3, rfl, ⟨g, rfl, hown⟩, hb3⟩
    have hA3 := below_next hW (Nat.le_refl _) hb3
    refine takeH 10 (some 6) (.slice (some ⟨g, 0, none⟩) (i + K + (m - K)) cap3) rfl rfl (by kernel_rfl) (by kernel_rfl) (by kernel_rfl) (fun _ _ _ h => h) (by rfl) trivial (fun w _ => by go_simp) ?_
    simp only [Act.put, List.setIfInBounds_toArray, List.set_cons_zero, List.set_cons_succ]
    refine wpAnyH_done (by kernel_rfl) ?_ _
    go_wp2
    go_ret
    rw [mN_yes hK, mV_yes hK, mV_yes hK]
    have hs9 : i + K + (m - K) = i + m := by omega
    rw [hs9] at hown
    have hN := nhas_of_owns (T := mrg K i T U) (X := mrg K i X Y) hown (by
      rw [← hs9]
      refine nCells_app _ _ (fun j hj => ⟨if_pos hj, if_pos hj⟩) (fun j hj => ?_)
      have hx : ¬ i + K + j < i + K := by omega
      have hy : i + K + j - i = K + j := by omega
      unfold mrg
      rw [if_neg hx, if_neg hx, hy]
      exact ⟨rfl, rfl⟩)
    refine ⟨some ⟨g, 0, none⟩, cap3, by rw [← hs9]; rfl, owns_cap hown, fun _ => ⟨g, rfl, Nat.le_trans hW.size hN.2, hN.1⟩, hA3⟩

/-- What a merge answers. -/
def mOk (n : Nat) (T : Nat → Int) (X : Nat → ByteArray) (i : Int) (m : Nat) (U : Nat → Int) (Y : Nat → ByteArray) : Bool :=
  logB n T X && (decide (0 ≤ i) && (decide (i ≤ n) && logB (mN n i.toNat m (agN n T i.toNat m U)) (mV m (agN n T i.toNat m U) i.toNat T U) (mV m (agN n T i.toNat m U) i.toNat X Y)))
def mLen (n : Nat) (T : Nat → Int) (X : Nat → ByteArray) (i : Int) (m : Nat) (U : Nat → Int) (Y : Nat → ByteArray) : Nat := if mOk n T X i m U Y = true then mN n i.toNat m (agN n T i.toNat m U) else 0
def MAnsN (w w' : World) (e : Ending) (n : Nat) (T : Nat → Int) (X : Nat → ByteArray) (i : Int) (m : Nat) (U : Nat → Int) (Y : Nat → ByteArray) : Prop :=
  ∃ ao cap, e = .returned (.tuple #[.slice ao (mLen n T X i m U Y) cap, .bool (mOk n T X i m U Y)]) ∧ mLen n T X i m U Y ≤ cap ∧ NOwn w w' ao (mLen n T X i m U Y) (mV m (agN n T i.toNat m U) i.toNat T U) (mV m (agN n T i.toNat m U) i.toNat X Y) ∧ Below w.heap.size w w'
theorem MAnsN.no {w w' : World} {n : Nat} {T : Nat → Int} {X : Nat → ByteArray} {i : Int} {m : Nat} {U : Nat → Int} {Y : Nat → ByteArray} {ao : Option Addr} {cap : Nat} (h : mOk n T X i m U Y = false) (hb : Below w.heap.size w w') : MAnsN w w' (.returned (.tuple #[.slice ao 0 cap, .bool false])) n T X i m U Y := by
  have hl : mLen n T X i m U Y = 0 := if_neg (by rw [h]; simp)
  refine ⟨ao, cap, by rw [hl, h], by omega, ?_, hb⟩
  rw [hl]
  exact fun h => by omega
theorem MAnsN.yes {w w' : World} {n : Nat} {T : Nat → Int} {X : Nat → ByteArray} {i : Int} {m : Nat} {U : Nat → Int} {Y : Nat → ByteArray} {ao : Option Addr} {cap : Nat} (h : mOk n T X i m U Y = true) (hc : mN n i.toNat m (agN n T i.toNat m U) ≤ cap) (hO : NOwn w w' ao (mN n i.toNat m (agN n T i.toNat m U)) (mV m (agN n T i.toNat m U) i.toNat T U) (mV m (agN n T i.toNat m U) i.toNat X Y)) (hb : Below w.heap.size w w') : MAnsN w w' (.returned (.tuple #[.slice ao (mN n i.toNat m (agN n T i.toNat m U)) cap, .bool true])) n T X i m U Y := by
  have hl : mLen n T X i m U Y = mN n i.toNat m (agN n T i.toNat m U) := if_pos h
  refine ⟨ao, cap, by rw [hl, h], by omega, ?_, hb⟩
  rw [hl]
  exact hO
/-- Each text of a merge is one of the two lists'. -/
theorem mV_le {m k i n : Nat} {X Y : Nat → ByteArray} (hi : i ≤ n) (hk : i + k ≤ n) (hX : ∀ j, j < n → (X j).size ≤ 1048576) (hY : ∀ j, j < m → (Y j).size ≤ 1048576) : ∀ j, j < mN n i m k → (mV m k i X Y j).size ≤ 1048576 := fun j hj => by
  by_cases h : k < m
  · rw [mN_yes h] at hj
    rw [mV_yes h]
    unfold mrg
    split
    · exact hX j (by omega)
    · exact hY _ (by omega)
  · rw [mN_no h] at hj
    rw [mV_no h]
    exact hX j hj

set_option maxHeartbeats 2000000 in
theorem implMerge_any (ao : Option Addr) (n cap : Nat) (T : Nat → Int) (X : Nat → ByteArray) (i : Int) (bo : Option Addr) (m bcap : Nat) (U : Nat → Int) (Y : Nat → ByteArray) (aE aL aO : Addr) (hn : n ≤ 1048576) (hc : n ≤ cap) (hm : m ≤ 1048576) (hbc : m ≤ bcap) (hX : ∀ k, k < n → (X k).size ≤ 1048576) (hY : ∀ k, k < m → (Y k).size ≤ 1048576) (w : World) (hr : NRow w ao n T X) (hs : NRow w bo m U Y)
    (hE : w.cell? ⟨0, 0, none⟩ = some (vE aE)) (hL : w.cell? ⟨1, 0, none⟩ = some (vE aL)) (hO : w.cell? ⟨2, 0, none⟩ = some (vE aO)) (hT : w.cell? ⟨3, 0, none⟩ = some (.iface 130 (.agg #[hdl 77]))) :
    Calls Tryd.prog 17 #[.slice ao n cap, .int .i64 i, .slice bo m bcap] w fun e w' => MAnsN w w' e n T X i m U Y := by
  have HL := fun W h h2 => implLogOk_any ao n cap T X aL (by omega) hX W h h2
  obtain ⟨l, hl⟩ : ∃ l, logB n T X = l := ⟨_, rfl⟩
  rw [hl] at HL
  cases l
  · have hno : mOk n T X i m U Y = false := by unfold mOk; rw [hl]; rfl
    go_enter Tryd.func17, Tryd.ntmps17
    go_wp2_with fail
    refine (HL _ hr hL).mono ?_
    rintro e w1 ⟨rfl, hb1⟩
    go_wp2
    exact bodyPost_ret (v := .tuple #[.slice none 0 0, .bool false]) (by simp [results, Tryd.results17, go_sem]) rfl (MAnsN.no hno hb1)
  by_cases hi : i < 0 ∨ (n : Int) < i
  · have hno : mOk n T X i m U Y = false := by
      unfold mOk
      rcases hi with h | h
      · rw [decide_eq_false (show ¬ 0 ≤ i by omega)]; simp
      · rw [decide_eq_false (show ¬ i ≤ (n : Int) by omega)]; simp
    have HT := fun W h => termAt_out ao n cap i aE (by omega) hi W h
    go_enter Tryd.func17, Tryd.ntmps17
    go_wp2_with fail
    refine (HL _ hr hL).mono ?_
    rintro e w1 ⟨rfl, hb1⟩
    have hE1 := keep_cell hb1 (Nat.le_refl _) hE
    go_wp2_with fail
    refine (HT _ hE1).mono ?_
    rintro e w2 ⟨rfl, hb2⟩
    have hA2 := below_next hb1 (Nat.le_refl _) hb2
    have hE2 := keep_cell hA2 (Nat.le_refl _) hE
    go_wp2_with fail
    refine (is_mis i aE _).mono ?_
    rintro e w3 ⟨rfl, hb3⟩
    go_wp2
    exact bodyPost_ret (v := .tuple #[.slice none 0 0, .bool false]) (by simp [results, Tryd.results17, go_sem]) rfl (MAnsN.no hno (below_next hA2 (Nat.le_refl _) hb3))
  obtain ⟨j, rfl⟩ : ∃ j : Nat, i = j := ⟨i.toNat, by omega⟩
  have hj : j ≤ n := by omega
  have hn2 := (logB_at hl).1
  have HT := fun W h => termAt_in ao n cap T X (j : Int) (by omega) hc (by omega) (by omega) W h
  have HM := fun W h1 h2 h3 h4 h5 => mergedBehind_any ao n cap T X j bo m bcap U Y aE aO hn2 hc hj hm hbc W h1 h2 h3 h4 h5
  have hkn := agN_in (T := T) (m := m) (U := U) hj
  have hok : mOk n T X (j : Int) m U Y = logB (mN n j m (agN n T j m U)) (mV m (agN n T j m U) j T U) (mV m (agN n T j m U) j X Y) := by
    unfold mOk
    rw [hl, decide_eq_true (show (0 : Int) ≤ (j : Int) by omega), decide_eq_true (show (j : Int) ≤ (n : Int) by omega)]
    simp
  have HLM := fun ao' cap' W h h2 => implLogOk_any ao' (mN n j m (agN n T j m U)) cap' (mV m (agN n T j m U) j T U) (mV m (agN n T j m U) j X Y) aL (by unfold mN; split <;> omega) (mV_le hj hkn hX hY) W h h2
  rw [← hok] at HLM
  have HY : Hid (∀ {w' : World} {ao : Option Addr} {cap : Nat}, mOk n T X (j : Int) m U Y = true → mN n j m (agN n T j m U) ≤ cap → NOwn w w' ao (mN n j m (agN n T j m U)) (mV m (agN n T j m U) j T U) (mV m (agN n T j m U) j X Y) → Below w.heap.size w w' → MAnsN w w' (.returned (.tuple #[.slice ao (mN n j m (agN n T j m U)) cap, .bool true])) n T X (j : Int) m U Y) := fun h hc hO hb => MAnsN.yes h hc hO hb
  have HN : Hid (∀ {w' : World} {ao : Option Addr} {cap : Nat}, mOk n T X (j : Int) m U Y = false → Below w.heap.size w w' → MAnsN w w' (.returned (.tuple #[.slice ao 0 cap, .bool false])) n T X (j : Int) m U Y) := fun h hb => MAnsN.no h hb
  clear hok
  generalize mOk n T X (j : Int) m U Y = q at HLM HY HN
  generalize mN n j m (agN n T j m U) = N' at HLM HY HN HM
  generalize mV m (agN n T j m U) j T U = T' at HLM HY HN HM
  generalize mV m (agN n T j m U) j X Y = X' at HLM HY HN HM
  generalize lastT ((j : Int)).toNat T = z at HT
  go_enter Tryd.func17, Tryd.ntmps17
  go_wp2_with fail
  refine (HL _ hr hL).mono ?_
  rintro e w1 ⟨rfl, hb1⟩
  have hr1 := hr.below hb1 (Nat.le_refl _)
  go_wp2_with fail
  refine (HT _ hr1).mono ?_
  rintro e w2 ⟨rfl, hq⟩
  have hq' := hq.symm
  subst hq'
  clear hq
  have hE2 := keep_cell hb1 (Nat.le_refl _) hE
  go_wp2_with fail
  refine (is_nil aE _).mono ?_
  rintro e w3 ⟨rfl, hq⟩
  have hq' := hq.symm
  subst hq'
  clear hq
  go_wp2_with fail
  refine (HM _ hr1 (hs.below hb1 (Nat.le_refl _)) hE2 (keep_cell hb1 (Nat.le_refl _) hO) (keep_cell hb1 (Nat.le_refl _) hT)).mono ?_
  rintro e w4 ⟨ao4, cap4, rfl, hc4, hO4, hb4⟩
  have hA4 := below_next hb1 (Nat.le_refl _) hb4
  go_wp2_with fail
  refine (HLM ao4 cap4 _ hO4.row (keep_cell hA4 (Nat.le_refl _) hL)).mono ?_
  rintro e w5 ⟨rfl, hb5⟩
  have hA5 := below_next hA4 (Nat.le_refl _) hb5
  cases q
  · go_wp2
    exact bodyPost_ret (v := .tuple #[.slice none 0 0, .bool false]) (by simp [results, Tryd.results17, go_sem]) rfl (HN.out trivial hA5)
  · go_wp2
    refine bodyPost_ret (v := .tuple #[.slice ao4 N' cap4, .bool true]) (by simp [results, Tryd.results17, go_sem]) rfl (HY.out trivial hc4 (fun h => ?_) hA5)
    obtain ⟨g, e, hg, hN⟩ := hO4 h
    exact ⟨g, e, Nat.le_trans hb1.size hg, hN.below hb5 hN.lt⟩

end Go.Proofs.YtcmeppjfjledfacDoor

/-
  What was merged stands there, what agreed stays, and merged again nothing changes: plainly.
-/
set_option linter.unusedVariables false
set_option linter.unusedSimpArgs false
namespace Go.Proofs.YtcmeppjfjledfacDoor
open Go.RowKit
attribute [local go_sem ↓] Go.wp_at_zero Go.wp_at_succ

/-- All that a merge which went through says. -/
structure Mrgd (n : Nat) (T : Nat → Int) (X : Nat → ByteArray) (j m : Nat) (U : Nat → Int) (Y : Nat → ByteArray) (N : Nat) (T' : Nat → Int) (X' : Nat → ByteArray) : Prop where
  jn : j ≤ n
  jN : j + m ≤ N
  N200 : N ≤ 200
  log : logB N T' X' = true
  stands : ∀ k, k < m → T' (j + k) = U k
  stays : ∀ k, k < j → T' k = T k ∧ X' k = X k
  long : n ≤ N ∨ N = j + m
theorem mrgd_of {n : Nat} {T : Nat → Int} {X : Nat → ByteArray} {i : Int} {m : Nat} {U : Nat → Int} {Y : Nat → ByteArray} (h : mOk n T X i m U Y = true) :
    ∃ j : Nat, i = j ∧ Mrgd n T X j m U Y (mLen n T X i m U Y) (mV m (agN n T i.toNat m U) i.toNat T U) (mV m (agN n T i.toNat m U) i.toNat X Y) := by
  have hl : mLen n T X i m U Y = mN n i.toNat m (agN n T i.toNat m U) := if_pos h
  unfold mOk at h
  simp only [Bool.and_eq_true, decide_eq_true_eq] at h
  obtain ⟨h1, h2, h3, h4⟩ := h
  obtain ⟨j, rfl⟩ : ∃ j : Nat, i = j := ⟨i.toNat, by omega⟩
  simp only [Int.toNat_natCast] at hl h4 ⊢
  have hj : j ≤ n := by omega
  have hK := agN_in (T := T) (m := m) (U := U) hj
  have hKm := agN_le n T j m U
  have hyes : ∀ k, k < agN n T j m U → T (j + k) = U k := fun k hk => (of_decide_eq_true (ag_yes _ _ k hk)).2
  rw [hl]
  refine ⟨j, rfl, ?_⟩
  generalize agN n T j m U = K at hK hKm hyes h4 ⊢
  by_cases hlt : K < m
  · rw [mN_yes hlt, mV_yes hlt, mV_yes hlt] at h4
    rw [mN_yes hlt, mV_yes hlt, mV_yes hlt]
    refine ⟨hj, Nat.le_refl _, (logB_at h4).1, h4, fun k hk => ?_, fun k hk => ?_, .inr rfl⟩
    · unfold mrg
      split
      · exact hyes k (by omega)
      · congr 1; omega
    · unfold mrg
      rw [if_pos (by omega), if_pos (by omega)]
      exact ⟨rfl, rfl⟩
  · rw [mN_no hlt, mV_no hlt, mV_no hlt] at h4
    rw [mN_no hlt, mV_no hlt, mV_no hlt]
    exact ⟨hj, by omega, (logB_at h4).1, h4, fun k hk => hyes k (by omega), fun k hk => ⟨rfl, rfl⟩, .inl (Nat.le_refl _)⟩
/-- Merged again: the same. -/
theorem Mrgd.again {n : Nat} {T : Nat → Int} {X : Nat → ByteArray} {j m : Nat} {U : Nat → Int} {Y : Nat → ByteArray} {N : Nat} {T' : Nat → Int} {X' : Nat → ByteArray} (h : Mrgd n T X j m U Y N T' X') :
    mOk N T' X' (j : Int) m U Y = true ∧ mLen N T' X' (j : Int) m U Y = N ∧ mV m (agN N T' j m U) j T' U = T' ∧ mV m (agN N T' j m U) j X' Y = X' := by
  have hK : agN N T' j m U = m := ag_is (Nat.le_refl _) (fun k hk => decide_eq_true ⟨by have := h.jN; omega, h.stands k hk⟩) (fun h => by omega)
  have e1 : mV m (agN N T' j m U) j T' U = T' := by rw [hK]; exact mV_no (by omega)
  have e2 : mV m (agN N T' j m U) j X' Y = X' := by rw [hK]; exact mV_no (by omega)
  have e3 : mN N j m (agN N T' j m U) = N := by rw [hK]; exact mN_no (by omega)
  have hjN := h.jN
  have hok : mOk N T' X' (j : Int) m U Y = true := by
    unfold mOk
    simp only [Int.toNat_natCast]
    rw [e1, e2, e3, h.log, decide_eq_true (show (0 : Int) ≤ (j : Int) by omega), decide_eq_true (show (j : Int) ≤ (N : Int) by omega)]
    rfl
  refine ⟨hok, ?_, e1, e2⟩
  unfold mLen
  rw [if_pos hok]
  simp only [Int.toNat_natCast]
  exact e3

set_option maxHeartbeats 800000 in
theorem likeLog_same (ao ao' : Option Addr) (n cap cap' : Nat) (T : Nat → Int) (X : Nat → ByteArray) (hn : n ≤ 1048576) (w : World) (hr : NRow w ao n T X) (hr' : NRow w ao' n T X) :
    Calls Tryd.prog 19 #[.slice ao n cap, .slice ao' n cap'] w fun e w' => e = .returned (.bool true) ∧ Below w.heap.size w w' := by
  go_enter Tryd.func19, Tryd.ntmps19
  go_wp2
  go_loopw [5] (fun i wr => ∃ k : Nat, k ≤ n ∧ i = .int .i64 k ∧ Below w.heap.size w wr) (fun i _ => n - (intOf i).toNat)
  case atStart => exact ⟨0, Nat.zero_le _, rfl, Below.refl _ _⟩
  case round =>
    obtain ⟨k, hk, rfl, hbel⟩ := hrel
    by_cases hlt : k < n
    rotate_left
    · have hkn : k = n := by omega
      subst hkn
      go_wp2
      go_ret
      exact ⟨rfl, hbel⟩
    obtain ⟨b, o, hao, c0, c1⟩ := (hr.below hbel (Nat.le_refl _)) k hlt
    obtain ⟨b', o', hao', d0, d1⟩ := (hr'.below hbel (Nat.le_refl _)) k hlt
    subst hao
    subst hao'
    have hk1 : (0 : Int) ≤ (k : Int) := by omega
    have hk2 : (k : Int) < (n : Int) := by omega
    go_wp2
    go_quiet (fail)
    go_wp2
    go_roundw
    case rel => exact ⟨k + 1, by omega, by go_num, below_drewN hbel _⟩
    case measure => simp [intOf]; omega

end Go.Proofs.YtcmeppjfjledfacDoor

/-
  append(own, entries...), the entries none or some, as a law for the walk.
-/
set_option linter.unusedVariables false
set_option linter.unusedSimpArgs false
namespace Go.Proofs.YtcmeppjfjledfacDoor
open Go.RowKit

theorem run_appN_zero (ty : TypeId) (g n cap : Nat) (ao : Option Addr) (c : Nat) (hnc : n ≤ cap) (w : World) : (Builtin.append_ #[35, 35] ty #[.slice (some ⟨g, 0, none⟩) n cap, .slice ao 0 c]).run Tryd.prog w = .ok (.slice (some ⟨g, 0, none⟩) n cap) w := by
  obtain ⟨i0, hi0, hz0, hz1, hz2⟩ := info_parts Tryd.infoEntry
  cases ao <;> simp [Builtin.append_, run_underlying Tryd.underlying35, sizeOf, typeInfo, hi0, Builtin.lenOf, Builtin.firstCells, hnc, storeCells, loadCells, loadCellsFrom]

theorem wp_appN {w : World} {o : Oper} {a : Act} {K : Act → World → Prop} {Q : Exit → Act → World → Prop} (s x : Operand)
    (ho : o.op = .call { callee := .builtin .append, args := #[s, x], argTypes := #[35, 35] })
    (base g0 n cap0 : Nat) (xs : List Value) (hs : a.eval s = .slice (some ⟨g0, 0, none⟩) n cap0) (hown : w.ownsRow base 47 2 (.slice (some ⟨g0, 0, none⟩) n cap0) n xs)
    (ao : Option Addr) (m c : Nat) (T : Nat → Int) (X : Nat → ByteArray) (hx : a.eval x = .slice ao m c) (hr : NRow w ao m T X) (hm : n + m ≤ 3000000) (hbase : base ≤ w.heap.size)
    (h : ∀ g cap w', w'.ownsRow base 47 2 (.slice (some ⟨g, 0, none⟩) (n + m) cap) (n + m) (xs ++ nCells T X m) → Below base w w' → K (a.put o.dst (.slice (some ⟨g, 0, none⟩) (n + m) cap)) w') : o.wp Tryd.prog a w K Q := by
  have hg0 : base ≤ g0 ∧ n ≤ cap0 := by
    rcases hown.2 with ⟨e, _⟩ | ⟨g, cap, cur, e, h1, _, h2, _⟩
    · cases e
    · simp only [Value.slice.injEq, Option.some.injEq, Addr.mk.injEq, and_true, true_and] at e
      obtain ⟨rfl, rfl⟩ := e
      exact ⟨h1, h2⟩
  by_cases hz : 0 < m
  · obtain ⟨b1, o1, rfl, _⟩ := hr 0 hz
    obtain ⟨i0, hi0, hz0, hz1, hz2⟩ := info_parts Tryd.infoEntry
    refine wp_append_lies w s x _ ho base 47 i0 _ 2 24 Tryd.underlying35 hi0 hz0 hz1 hz2 rfl (by omega) _ n xs hs hown ⟨b1, o1, none⟩ m c (nCells T X m) hx (nCells_len _ _ _) (NRow.news hr) (nCells_one _ _ _) hz (by unfold maxLen; omega) (by omega) hbase w.heap.size rfl ?_
    intro g cap w' hown' hgrow _ _
    exact h g cap w' hown' (gr_below (b := g0) hgrow hg0.1 hbase)
  · obtain rfl : m = 0 := by omega
    have hrun := run_appN_zero o.type g0 n cap0 ao c hg0.2 w
    unfold Oper.wp execOp
    simp only [ho, resolve, invoke, builtin, Sem.run_bind, Sem.run_pure, Result.andThen_ok, List.map_toArray, List.map_cons, List.map_nil, hs, hx, hrun]
    have e : xs ++ nCells T X 0 = xs := by simp [nCells]
    exact h g0 cap0 w (by rw [e]; exact hown) (Below.refl _ _)
theorem wpList_appN {w : World} {ops : Array Oper} {rest : List Oper} {o : Oper} {a : Act} {Q : Exit → Act → World → Prop} (hgd : o.guard = none) (s x : Operand)
    (ho : o.op = .call { callee := .builtin .append, args := #[s, x], argTypes := #[35, 35] })
    (base g0 n cap0 : Nat) (xs : List Value) (hs : a.eval s = .slice (some ⟨g0, 0, none⟩) n cap0) (hown : w.ownsRow base 47 2 (.slice (some ⟨g0, 0, none⟩) n cap0) n xs)
    (ao : Option Addr) (m c : Nat) (T : Nat → Int) (X : Nat → ByteArray) (hx : a.eval x = .slice ao m c) (hr : NRow w ao m T X) (hm : n + m ≤ 3000000) (hbase : base ≤ w.heap.size)
    (h : ∀ g cap w', w'.ownsRow base 47 2 (.slice (some ⟨g, 0, none⟩) (n + m) cap) (n + m) (xs ++ nCells T X m) → Below base w w' → wpList Tryd.prog ops Q rest (a.put o.dst (.slice (some ⟨g, 0, none⟩) (n + m) cap)) w') : wpList Tryd.prog ops Q (o :: rest) a w :=
  wpList_plain hgd fun _ hK => wp_appN s x ho base g0 n cap0 xs hs hown ao m c T X hx hr hm hbase (fun g cap w' h1 h2 => hK _ _ (h g cap w' h1 h2))

end Go.Proofs.YtcmeppjfjledfacDoor

/-
  Merge, the document's, by its contract.
-/
set_option linter.unusedVariables false
set_option linter.unusedSimpArgs false
namespace Go.Proofs.YtcmeppjfjledfacDoor
open Go.RowKit Go.Maps
attribute [local go_sem ↓] Go.wp_at_zero Go.wp_at_succ

theorem mOk_at {n : Nat} {T : Nat → Int} {X : Nat → ByteArray} {j m : Nat} {U : Nat → Int} {Y : Nat → ByteArray} (hl : logB n T X = true) (hj : j ≤ n) : mOk n T X (j : Int) m U Y = logB (mN n j m (agN n T j m U)) (mV m (agN n T j m U) j T U) (mV m (agN n T j m U) j X Y) := by
  unfold mOk
  rw [hl, decide_eq_true (show (0 : Int) ≤ (j : Int) by omega), decide_eq_true (show (j : Int) ≤ (n : Int) by omega)]
  simp
theorem MAnsN.yes' {w w' : World} {n : Nat} {T : Nat → Int} {X : Nat → ByteArray} {j : Nat} {m : Nat} {U : Nat → Int} {Y : Nat → ByteArray} {g cap base N' : Nat} {T' : Nat → Int} {X' : Nat → ByteArray} (h : mOk n T X (j : Int) m U Y = true)
    (hN : mN n j m (agN n T j m U) = N') (hT : mV m (agN n T j m U) j T U = T') (hX : mV m (agN n T j m U) j X Y = X') (hg : w.heap.size ≤ g) (hc : N' ≤ cap) (hO : NHas w' g N' T' X') (hb : Below w.heap.size w w') :
    MAnsN w w' (.returned (.tuple #[.slice (some ⟨g, 0, none⟩) N' cap, .bool true])) n T X (j : Int) m U Y := by
  subst hN hT hX
  exact MAnsN.yes h hc (fun _ => ⟨g, rfl, hg, hO⟩) hb

set_option maxRecDepth 100000 in
set_option maxHeartbeats 4000000 in
theorem specMerge_any (ao : Option Addr) (n cap : Nat) (T : Nat → Int) (X : Nat → ByteArray) (i : Int) (bo : Option Addr) (m bcap : Nat) (U : Nat → Int) (Y : Nat → ByteArray) (hn : n ≤ 1048576) (hc : n ≤ cap) (hm : m ≤ 1048576) (hbc : m ≤ bcap) (hX : ∀ k, k < n → (X k).size ≤ 1048576) (hY : ∀ k, k < m → (Y k).size ≤ 1048576) (w : World) (hr : NRow w ao n T X) (hs : NRow w bo m U Y) :
    Calls Tryd.prog 18 #[.slice ao n cap, .int .i64 i, .slice bo m bcap] w fun e w' => MAnsN w w' e n T X i m U Y := by
  have HL := fun W h => specLogOk_any ao n cap T X (by omega) hX W h
  obtain ⟨l, hl⟩ : ∃ l, logB n T X = l := ⟨_, rfl⟩
  rw [hl] at HL
  cases l
  · have hno : mOk n T X i m U Y = false := by unfold mOk; rw [hl]; rfl
    go_enter Tryd.func18, Tryd.ntmps18
    go_wp2_with fail
    refine (HL _ hr).mono ?_
    rintro e w1 ⟨rfl, hb1⟩
    go_wp2
    refine bodyPost_ret (v := .tuple #[.slice (some ⟨w1.heap.size, 0, none⟩) 0 0, .bool false]) (by simp [results, Tryd.results18, go_sem]) rfl (MAnsN.no hno (hb1.alloc hb1.size _))
  have hn2 := (logB_at hl).1
  by_cases hi : i < 0 ∨ (n : Int) < i
  · have hno : mOk n T X i m U Y = false := by
      unfold mOk
      rcases hi with h | h
      · rw [decide_eq_false (show ¬ 0 ≤ i by omega)]; simp
      · rw [decide_eq_false (show ¬ i ≤ (n : Int) by omega)]; simp
    have hb : inB i 0 (n : Int) = false := by simp [inB]; omega
    have HI : ∀ W, Calls Tryd.prog 35 #[.int .i64 i, .int .i64 0, .int .i64 (n : Int)] W fun e w' => e = .returned (.bool false) ∧ w' = W := fun W => by rw [← hb]; exact l1In_any _ _ _ _
    go_enter Tryd.func18, Tryd.ntmps18
    go_wp2_with fail
    refine (HL _ hr).mono ?_
    rintro e w1 ⟨rfl, hb1⟩
    go_wp2_with (go_at_call 35; refine (HI _).mono ?_; rintro e w2 ⟨rfl, hq⟩; have hq' := hq.symm; subst hq'; clear hq)
    refine bodyPost_ret (v := .tuple #[.slice (some ⟨w1.heap.size, 0, none⟩) 0 0, .bool false]) (by simp [results, Tryd.results18, go_sem]) rfl (MAnsN.no hno (hb1.alloc hb1.size _))
  obtain ⟨j, rfl⟩ : ∃ j : Nat, i = j := ⟨i.toNat, by omega⟩
  have hj : j ≤ n := by omega
  have hb : inB (j : Int) 0 (n : Int) = true := by simp [inB]; omega
  have HI : ∀ W, Calls Tryd.prog 35 #[.int .i64 (j : Int), .int .i64 0, .int .i64 (n : Int)] W fun e w' => e = .returned (.bool true) ∧ w' = W := fun W => by rw [← hb]; exact l1In_any _ _ _ _
  go_enter Tryd.func18, Tryd.ntmps18
  go_wp2_with fail
  refine (HL _ hr).mono ?_
  rintro e w1 ⟨rfl, hb1⟩
  go_wp2_with (go_at_call 35; refine (HI _).mono ?_; rintro e w2 ⟨rfl, hq⟩; have hq' := hq.symm; subst hq'; clear hq)
  have hr1 := hr.below hb1 (Nat.le_refl _)
  have hs1 := hs.below hb1 (Nat.le_refl _)
  have HA : Hid (∀ k, k ≤ m → (∀ j', j' < k → agF n T U j j' = true) → (k < m → agF n T U j k = false) → agN n T j m U = k) := fun k h1 h2 h3 => ag_is h1 h2 h3
  go_loopw [9] (fun q wr => ∃ k : Nat, k ≤ m ∧ q = .int .i64 k ∧ (∀ j', j' < k → agF n T U j j' = true) ∧ Below w1.heap.size w1 wr) (fun q _ => m - (intOf q).toNat)
  case atStart => exact ⟨0, Nat.zero_le _, rfl, fun j hj => by omega, Below.refl _ _⟩
  case round =>
    obtain ⟨k, hk, rfl, hat, hbel⟩ := hrel
    have hjk1 : IntKind.i64.wrap ((j : Int) + (k : Int)) = (j : Int) + (k : Int) := by rw [IntKind.wrap_i64]; omega
    have hq : ∀ q, Below w1.heap.size w1 (wr.drewN q) := fun q => below_drewN hbel q
    have hqw : ∀ q, Below w.heap.size w (wr.drewN q) := fun q => below_next hb1 (Nat.le_refl _) (hq q)
    have hsz : w.heap.size ≤ wr.heap.size := Nat.le_trans hb1.size hbel.size
    by_cases hlt : k < m
    rotate_left
    · have hkn : k = m := by omega
      subst hkn
      have hKm := HA.out k (Nat.le_refl _) hat (fun h => by omega)
      have hok : mOk n T X (j : Int) k U Y = true := by rw [mOk_at hl hj, hKm, mN_no (by omega), mV_no (by omega), mV_no (by omega)]; exact hl
      have HF : Hid (∀ {w' : World} {g cap : Nat}, w.heap.size ≤ g → n ≤ cap → NHas w' g n T X → Below w.heap.size w w' → MAnsN w w' (.returned (.tuple #[.slice (some ⟨g, 0, none⟩) n cap, .bool true])) n T X (j : Int) k U Y) := fun hg hc hO hb => MAnsN.yes' (base := 0) hok (by rw [hKm, mN_no (by omega)]) (by rw [hKm, mV_no (by omega)]) (by rw [hKm, mV_no (by omega)]) hg hc hO hb
      have HL2 := fun ao' cap' W h => specLogOk_any ao' n cap' T X (by omega) hX W h
      rw [hl] at HL2
      clear hok hKm HA hat hs1
      go_wp2_with fail
      go_quiet (fail)
      go_wp2_with (first | (at_builtin; refine wpList_appN rfl _ _ rfl _ wr.heap.size 0 0 [] rfl (empty_ownsN _) ao n cap T X rfl ((hr1.below (hq _) (Nat.le_refl _)).alloc _) (by omega) (by simp) ?_; intro g cap' w2 hown2 hb2))
      simp only [Nat.zero_add, List.nil_append] at hown2 ⊢
      have hcp2 := owns_cap hown2
      obtain ⟨hN2, hg2⟩ := nhas_of_owns hown2 rfl
      have hA2 : Below w.heap.size w w2 := ((hqw _).alloc (by simpa using hsz) _).trans (hb2.mono (by simpa using hsz))
      have hg3 : w.heap.size ≤ g := Nat.le_trans (by simpa using hsz) hg2
      clear hown2 hb2 hg2
      go_wp2_with fail
      refine (HL2 _ _ _ (nhas_row hN2)).mono ?_
      rintro e w3 ⟨rfl, hb3⟩
      go_wp2
      exact bodyPost_ret (v := .tuple #[.slice (some ⟨g, 0, none⟩) n cap', .bool true]) (by simp [results, Tryd.results18, go_sem]) rfl (HF.out hg3 hcp2 (hN2.below hb3 hN2.lt) (below_next hA2 (Nat.le_refl _) hb3))
    have hk9 : (k : Int) < (m : Int) := by omega
    have hkn : j + k ≤ n := by
      rcases Nat.eq_zero_or_pos k with h | h
      · omega
      · have := of_decide_eq_true (hat (k - 1) (by omega))
        omega
    obtain ⟨b2, o2, hao2, e0, e1⟩ := (hs1.below hbel (Nat.le_refl _)) k hlt
    subst hao2
    by_cases hin : j + k < n
    rotate_left
    · have hno : agF n T U j k = false := decide_eq_false (by omega)
      have hin' : ¬ (j : Int) + (k : Int) < (n : Int) := by omega
      have hin2 : (n : Int) ≤ (j : Int) + (k : Int) := by omega
      have hin3 : decide ((j : Int) + (k : Int) < (n : Int)) = false := decide_eq_false hin'
      have hKm := HA.out k hk hat (fun _ => hno)
      have hok := mOk_at (m := m) (U := U) (Y := Y) hl hj
      rw [hKm, mN_yes hlt, mV_yes hlt, mV_yes hlt] at hok
      have hXX : ∀ x, x < j + m → (mrg k j X Y x).size ≤ 1048576 := fun x hx => by
        have := mV_le (m := m) hj hkn hX hY x (by rw [mN_yes hlt]; exact hx)
        rwa [mV_yes hlt] at this
      have HL2 := fun ao' cap' W h => specLogOk_any ao' (j + m) cap' (mrg k j T U) (mrg k j X Y) (by omega) hXX W h
      rw [← hok] at HL2
      have HF : Hid (∀ {w' : World} {g cap : Nat}, mOk n T X (j : Int) m U Y = true → w.heap.size ≤ g → j + m ≤ cap → NHas w' g (j + m) (mrg k j T U) (mrg k j X Y) → Below w.heap.size w w' → MAnsN w w' (.returned (.tuple #[.slice (some ⟨g, 0, none⟩) (j + m) cap, .bool true])) n T X (j : Int) m U Y) := fun hy hg hc hO hb => MAnsN.yes' (base := 0) hy (by rw [hKm, mN_yes hlt]) (by rw [hKm, mV_yes hlt]) (by rw [hKm, mV_yes hlt]) hg hc hO hb
      have HNo : Hid (∀ {w' : World} {ao : Option Addr} {cap : Nat}, mOk n T X (j : Int) m U Y = false → Below w.heap.size w w' → MAnsN w w' (.returned (.tuple #[.slice ao 0 cap, .bool false])) n T X (j : Int) m U Y) := fun h hb => MAnsN.no h hb
      clear hok hKm HA hat hno
      generalize mOk n T X (j : Int) m U Y = q at HL2 HF HNo
      go_wp2_with fail
      go_quiet (fail)
      go_wp2_with (first | (at_builtin; refine wpList_appN rfl _ _ rfl _ wr.heap.size 0 0 [] rfl (empty_ownsN _) ao n cap T X rfl ((hr1.below (hq _) (Nat.le_refl _)).alloc _) (by omega) (by simp) ?_; intro g cap' w2 hown2 hb2))
      simp only [Nat.zero_add, List.nil_append] at hown2 ⊢
      have hA2 : Below w.heap.size w w2 := ((hqw _).alloc (by simpa using hsz) _).trans (hb2.mono (by simpa using hsz))
      clear hown2 hb2
      have f2 : (0 : Int) ≤ (j : Int) + (k : Int) := by omega
      have f3 : (j : Int) + (k : Int) ≤ (cap : Int) := by omega
      have f4 : ((j : Int) + (k : Int)).toNat = j + k := by omega
      have f5 : k ≤ m := by omega
      have f6 : k < bcap := by omega
      have hrk := ((hr.below hA2 (Nat.le_refl _)).less hkn)
      have hsk := NRow.drop (k := k) (hs.below hA2 (Nat.le_refl _)) (by omega)
      go_wp2_with fail
      refine wp_region_held_drew (S := fun _ => True) (by kernel_rfl) trivial (fun _ => ?_)
      refine takeH 1 (some 60) (.slice ao n cap) rfl rfl (by kernel_rfl) (by kernel_rfl) (by kernel_rfl) (fun _ _ _ h => h) (by rfl) trivial (fun w _ => by go_simp <;> first | omega | (rw [IntKind.wrap_i64]; omega)) ?_
      simp only [Act.put, List.setIfInBounds_toArray, List.set_cons_zero, List.set_cons_succ]
      refine takeH 2 (some 61) (.int .i64 (j : Int)) rfl rfl (by kernel_rfl) (by kernel_rfl) (by kernel_rfl) (fun _ _ _ h => h) (by rfl) trivial (fun w _ => by go_simp <;> first | omega | (rw [IntKind.wrap_i64]; omega)) ?_
      simp only [Act.put, List.setIfInBounds_toArray, List.set_cons_zero, List.set_cons_succ]
      refine takeH 3 (some 62) (.int .i64 (k : Int)) rfl rfl (by kernel_rfl) (by kernel_rfl) (by kernel_rfl) (fun _ _ _ h => h) (by rfl) trivial (fun w _ => by go_simp <;> first | omega | (rw [IntKind.wrap_i64]; omega)) ?_
      simp only [Act.put, List.setIfInBounds_toArray, List.set_cons_zero, List.set_cons_succ]
      refine takeH 4 (some 63) (.int .i64 ((j : Int) + (k : Int))) rfl rfl (by kernel_rfl) (by kernel_rfl) (by kernel_rfl) (fun _ _ _ h => h) (by rfl) trivial (fun w _ => by go_simp <;> first | omega | (rw [IntKind.wrap_i64]; omega)) ?_
      simp only [Act.put, List.setIfInBounds_toArray, List.set_cons_zero, List.set_cons_succ]
      refine takeH 5 (some 64) (.slice ao (j + k) cap) rfl rfl (by kernel_rfl) (by kernel_rfl) (by kernel_rfl) (fun _ _ _ h => h) (by rfl) trivial (fun w _ => by go_simp <;> first | omega | (rw [IntKind.wrap_i64]; omega)) ?_
      simp only [Act.put, List.setIfInBounds_toArray, List.set_cons_zero, List.set_cons_succ]
      refine takeH 7 (some 66) (.slice (some ⟨b2, o2, none⟩) m bcap) rfl rfl (by kernel_rfl) (by kernel_rfl) (by kernel_rfl) (fun _ _ _ h => h) (by rfl) trivial (fun w _ => by go_simp <;> first | omega | (rw [IntKind.wrap_i64]; omega)) ?_
      simp only [Act.put, List.setIfInBounds_toArray, List.set_cons_zero, List.set_cons_succ]
      refine takeH 8 (some 67) (.int .i64 (k : Int)) rfl rfl (by kernel_rfl) (by kernel_rfl) (by kernel_rfl) (fun _ _ _ h => h) (by rfl) trivial (fun w _ => by go_simp <;> first | omega | (rw [IntKind.wrap_i64]; omega)) ?_
      simp only [Act.put, List.setIfInBounds_toArray, List.set_cons_zero, List.set_cons_succ]
      refine takeH 9 (some 68) (.slice (some ⟨b2, o2 + k * 2, none⟩) (m - k) (bcap - k)) rfl rfl (by kernel_rfl) (by kernel_rfl) (by kernel_rfl) (fun _ _ _ h => h) (by rfl) trivial (fun w _ => by go_simp <;> first | omega | (rw [IntKind.wrap_i64]; omega)) ?_
      simp only [Act.put, List.setIfInBounds_toArray, List.set_cons_zero, List.set_cons_succ]
      refine step1H 0 _ rfl (by kernel_rfl) (by rfl) ?_
      go_simp
      refine step1H 6 _ rfl (by kernel_rfl) (by rfl) ?_
      refine wp_appN _ _ rfl _ w2.heap.size 0 0 [] rfl (empty_ownsN w2) ao (j + k) cap T X rfl (hrk.alloc _) (by omega) (by simp) ?_
      intro g3 cap3 w3 hown3 hb3
      simp only [Nat.zero_add, List.nil_append] at hown3 ⊢
      have hb23 : Below w2.heap.size w2 w3 := (((Below.refl _ _).alloc (Nat.le_refl _) _).drew).trans hb3
      refine ⟨trivial, ?_⟩
      refine step1H 10 _ rfl (by kernel_rfl) (by rfl) ?_
      refine wp_appN _ _ rfl _ g3 (j + k) cap3 (nCells T X (j + k)) rfl hown3 (some ⟨b2, o2 + k * 2, none⟩) (m - k) (bcap - k) (fun x => U (k + x)) (fun x => Y (k + x)) rfl (hsk.below hb23 (Nat.le_refl _)) (by omega) hb23.size ?_
      intro g4 cap4 w4 hown4 hb4
      refine ⟨trivial, ?_⟩
      have hs9 : j + k + (m - k) = j + m := by omega
      rw [hs9] at hown4 ⊢
      have hN4 := nhas_of_owns (T := mrg k j T U) (X := mrg k j X Y) hown4 (by
        rw [← hs9]
        refine nCells_app _ _ (fun x hx => ⟨if_pos hx, if_pos hx⟩) (fun x hx => ?_)
        have hx1 : ¬ j + k + x < j + k := by omega
        have hy1 : j + k + x - j = k + x := by omega
        unfold mrg
        rw [if_neg hx1, if_neg hx1, hy1]
        exact ⟨rfl, rfl⟩)
      have hcp4 := owns_cap hown4
      have hA4 : Below w.heap.size w w4 := below_next hA2 (Nat.le_refl _) (hb23.trans hb4)
      have hg4 : w.heap.size ≤ g4 := Nat.le_trans hA2.size hN4.2
      refine takeH 11 (some 10) (.slice (some ⟨g4, 0, none⟩) (j + m) cap4) rfl rfl (by kernel_rfl) (by kernel_rfl) (by kernel_rfl) (fun _ _ _ h => h) (by rfl) trivial (fun w _ => by go_simp) ?_
      simp only [Act.put, List.setIfInBounds_toArray, List.set_cons_zero, List.set_cons_succ]
      refine wpAnyH_done (by kernel_rfl) ?_ _
      clear hown3 hown4 hb3 hb4 hb23
      go_wp2_with fail
      refine (HL2 _ _ _ (nhas_row hN4.1)).mono ?_
      rintro e w5 ⟨rfl, hb5⟩
      have hA5 := below_next hA4 (Nat.le_refl _) hb5
      cases q
      · go_wp2
        exact bodyPost_ret (v := .tuple #[.slice (some ⟨w5.heap.size, 0, none⟩) 0 0, .bool false]) (by simp [results, Tryd.results18, go_sem]) rfl (HNo.out trivial (hA5.alloc hA5.size _))
      · go_wp2
        exact bodyPost_ret (v := .tuple #[.slice (some ⟨g4, 0, none⟩) (j + m) cap4, .bool true]) (by simp [results, Tryd.results18, go_sem]) rfl (HF.out trivial hg4 hcp4 (hN4.1.below hb5 hN4.1.lt) hA5)
    have hin' : (j : Int) + (k : Int) < (n : Int) := by omega
    obtain ⟨b1, o1, hao1, d0, d1⟩ := (hr1.below hbel (Nat.le_refl _)) (j + k) hin
    subst hao1
    have f0 : (0 : Int) ≤ (j : Int) + (k : Int) := by omega
    have f1 : ((j : Int) + (k : Int)).toNat = j + k := by omega
    by_cases hTT : T (j + k) = U k
    · have hyes : agF n T U j k = true := decide_eq_true ⟨hin, hTT⟩
      go_wp2_with fail
      go_quiet (fail)
      go_wp2
      go_roundw
      case rel =>
        refine ⟨k + 1, by omega, by go_num, fun j' hj' => ?_, hq _⟩
        by_cases e : j' = k
        · subst e; exact hyes
        · exact hat j' (by omega)
      case measure => simp [intOf]; omega
    · have hno : agF n T U j k = false := decide_eq_false (fun h => hTT h.2)
      have hKm := HA.out k hk hat (fun _ => hno)
      have hok := mOk_at (m := m) (U := U) (Y := Y) hl hj
      rw [hKm, mN_yes hlt, mV_yes hlt, mV_yes hlt] at hok
      have hXX : ∀ x, x < j + m → (mrg k j X Y x).size ≤ 1048576 := fun x hx => by
        have := mV_le (m := m) hj hkn hX hY x (by rw [mN_yes hlt]; exact hx)
        rwa [mV_yes hlt] at this
      have HL2 := fun ao' cap' W h => specLogOk_any ao' (j + m) cap' (mrg k j T U) (mrg k j X Y) (by omega) hXX W h
      rw [← hok] at HL2
      have HF : Hid (∀ {w' : World} {g cap : Nat}, mOk n T X (j : Int) m U Y = true → w.heap.size ≤ g → j + m ≤ cap → NHas w' g (j + m) (mrg k j T U) (mrg k j X Y) → Below w.heap.size w w' → MAnsN w w' (.returned (.tuple #[.slice (some ⟨g, 0, none⟩) (j + m) cap, .bool true])) n T X (j : Int) m U Y) := fun hy hg hc hO hb => MAnsN.yes' (base := 0) hy (by rw [hKm, mN_yes hlt]) (by rw [hKm, mV_yes hlt]) (by rw [hKm, mV_yes hlt]) hg hc hO hb
      have HNo : Hid (∀ {w' : World} {ao : Option Addr} {cap : Nat}, mOk n T X (j : Int) m U Y = false → Below w.heap.size w w' → MAnsN w w' (.returned (.tuple #[.slice ao 0 cap, .bool false])) n T X (j : Int) m U Y) := fun h hb => MAnsN.no h hb
      clear hok hKm HA hat hno
      generalize mOk n T X (j : Int) m U Y = q at HL2 HF HNo
      go_wp2_with fail
      go_quiet (fail)
      go_wp2_with (first | (at_builtin; refine wpList_appN rfl _ _ rfl _ wr.heap.size 0 0 [] rfl (empty_ownsN _) (some ⟨b1, o1, none⟩) n cap T X rfl ((hr1.below (hq _) (Nat.le_refl _)).alloc _) (by omega) (by simp) ?_; intro g cap' w2 hown2 hb2))
      simp only [Nat.zero_add, List.nil_append] at hown2 ⊢
      have hA2 : Below w.heap.size w w2 := ((hqw _).alloc (by simpa using hsz) _).trans (hb2.mono (by simpa using hsz))
      clear hown2 hb2
      have f2 : (0 : Int) ≤ (j : Int) + (k : Int) := by omega
      have f3 : (j : Int) + (k : Int) ≤ (cap : Int) := by omega
      have f4 : ((j : Int) + (k : Int)).toNat = j + k := by omega
      have f5 : k ≤ m := by omega
      have f6 : k < bcap := by omega
      have hrk := ((hr.below hA2 (Nat.le_refl _)).less hkn)
      have hsk := NRow.drop (k := k) (hs.below hA2 (Nat.le_refl _)) (by omega)
      go_wp2_with fail
      refine wp_region_held_drew (S := fun _ => True) (by kernel_rfl) trivial (fun _ => ?_)
      refine takeH 1 (some 60) (.slice (some ⟨b1, o1, none⟩) n cap) rfl rfl (by kernel_rfl) (by kernel_rfl) (by kernel_rfl) (fun _ _ _ h => h) (by rfl) trivial (fun w _ => by go_simp <;> first | omega | (rw [IntKind.wrap_i64]; omega)) ?_
      simp only [Act.put, List.setIfInBounds_toArray, List.set_cons_zero, List.set_cons_succ]
      refine takeH 2 (some 61) (.int .i64 (j : Int)) rfl rfl (by kernel_rfl) (by kernel_rfl) (by kernel_rfl) (fun _ _ _ h => h) (by rfl) trivial (fun w _ => by go_simp <;> first | omega | (rw [IntKind.wrap_i64]; omega)) ?_
      simp only [Act.put, List.setIfInBounds_toArray, List.set_cons_zero, List.set_cons_succ]
      refine takeH 3 (some 62) (.int .i64 (k : Int)) rfl rfl (by kernel_rfl) (by kernel_rfl) (by kernel_rfl) (fun _ _ _ h => h) (by rfl) trivial (fun w _ => by go_simp <;> first | omega | (rw [IntKind.wrap_i64]; omega)) ?_
      simp only [Act.put, List.setIfInBounds_toArray, List.set_cons_zero, List.set_cons_succ]
      refine takeH 4 (some 63) (.int .i64 ((j : Int) + (k : Int))) rfl rfl (by kernel_rfl) (by kernel_rfl) (by kernel_rfl) (fun _ _ _ h => h) (by rfl) trivial (fun w _ => by go_simp <;> first | omega | (rw [IntKind.wrap_i64]; omega)) ?_
      simp only [Act.put, List.setIfInBounds_toArray, List.set_cons_zero, List.set_cons_succ]
      refine takeH 5 (some 64) (.slice (some ⟨b1, o1, none⟩) (j + k) cap) rfl rfl (by kernel_rfl) (by kernel_rfl) (by kernel_rfl) (fun _ _ _ h => h) (by rfl) trivial (fun w _ => by go_simp <;> first | omega | (rw [IntKind.wrap_i64]; omega)) ?_
      simp only [Act.put, List.setIfInBounds_toArray, List.set_cons_zero, List.set_cons_succ]
      refine takeH 7 (some 66) (.slice (some ⟨b2, o2, none⟩) m bcap) rfl rfl (by kernel_rfl) (by kernel_rfl) (by kernel_rfl) (fun _ _ _ h => h) (by rfl) trivial (fun w _ => by go_simp <;> first | omega | (rw [IntKind.wrap_i64]; omega)) ?_
      simp only [Act.put, List.setIfInBounds_toArray, List.set_cons_zero, List.set_cons_succ]
      refine takeH 8 (some 67) (.int .i64 (k : Int)) rfl rfl (by kernel_rfl) (by kernel_rfl) (by kernel_rfl) (fun _ _ _ h => h) (by rfl) trivial (fun w _ => by go_simp <;> first | omega | (rw [IntKind.wrap_i64]; omega)) ?_
      simp only [Act.put, List.setIfInBounds_toArray, List.set_cons_zero, List.set_cons_succ]
      refine takeH 9 (some 68) (.slice (some ⟨b2, o2 + k * 2, none⟩) (m - k) (bcap - k)) rfl rfl (by kernel_rfl) (by kernel_rfl) (by kernel_rfl) (fun _ _ _ h => h) (by rfl) trivial (fun w _ => by go_simp <;> first | omega | (rw [IntKind.wrap_i64]; omega)) ?_
      simp only [Act.put, List.setIfInBounds_toArray, List.set_cons_zero, List.set_cons_succ]
      refine step1H 0 _ rfl (by kernel_rfl) (by rfl) ?_
      go_simp
      refine step1H 6 _ rfl (by kernel_rfl) (by rfl) ?_
      refine wp_appN _ _ rfl _ w2.heap.size 0 0 [] rfl (empty_ownsN w2) (some ⟨b1, o1, none⟩) (j + k) cap T X rfl (hrk.alloc _) (by omega) (by simp) ?_
      intro g3 cap3 w3 hown3 hb3
      simp only [Nat.zero_add, List.nil_append] at hown3 ⊢
      have hb23 : Below w2.heap.size w2 w3 := (((Below.refl _ _).alloc (Nat.le_refl _) _).drew).trans hb3
      refine ⟨trivial, ?_⟩
      refine step1H 10 _ rfl (by kernel_rfl) (by rfl) ?_
      refine wp_appN _ _ rfl _ g3 (j + k) cap3 (nCells T X (j + k)) rfl hown3 (some ⟨b2, o2 + k * 2, none⟩) (m - k) (bcap - k) (fun x => U (k + x)) (fun x => Y (k + x)) rfl (hsk.below hb23 (Nat.le_refl _)) (by omega) hb23.size ?_
      intro g4 cap4 w4 hown4 hb4
      refine ⟨trivial, ?_⟩
      have hs9 : j + k + (m - k) = j + m := by omega
      rw [hs9] at hown4 ⊢
      have hN4 := nhas_of_owns (T := mrg k j T U) (X := mrg k j X Y) hown4 (by
        rw [← hs9]
        refine nCells_app _ _ (fun x hx => ⟨if_pos hx, if_pos hx⟩) (fun x hx => ?_)
        have hx1 : ¬ j + k + x < j + k := by omega
        have hy1 : j + k + x - j = k + x := by omega
        unfold mrg
        rw [if_neg hx1, if_neg hx1, hy1]
        exact ⟨rfl, rfl⟩)
      have hcp4 := owns_cap hown4
      have hA4 : Below w.heap.size w w4 := below_next hA2 (Nat.le_refl _) (hb23.trans hb4)
      have hg4 : w.heap.size ≤ g4 := Nat.le_trans hA2.size hN4.2
      refine takeH 11 (some 10) (.slice (some ⟨g4, 0, none⟩) (j + m) cap4) rfl rfl (by kernel_rfl) (by kernel_rfl) (by kernel_rfl) (fun _ _ _ h => h) (by rfl) trivial (fun w _ => by go_simp) ?_
      simp only [Act.put, List.setIfInBounds_toArray, List.set_cons_zero, List.set_cons_succ]
      refine wpAnyH_done (by kernel_rfl) ?_ _
      clear hown3 hown4 hb3 hb4 hb23
      go_wp2_with fail
      refine (HL2 _ _ _ (nhas_row hN4.1)).mono ?_
      rintro e w5 ⟨rfl, hb5⟩
      have hA5 := below_next hA4 (Nat.le_refl _) hb5
      cases q
      · go_wp2
        exact bodyPost_ret (v := .tuple #[.slice (some ⟨w5.heap.size, 0, none⟩) 0 0, .bool false]) (by simp [results, Tryd.results18, go_sem]) rfl (HNo.out trivial (hA5.alloc hA5.size _))
      · go_wp2
        exact bodyPost_ret (v := .tuple #[.slice (some ⟨g4, 0, none⟩) (j + m) cap4, .bool true]) (by simp [results, Tryd.results18, go_sem]) rfl (HF.out trivial hg4 hcp4 (hN4.1.below hb5 hN4.1.lt) hA5)

end Go.Proofs.YtcmeppjfjledfacDoor

/-
  Fits, the document's and the program's, by their contracts.
-/
set_option linter.unusedVariables false
set_option linter.unusedSimpArgs false
namespace Go.Proofs.YtcmeppjfjledfacDoor
open Go.RowKit
attribute [local go_sem ↓] Go.wp_at_zero Go.wp_at_succ

theorem l10Fits_any (ao : Option Addr) (n cap : Nat) (T : Nat → Int) (X : Nat → ByteArray) (i t : Int) (hn : n ≤ 9223372036854775807) (w : World) (hr : NRow w ao n T X) :
    Calls Tryd.prog 55 #[.slice ao n cap, .int .i64 i, .int .i64 t] w fun e w' => e = .returned (.bool (fitB n T i t)) ∧ w' = w := by
  by_cases h0 : i = 0
  · subst h0
    have hf : fitB n T 0 t = decide (t = 0) := by
      unfold fitB lastT
      simp
      exact eq_comm
    rw [hf]
    go_enter Tryd.func55, Tryd.ntmps55
    go_wp2
    go_ret
    exact ⟨by simp; by_cases h9 : t = 0 <;> simp [h9], rfl⟩
  by_cases h1 : 1 ≤ i ∧ i ≤ n
  · obtain ⟨k, rfl⟩ : ∃ k : Nat, i = (k : Int) + 1 := ⟨(i - 1).toNat, by omega⟩
    have hf : fitB n T ((k : Int) + 1) t = decide (T k = t) := by
      have e : ((k : Int) + 1).toNat = k + 1 := by omega
      unfold fitB lastT
      rw [e, if_neg (by omega)]
      simp only [Nat.add_sub_cancel]
      have h9 : (0 : Int) ≤ (k : Int) + 1 := by omega
      simp [h9, h1.2]
    rw [hf]
    obtain ⟨b, o, rfl, c0, c1⟩ := hr k (by omega)
    have hb : inB ((k : Int) + 1) 1 (n : Int) = true := by simp [inB]; omega
    have hk1 : (k : Int) < (n : Int) := by omega
    have hk2 : (k : Int) + 1 - 1 = (k : Int) := by omega
    have hk3 : IntKind.i64.wrap ((k : Int) + 1 - 1) = (k : Int) := by rw [IntKind.wrap_i64]; omega
    have hk4 : ¬ ((k : Int) + 1 = 0) := by omega
    have HI : ∀ W, Calls Tryd.prog 35 #[.int .i64 ((k : Int) + 1), .int .i64 1, .int .i64 (n : Int)] W fun e w' => e = .returned (.bool true) ∧ w' = W := fun W => by rw [← hb]; exact l1In_any _ _ _ _
    go_enter Tryd.func55, Tryd.ntmps55
    go_wp2_with (go_at_call 35; refine (HI _).mono ?_; rintro e w1 ⟨rfl, hq⟩; have hq' := hq.symm; subst hq'; clear hq)
    go_ret
    exact ⟨by simp; by_cases h9 : T k = t <;> simp [h9], rfl⟩
  · have hf : fitB n T i t = false := decide_eq_false (by omega)
    rw [hf]
    have hb : inB i 1 (n : Int) = false := by simp [inB]; omega
    have HI : ∀ W, Calls Tryd.prog 35 #[.int .i64 i, .int .i64 1, .int .i64 (n : Int)] W fun e w' => e = .returned (.bool false) ∧ w' = W := fun W => by rw [← hb]; exact l1In_any _ _ _ _
    go_enter Tryd.func55, Tryd.ntmps55
    go_wp2_with (go_at_call 35; refine (HI _).mono ?_; rintro e w1 ⟨rfl, hq⟩; have hq' := hq.symm; subst hq'; clear hq)
    go_ret
    exact ⟨rfl, rfl⟩

theorem specFits_any (ao : Option Addr) (n cap : Nat) (T : Nat → Int) (X : Nat → ByteArray) (i t : Int) (hn : n ≤ 9223372036854775807) (hX : ∀ k, k < n → (X k).size ≤ 1048576) (w : World) (hr : NRow w ao n T X) :
    Calls Tryd.prog 22 #[.slice ao n cap, .int .i64 i, .int .i64 t] w fun e w' => e = .returned (.bool (logB n T X && fitB n T i t)) ∧ Below w.heap.size w w' := by
  have HL := fun W h => specLogOk_any ao n cap T X hn hX W h
  have HF := fun W h => l10Fits_any ao n cap T X i t hn W h
  generalize fitB n T i t = f at HF ⊢
  generalize logB n T X = l at HL ⊢
  go_enter Tryd.func22, Tryd.ntmps22
  go_wp2_with fail
  refine (HL _ hr).mono ?_
  rintro e w1 ⟨rfl, hb1⟩
  have hr1 := hr.below hb1 (Nat.le_refl _)
  cases l
  · go_wp2
    go_ret
    exact ⟨rfl, hb1⟩
  · go_wp2_with fail
    refine (HF _ hr1).mono ?_
    rintro e w2 ⟨rfl, hq⟩
    have hq' := hq.symm
    subst hq'
    clear hq
    go_wp2
    go_ret
    exact ⟨rfl, hb1⟩

theorem implFits_any (ao : Option Addr) (n cap : Nat) (T : Nat → Int) (X : Nat → ByteArray) (i t : Int) (aL aO aE : Addr) (hn : n ≤ 9223372036854775807) (hX : ∀ k, k < n → (X k).size ≤ 1048576) (hc : n ≤ cap) (w : World) (hr : NRow w ao n T X)
    (hL : w.cell? ⟨1, 0, none⟩ = some (vE aL)) (hO : w.cell? ⟨2, 0, none⟩ = some (vE aO)) (hE : w.cell? ⟨0, 0, none⟩ = some (vE aE)) :
    Calls Tryd.prog 21 #[.slice ao n cap, .int .i64 i, .int .i64 t] w fun e w' => e = .returned (.bool (logB n T X && fitB n T i t)) ∧ Below w.heap.size w w' := by
  have HL := fun W h h2 => implLogOk_any ao n cap T X aL hn hX W h h2
  have HF := fun W h h1 h2 => faultOfTerm_any ao n cap T X i t aE aO hn hc W h h1 h2
  generalize fitB n T i t = f at HF ⊢
  generalize logB n T X = l at HL ⊢
  go_enter Tryd.func21, Tryd.ntmps21
  go_wp2_with fail
  refine (HL _ hr hL).mono ?_
  rintro e w1 ⟨rfl, hb1⟩
  have hr1 := hr.below hb1 (Nat.le_refl _)
  have hE1 := keep_cell hb1 (Nat.le_refl _) hE
  have hO1 := keep_cell hb1 (Nat.le_refl _) hO
  cases l
  · go_wp2
    go_ret
    exact ⟨rfl, hb1⟩
  · go_wp2_with fail
    refine (HF _ hr1 hE1 hO1).mono ?_
    rintro e w2 ⟨hh, hb2⟩
    have hA2 := below_next hb1 (Nat.le_refl _) hb2
    rcases hh with ⟨rfl, rfl⟩ | ⟨rfl, a, rfl⟩
    · go_wp2
      go_ret
      exact ⟨rfl, hA2⟩
    · go_wp2
      go_ret
      exact ⟨rfl, hA2⟩

end Go.Proofs.YtcmeppjfjledfacDoor

/-
  The document's LastTerm: the last entry's number, 0 of none.
-/
set_option linter.unusedVariables false
set_option linter.unusedSimpArgs false
namespace Go.Proofs.YtcmeppjfjledfacDoor
open Go.RowKit
attribute [local go_sem ↓] Go.wp_at_zero Go.wp_at_succ

theorem l10Last_any (ao : Option Addr) (n cap : Nat) (T : Nat → Int) (X : Nat → ByteArray) (hn : n ≤ 9223372036854775807) (w : World) (hr : NRow w ao n T X) :
    Calls Tryd.prog 48 #[.slice ao n cap] w fun e w' => e = .returned (.int .i64 (lastT n T)) ∧ w' = w := by
  unfold lastT
  by_cases h0 : n = 0
  · subst h0
    rw [if_pos rfl]
    go_enter Tryd.func48, Tryd.ntmps48
    go_wp2
    go_ret
    exact ⟨rfl, rfl⟩
  · rw [if_neg h0]
    obtain ⟨b, o, rfl, c0, c1⟩ := hr (n - 1) (by omega)
    have hi : ((n : Int) - 1).toNat = n - 1 := by omega
    have hn1 : ¬ ((n : Int) = 0) := by omega
    have hn2 : (0 : Int) ≤ (n : Int) - 1 := by omega
    have hn3 : (n : Int) - 1 < (n : Int) := by omega
    go_enter Tryd.func48, Tryd.ntmps48
    go_wp2
    go_ret
    exact ⟨rfl, rfl⟩

end Go.Proofs.YtcmeppjfjledfacDoor

/-
  Newer, the document's and the program's, by their contracts.
-/
set_option linter.unusedVariables false
set_option linter.unusedSimpArgs false
namespace Go.Proofs.YtcmeppjfjledfacDoor
open Go.RowKit
attribute [local go_sem ↓] Go.wp_at_zero Go.wp_at_succ

/-- At least as new as a log of n entries. -/
def newT (n : Nat) (T : Nat → Int) (i t : Int) : Bool := decide (lastT n T < t) || (decide (t = lastT n T) && decide ((n : Int) ≤ i))

theorem implNewer_any (ao : Option Addr) (n cap : Nat) (T : Nat → Int) (X : Nat → ByteArray) (i t : Int) (hn : n ≤ 9223372036854775807) (w : World) (hr : NRow w ao n T X) :
    Calls Tryd.prog 23 #[.slice ao n cap, .int .i64 i, .int .i64 t] w fun e w' => e = .returned (.bool (newT n T i t)) ∧ w' = w := by
  unfold newT
  generalize hL : lastT n T = l
  have H := fun W h => implLastTerm_any ao n cap T X hn W h
  rw [hL] at H
  by_cases h1 : l < t
  · go_enter Tryd.func23, Tryd.ntmps23
    go_wp2_with (go_at_call 25; refine (H _ hr).mono ?_; rintro e w1 ⟨rfl, rfl⟩)
    go_ret
    exact ⟨by simp [h1], rfl⟩
  by_cases h2 : t = l
  · subst h2
    go_enter Tryd.func23, Tryd.ntmps23
    go_wp2_with (go_at_call 25; refine (H _ hr).mono ?_; rintro e w1 ⟨rfl, rfl⟩)
    go_ret
    exact ⟨by simp, rfl⟩
  · go_enter Tryd.func23, Tryd.ntmps23
    go_wp2_with (go_at_call 25; refine (H _ hr).mono ?_; rintro e w1 ⟨rfl, rfl⟩)
    go_ret
    exact ⟨by simp [h1, h2], rfl⟩

theorem l10Newer_any (ao : Option Addr) (n cap : Nat) (T : Nat → Int) (X : Nat → ByteArray) (i t : Int) (hn : n ≤ 9223372036854775807) (w : World) (hr : NRow w ao n T X) :
    Calls Tryd.prog 56 #[.slice ao n cap, .int .i64 i, .int .i64 t] w fun e w' => e = .returned (.bool (newT n T i t)) ∧ w' = w := by
  unfold newT
  generalize hL : lastT n T = l
  have H := fun W h => l10Last_any ao n cap T X hn W h
  rw [hL] at H
  by_cases h1 : l < t
  · go_enter Tryd.func56, Tryd.ntmps56
    go_wp2_with (go_at_call 48; refine (H _ hr).mono ?_; rintro e w1 ⟨rfl, rfl⟩)
    go_ret
    exact ⟨by simp [h1], rfl⟩
  by_cases h2 : t = l
  · subst h2
    go_enter Tryd.func56, Tryd.ntmps56
    go_wp2_with (go_at_call 48; refine (H _ hr).mono ?_; rintro e w1 ⟨rfl, rfl⟩)
    go_ret
    exact ⟨by simp, rfl⟩
  · go_enter Tryd.func56, Tryd.ntmps56
    go_wp2_with (go_at_call 48; refine (H _ hr).mono ?_; rintro e w1 ⟨rfl, rfl⟩)
    go_ret
    exact ⟨by simp [h1, h2], rfl⟩

theorem specNewer_any (ao : Option Addr) (n cap : Nat) (T : Nat → Int) (X : Nat → ByteArray) (i t : Int) (hn : n ≤ 9223372036854775807) (w : World) (hr : NRow w ao n T X) :
    Calls Tryd.prog 24 #[.slice ao n cap, .int .i64 i, .int .i64 t] w fun e w' => e = .returned (.bool (newT n T i t)) ∧ w' = w := by
  go_enter Tryd.func24, Tryd.ntmps24
  go_wp2_with (go_at_call 56; refine (l10Newer_any ao n cap T X i t hn _ hr).mono ?_; rintro e w1 ⟨rfl, rfl⟩)
  go_ret
  exact ⟨rfl, rfl⟩

end Go.Proofs.YtcmeppjfjledfacDoor

/-
  The document's LastTerm by its own name.
-/
set_option linter.unusedVariables false
set_option linter.unusedSimpArgs false
namespace Go.Proofs.YtcmeppjfjledfacDoor
open Go.RowKit
attribute [local go_sem ↓] Go.wp_at_zero Go.wp_at_succ

theorem specLastTerm_any (ao : Option Addr) (n cap : Nat) (T : Nat → Int) (X : Nat → ByteArray) (hn : n ≤ 9223372036854775807) (w : World) (hr : NRow w ao n T X) :
    Calls Tryd.prog 26 #[.slice ao n cap] w fun e w' => e = .returned (.int .i64 (lastT n T)) ∧ w' = w := by
  go_enter Tryd.func26, Tryd.ntmps26
  go_wp2_with (go_at_call 48; refine (l10Last_any ao n cap T X hn _ hr).mono ?_; rintro e w1 ⟨rfl, rfl⟩)
  go_ret
  exact ⟨rfl, rfl⟩

end Go.Proofs.YtcmeppjfjledfacDoor

/-
  The document's draws: a cursor over bytes, and the numbers that it tells. What is drawn is not looked at; that it is in its range, and what memory it turns, is.
-/
set_option linter.unusedVariables false
set_option linter.unusedSimpArgs false
namespace Go.Proofs.YtcmeppjfjledfacDoor
open Go.RowKit
attribute [local go_sem ↓] Go.wp_at_zero Go.wp_at_succ

/-- n bytes lie behind a slice's address, in blocks below base. -/
def ByRow (w : World) (base : Nat) (ao : Option Addr) (n : Nat) : Prop := ∀ k, k < n → ∃ b o v, ao = some ⟨b, o, none⟩ ∧ b < base ∧ w.cell? ⟨b, o + k, none⟩ = some (.int .u8 v) ∧ 0 ≤ v ∧ v ≤ 255
/-- The cells of a cursor. -/
def curV (s : Value) (i h : Int) (j : Nat) : Value := if j = 0 then s else if j = 1 then .int .i64 i else .int .i64 h
/-- Block c is a cursor over n bytes. -/
structure CurAt (w : World) (base c : Nat) (ao : Option Addr) (n cap : Nat) : Prop where
  ge : base ≤ c
  len : n ≤ 4096
  by_ : ByRow w base ao n
  cur : ∃ i h : Int, 0 ≤ i ∧ i ≤ (n : Int) ∧ VHas w c 102 3 (curV (.slice ao n cap) i h)
theorem ByRow.grown {w w' : World} {base : Nat} {ao : Option Addr} {n x : Nat} (h : ByRow w base ao n) (hg : w.grownBy w' (some x)) (hx : base ≤ x) : ByRow w' base ao n := fun k hk => by
  obtain ⟨b, o, v, e, hb, hc, hv⟩ := h k hk
  exact ⟨b, o, v, e, hb, hg.cell hc (by simp; omega), hv⟩
theorem ByRow.below {w w' : World} {base : Nat} {ao : Option Addr} {n B : Nat} (h : ByRow w base ao n) (hb : Below B w w') (hB : base ≤ B) : ByRow w' base ao n := fun k hk => by
  obtain ⟨b, o, v, e, hlt, hc, hv⟩ := h k hk
  exact ⟨b, o, v, e, hlt, by rw [hb.cell (by simp; omega)]; exact hc, hv⟩
theorem CurAt.lt {w : World} {base c : Nat} {ao : Option Addr} {n cap : Nat} (h : CurAt w base c ao n cap) : c < w.heap.size := by
  obtain ⟨_, _, _, _, hv⟩ := h.cur
  exact hv.lt
theorem CurAt.grown {w w' : World} {base c x : Nat} {ao : Option Addr} {n cap : Nat} (h : CurAt w base c ao n cap) (hg : w.grownBy w' (some x)) (hx : base ≤ x) (hne : c ≠ x) : CurAt w' base c ao n cap := by
  obtain ⟨i, hh, h0, h1, hv⟩ := h.cur
  exact ⟨h.ge, h.len, h.by_.grown hg hx, i, hh, h0, h1, hv.grown hg (by simp; exact hne)⟩
theorem CurAt.next {w w' : World} {base c : Nat} {ao : Option Addr} {n cap : Nat} (h : CurAt w base c ao n cap) (hb : Below w.heap.size w w') : CurAt w' base c ao n cap := by
  obtain ⟨i, hh, h0, h1, hv⟩ := h.cur
  have := h.ge
  have := hv.lt
  exact ⟨h.ge, h.len, h.by_.below hb (by omega), i, hh, h0, h1, hv.next hb⟩

theorem and255 (y : Int) : 0 ≤ bits .and .i64 y 255 ∧ bits .and .i64 y 255 ≤ 255 := by
  have h : (BitVec.ofInt 64 y &&& BitVec.ofInt 64 255).toNat ≤ 255 := by
    rw [BitVec.toNat_and]
    exact Nat.le_trans Nat.and_le_right (by decide)
  have e : bits .and .i64 y 255 = IntKind.i64.wrap ((BitVec.ofInt 64 y &&& BitVec.ofInt 64 255).toNat : Int) := rfl
  rw [e, IntKind.wrap_i64]
  omega
theorem cur_h {w : World} {c : Nat} {s : Value} {i h : Int} (hv : VHas w c 102 3 (curV s i h)) (h' : Int) : VHas (w.setCell ⟨c, 2, none⟩ (.int .i64 h')) c 102 3 (curV s i h') :=
  (hv.set 2 _).congr (fun j hj => by
    have : j = 0 ∨ j = 1 ∨ j = 2 := by omega
    rcases this with rfl | rfl | rfl <;> rfl)
theorem cur_i {w : World} {c : Nat} {s : Value} {i h : Int} (hv : VHas w c 102 3 (curV s i h)) (i' : Int) : VHas (w.setCell ⟨c, 1, none⟩ (.int .i64 i')) c 102 3 (curV s i' h) :=
  (hv.set 1 _).congr (fun j hj => by
    have : j = 0 ∨ j = 1 ∨ j = 2 := by omega
    rcases this with rfl | rfl | rfl <;> rfl)
theorem gr_drewN (w : World) (n : Nat) (row : Option Nat) : w.grownBy (w.drewN n) row := ⟨rfl, rfl, rfl, Nat.le_refl _, fun _ _ _ => rfl⟩

set_option maxHeartbeats 2000000 in
theorem l1Byte_any (base c : Nat) (ao : Option Addr) (n cap : Nat) (w : World) (hC : CurAt w base c ao n cap) :
    Calls Tryd.prog 71 #[.pointer (some ⟨c, 0, none⟩)] w fun e w' => ∃ x : Int, e = .returned (.int .i64 x) ∧ 0 ≤ x ∧ x ≤ 255 ∧ CurAt w' base c ao n cap ∧ w.grownBy w' (some c) := by
  obtain ⟨hge, hlen, hby, i, h, hi0, hi1, hv⟩ := hC
  have c0 : w.cell? ⟨c, 0, none⟩ = some (.slice ao n cap) := hv.cell (by omega)
  have c1 : w.cell? ⟨c, 1, none⟩ = some (.int .i64 i) := hv.cell (j := 1) (by omega)
  have c2 : w.cell? ⟨c, 2, none⟩ = some (.int .i64 h) := hv.cell (j := 2) (by omega)
  have z1 := hv.frozen 1
  have z2 := hv.frozen 2
  obtain ⟨k, rfl⟩ : ∃ k : Nat, i = (k : Int) := ⟨i.toNat, by omega⟩
  have hg1 : ∀ v, w.grownBy (w.setCell ⟨c, 2, none⟩ v) (some c) := fun v => gr_setCell w c 2 v
  by_cases hk : k < n
  rotate_left
  · have hk' : ¬ (k : Int) < (n : Int) := by omega
    go_enter Tryd.func71, Tryd.ntmps71
    go_wp2
    go_quiet (fail)
    go_wp2
    go_quiet (fail)
    go_wp2
    go_ret
    refine ⟨_, rfl, (and255 _).1, (and255 _).2, ⟨hge, hlen, ?_, (k : Int), wrap64 (wrap64 (h * 6364136223846793005) + 1442695040888963407), hi0, hi1, ?_⟩, ?_⟩
    · exact ((hby.grown (hg1 _) hge).grown (gr_drewN _ _ _) hge).grown (gr_drewN _ _ _) hge
    · exact ((cur_h hv _).of_block rfl).of_block rfl
    · exact ((hg1 _).trans (gr_drewN _ _ _)).trans (gr_drewN _ _ _)
  have hk' : (k : Int) < (n : Int) := by omega
  obtain ⟨b, o, v, hao, hbb, hcb, hv0, hv1⟩ := hby k hk
  subst hao
  have hne : b ≠ c := by omega
  have hk0 : (0 : Int) ≤ (k : Int) := by omega
  go_enter Tryd.func71, Tryd.ntmps71
  go_wp2
  go_quiet (fail)
  go_wp2
  go_quiet (fail)
  go_wp2
  go_quiet (fail)
  go_wp2
  go_ret
  refine ⟨_, rfl, (and255 _).1, (and255 _).2, ⟨hge, hlen, ?_, ((k + 1 : Nat) : Int), wrap64 (wrap64 (h * 6364136223846793005) + 1442695040888963407), by omega, by omega, ?_⟩, ?_⟩
  · exact ((hby.grown (hg1 _) hge).grown (gr_drewN _ _ _) hge).grown (gr_setCell _ c 1 _) hge
  · exact cur_i ((cur_h hv _).of_block rfl) _
  · exact ((hg1 _).trans (gr_drewN _ _ _)).trans (gr_setCell _ c 1 _)

/-- A number below m is drawn. -/
theorem l1Below_any (base c : Nat) (ao : Option Addr) (n cap : Nat) (m : Int) (hm0 : 1 ≤ m) (hm : m ≤ 256) (w : World) (hC : CurAt w base c ao n cap) :
    Calls Tryd.prog 47 #[.pointer (some ⟨c, 0, none⟩), .int .i64 m] w fun e w' => ∃ x : Nat, e = .returned (.int .i64 (x : Int)) ∧ (x : Int) < m ∧ CurAt w' base c ao n cap ∧ w.grownBy w' (some c) := by
  have hm1 : ¬ m ≤ 0 := by omega
  have hm2 : m ≠ 0 := by omega
  go_enter Tryd.func47, Tryd.ntmps47
  go_wp2_with (go_at_call 71; refine (l1Byte_any base c ao n cap _ hC).mono ?_; rintro e w1 ⟨x, rfl, hx0, hx1, hC1, hg1⟩)
  go_ret
  refine ⟨(x % m).toNat, ?_, ?_, hC1, hg1⟩
  · have := Int.emod_nonneg x hm2
    exact (congrArg (fun z => Ending.returned (.int .i64 z)) (by omega))
  · have h1 := Int.emod_nonneg x hm2
    have h2 := Int.emod_lt_of_pos x (show 0 < m by omega)
    omega

theorem l1Once_any (base c : Nat) (ao : Option Addr) (n cap : Nat) (m : Int) (hm0 : 1 ≤ m) (hm : m ≤ 256) (w : World) (hC : CurAt w base c ao n cap) :
    Calls Tryd.prog 42 #[.pointer (some ⟨c, 0, none⟩), .int .i64 m] w fun e w' => ∃ b : Bool, e = .returned (.bool b) ∧ CurAt w' base c ao n cap ∧ w.grownBy w' (some c) := by
  go_enter Tryd.func42, Tryd.ntmps42
  go_wp2_with (go_at_call 47; refine (l1Below_any base c ao n cap m hm0 hm _ hC).mono ?_; rintro e w1 ⟨x, rfl, hx, hC1, hg1⟩)
  go_ret
  exact ⟨_, rfl, hC1, hg1⟩

end Go.Proofs.YtcmeppjfjledfacDoor
