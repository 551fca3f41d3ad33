/-
  The map from an arc's ends to its number: what its keys read as, and what it holds after so many arcs.
-/
import Derived.Test.YthcgibpiogmmdaaOkImpl
import Derived.Test.YthcgibpiogmmdaaBase
import Derived.Test.YthcgibpiogmmdaaKeys
import Derived.Maps.Own
import Derived.Maps.OwnOps
import Derived.Maps.OwnSet
import Derived.Maps.Views
import Derived.DeepKeys4
set_option linter.unusedVariables false
set_option linter.unusedSimpArgs false
namespace Go.Proofs.Ythcgibpiogmmdaa
open Go.ChangeShapes Go.WideShapes Go.ChangeAt Go.RowKit Go.Maps

set_option maxRecDepth 100000 in
theorem Try.rowEnds : (67 : TypeId) < Try.prog.types.size := of_decide_eq_true (by kernel_rfl)
theorem Try.wideEnds : (match Try.prog.underlying 67 with | some (.array _ _) | some (.struct _) => true | _ => false) = true := by rw [Try.underlying67]
set_option maxRecDepth 100000 in
theorem Try.keyLaw : Keyed Try.prog 67 := Keyed.of_law (deep_law_laid Try.laidOut (m := 2) (by omega) Try.rowEnds (by kernel_rfl) Try.wideEnds)
theorem Try.keyType : Try.prog.keyType 67 = true := by kernel_rfl
theorem Try.cellsEnds : Try.prog.cellsOf 67 = 2 := by kernel_rfl
theorem Try.mapZero (w : World) : (zeroValue 3).run Try.prog w = .ok (.int .i64 0) w := by kernel_rfl
set_option maxRecDepth 100000 in
theorem Try.someTypes : ∃ m, Try.prog.types.size = m + 1 := ⟨_, (Nat.succ_pred_eq_of_pos (Nat.lt_of_le_of_lt (Nat.zero_le _) Try.rowEnds)).symm⟩

def kl (f t : Int) : Lit := .string (keyBytes [.int .i64 f, .int .i64 t])
set_option maxRecDepth 100000 in
theorem key_ends (f t : Int) (hf : (Lit.int .i64 f).wf = true) (ht : (Lit.int .i64 t).wf = true) : keyOf Try.prog 67 (.agg #[.int .i64 f, .int .i64 t]) = some (kl f t) := by
  exact key_two Try.underlying67 Try.keyType Try.cellsEnds Try.underlying2 Try.underlying2 rfl rfl Try.cellsInt Try.cellsInt (by decide) (by decide) Try.someTypes hf ht
theorem kl_inj {f t f' t' : Int} (hf : (Lit.int .i64 f).wf = true) (ht : (Lit.int .i64 t).wf = true) (hf' : (Lit.int .i64 f').wf = true) (ht' : (Lit.int .i64 t').wf = true) (h : kl f t = kl f' t') : f = f' ∧ t = t' := by
  have := Try.keyLaw.inj (key_ends f t hf ht) (by rw [h]; exact key_ends f' t' hf' ht')
  simpa using this
theorem kl_key (f t : Int) : WideAt.IsKeyLit (kl f t) := trivial

/-- What the map holds after k arcs. -/
def nums (F T : Nat → Int) : Nat → DataW Unit
  | 0 => .map []
  | k + 1 => (nums F T k).put (kl (F k) (T k)) (.lit (.int .i64 (k : Int)))
theorem nums_isMap (F T : Nat → Int) : ∀ k, IsMap (nums F T k)
  | 0 => isMap_empty
  | k + 1 => (nums_isMap F T k).put _ _

def WfTo (F T : Nat → Int) (n : Nat) : Prop := ∀ k, k < n → (Lit.int .i64 (F k)).wf = true ∧ (Lit.int .i64 (T k)).wf = true

/-- A look-up in it: there is none, and then the key is not there; or it is there with its last number. -/
theorem nums_look (F T : Nat → Int) (a b : Int) (ha : (Lit.int .i64 a).wf = true) (hb : (Lit.int .i64 b).wf = true) : ∀ n, WfTo F T n →
    (Maps.has (nums F T n) (kl a b) = false ∧ ∀ k, k < n → ¬ (F k = a ∧ T k = b)) ∨
    ∃ k, k < n ∧ F k = a ∧ T k = b ∧ Maps.has (nums F T n) (kl a b) = true ∧ (nums F T n).atKey (kl a b) (.lit (.int .i64 0)) = .lit (.int .i64 (k : Int))
  | 0, _ => Or.inl ⟨rfl, fun k hk => by omega⟩
  | n + 1, hw => by
    by_cases h : F n = a ∧ T n = b
    · obtain ⟨rfl, rfl⟩ := h
      exact Or.inr ⟨n, by omega, rfl, rfl, has_put_same (nums_isMap F T n) (kl_key _ _) _, atKey_put_same (nums_isMap F T n) (kl_key _ _) _ _⟩
    · have hne : kl a b ≠ kl (F n) (T n) := fun e => by
        have := kl_inj ha hb (hw n (by omega)).1 (hw n (by omega)).2 e
        exact h ⟨this.1.symm, this.2.symm⟩
      rcases nums_look F T a b ha hb n (fun k hk => hw k (by omega)) with ⟨h1, h2⟩ | ⟨k, hk, h1, h2, h3, h4⟩
      · exact Or.inl ⟨by rw [nums, has_put_other hne]; exact h1, fun k hk => by
          by_cases e : k = n
          · subst e; exact h
          · exact h2 k (by omega)⟩
      · exact Or.inr ⟨k, by omega, h1, h2, by rw [nums, has_put_other hne]; exact h3, by rw [nums, atKey_put_other hne]; exact h4⟩

theorem make_map (n : Nat) (w : World) : (Instr.makeMap 63 (some (.int .i64 (n : Int)))).run Try.prog w = .ok (.map (some w.heap.size)) (w.alloc (.map #[] 0)) := by
  simp [Instr.makeMap, run_underlying Try.underlying63, asInt, asIntOf, newObj]
  rfl

end Go.Proofs.Ythcgibpiogmmdaa
