/-
  A region that draws its order and whose last operation waits for all others: one walk in the order of the text serves every order; the last operation may store.
-/
import Derived.Test.YthcgibpiogmmdaiDoorRows
import Derived.WalkKit
import Derived.Deep.QuietTactic
import Derived.BigQuiet
set_option linter.unusedVariables false
set_option linter.unusedSimpArgs false
namespace Go.Proofs.YthcgibpiogmmdaiDoor
open Go

theorem yielded_congr {ops ops' : Array Oper} (h : ∀ j : Nat, (ops[j]?).map (·.dst) = (ops'[j]?).map (·.dst)) (tmps : Array Value) : yielded ops tmps = yielded ops' tmps := by
  funext j
  have e : (ops[j]?.bind fun x => x.dst) = (ops'[j]?.bind fun x => x.dst) := by
    have := h j
    cases h1 : ops[j]? <;> cases h2 : ops'[j]? <;> simp_all
  unfold yielded
  rw [e]

theorem ready_congr {md : Region.Mode} {ops ops' : Array Oper} (hs : ops.size = ops'.size) (h : ∀ j : Nat, (ops[j]?).map (·.after) = (ops'[j]?).map (·.after)) (listed : Array Bool) : Region.ready md ops listed = Region.ready md ops' listed := by
  unfold Region.ready
  rw [hs]
  apply List.filter_congr
  intro j _
  have := h j
  cases h1 : ops[j]? <;> cases h2 : ops'[j]? <;> simp_all

/-- What is waited for stands ahead. -/
def fwdB (ops : Array Oper) : Bool := (List.range ops.size).all fun j => match ops[j]? with
  | some o => o.after.all fun e => !Region.binds .any e || decide (e.on < j)
  | none => true
/-- Number n waits for all ahead of it. -/
def lastB (ops : Array Oper) (n : Nat) : Bool := match ops[n]? with
  | some o => (List.range n).all fun j => o.after.any fun e => Region.binds .any e && e.on == j
  | none => false

theorem ready_ne {ops : Array Oper} (hf : fwdB ops = true) {listed : Array Bool} (hs : listed.size = ops.size) : ∀ j, j < ops.size → listed.getD j true = false → Region.ready .any ops listed ≠ [] := by
  intro j
  induction j using Nat.strongRecOn with
  | ind j ih =>
    intro hj hl h0
    have hj' : ops[j]? = some ops[j] := Array.getElem?_eq_getElem hj
    by_cases hr : ∀ e ∈ ops[j].after, Region.binds .any e = true → listed.getD e.on false = true
    · have : j ∈ Region.ready .any ops listed := mem_ready.2 ⟨hl, _, hj', hr⟩
      rw [h0] at this
      cases this
    · have hr' : ∃ e, e ∈ ops[j].after ∧ Region.binds .any e = true ∧ ¬ listed.getD e.on false = true := by
        refine Classical.byContradiction fun hn => hr fun e he hb => ?_
        exact Classical.byContradiction fun hx => hn ⟨e, he, hb, hx⟩
      obtain ⟨e, he, hb, hx⟩ := hr'
      have hlt : e.on < j := by
        unfold fwdB at hf
        have := List.all_eq_true.1 hf j (List.mem_range.2 hj)
        simp only [hj'] at this
        have := Array.all_eq_true_iff_forall_mem.1 this e he
        simpa [hb] using this
      have hlt' : e.on < listed.size := by omega
      refine ih e.on hlt (by omega) ?_ h0
      simp [hlt'] at hx ⊢
      exact hx

theorem all_listed {ops : Array Oper} {n : Nat} (hn : ops.size = n + 1) (hl : lastB ops n = true) {listed : Array Bool} (hs : listed.size = ops.size) (hr : n ∈ Region.ready .any ops listed) : Region.ready .any ops (listed.setIfInBounds n true) = [] := by
  refine List.eq_nil_iff_forall_not_mem.2 fun i hi => ?_
  obtain ⟨hli, o, ho, _⟩ := mem_ready.1 hi
  have hin : i < n + 1 := by
    have := (Array.getElem?_eq_some_iff.1 ho).1
    omega
  obtain ⟨_, o', ho', hall⟩ := mem_ready.1 hr
  by_cases e : i = n
  · subst e
    have : i < listed.size := by omega
    simp [this] at hli
  · unfold lastB at hl
    rw [ho'] at hl
    have := List.all_eq_true.1 hl i (List.mem_range.2 (by omega))
    obtain ⟨ed, hed, hb⟩ : ∃ ed ∈ o'.after, Region.binds .any ed = true ∧ ed.on = i := by
      obtain ⟨x, hx, hp⟩ := Array.any_eq_true.1 this
      exact ⟨_, Array.getElem_mem hx, by simpa using hp⟩
    have h1 := hall ed hed hb.1
    rw [hb.2] at h1
    rw [getD_set_ne true (fun h => e h.symm)] at hli
    have : i < listed.size := by omega
    simp [this] at hli h1
    rw [hli] at h1
    cases h1

section
variable {P : Program} {ops ops' : Array Oper} {C : World → Prop}

theorem any_last {n : Nat} {o o' : Oper} {Q : Act → Prop} {Q' : Exit → Act → World → Prop} (hn : ops.size = n + 1) (hs : ops.size = ops'.size) (hon : ops[n]? = some o) (hon' : ops'[n]? = some o') (hd : o.dst = none) (hd' : o'.dst = none) (hg : o.guard = none) (hg' : o'.guard = none)
    (hsame : ∀ j, j ≠ n → ops[j]? = ops'[j]?) (hafter : o.after = o'.after) (hf : fwdB ops = true) (hl : lastB ops n = true)
    (htail : ∀ a w, C w → Q a → o.wp P a w (fun a' w' => Q' .normal a' w') Q') :
    ∀ (fuel : Nat) (listed : Array Bool) (a : Act) (w : World), listed.size = ops.size → listed.getD n true = false → C w → wpAnyQ P .any ops' C Q fuel listed a → wpAny P .any ops Q' fuel listed a w := by
  have hrc : ∀ listed, Region.ready .any ops listed = Region.ready .any ops' listed := fun listed => ready_congr hs (fun j => by
    by_cases e : j = n
    · subst e; rw [hon, hon']; simp [hafter]
    · rw [hsame j e]) listed
  have hyc : ∀ tmps, yielded ops tmps = yielded ops' tmps := yielded_congr (fun j => by
    by_cases e : j = n
    · subst e; rw [hon, hon']; simp [hd, hd']
    · rw [hsame j e])
  intro fuel
  induction fuel with
  | zero =>
    intro listed a w hsz hun hC h
    exact absurd ((hrc listed).trans h.1) (ready_ne hf hsz n (by omega) hun)
  | succ fuel ih =>
    intro listed a w hsz hun hC h
    refine ⟨fun h0 => absurd h0 (ready_ne hf hsz n (by omega) hun), fun i hi => ?_⟩
    have hi' : i ∈ Region.ready .any ops' listed := (hrc listed) ▸ hi
    have hq := h.2 i hi'
    by_cases e : i = n
    · subst e
      have hnil := all_listed hn hl hsz hi
      have hnil' := (hrc _).symm.trans hnil
      unfold qOp at hq
      simp only [hon'] at hq
      have hw' : Region.wanted o' (yielded ops' a.tmps) = true := by simp [Region.wanted, hg']
      rw [if_pos hw'] at hq
      obtain ⟨v, _, hnext⟩ := hq
      rw [hd'] at hnext
      have hQa : Q a := by
        cases fuel with
        | zero => exact hnext.2
        | succ f => exact hnext.1 hnil'
      unfold wpOp
      simp only [hon]
      have hw : Region.wanted o (yielded ops a.tmps) = true := by simp [Region.wanted, hg]
      rw [if_pos hw]
      refine .inl (Oper.wp_mono (fun a' w' hq' => ?_) (htail a w hC hQa))
      cases fuel with
      | zero => exact ⟨hnil, hq'⟩
      | succ f => exact ⟨fun _ => hq', fun j hj => by rw [hnil] at hj; cases hj⟩
    · have hq2 : qOp P ops C i (wpAnyQ P .any ops' C Q fuel (listed.setIfInBounds i true)) a := by
        unfold qOp at hq ⊢
        rw [hsame i e, hyc]
        exact hq
      refine wpOp_of_qOp hC (fun a' w' hC' hK => ih _ a' w' (by simpa using hsz) ?_ hC' hK) hq2
      rw [getD_set_ne true e]
      exact hun
end

/-- THE LAW: the last operation o stands behind a quiet head; in its place, for the walk, a move that does nothing. -/
theorem wp_region_last {P : Program} {id : Nat} {Q : Exit → Act → World → Prop} {a : Act} {w : World} {l : List Oper} {o : Oper} (hm : P.follows .mixedOrders = true)
    (hd : o.dst = none) (hg : o.guard = none) (hB : Region.lexB .any (l ++ [{ o with op := .move (.const undef) }]).toArray = true) (hf : fwdB (l ++ [o]).toArray = true) (hl : lastB (l ++ [o]).toArray l.length = true)
    (h : wpQuiet P (l ++ [{ o with op := .move (.const undef) }]).toArray (fun w' => ∃ n, w' = w.drewN n) (fun a' => ∀ w', (∃ n, w' = w.drewN n) → o.wp P a' w' (fun a2 w2 => Q .normal a2 w2) Q) (l ++ [{ o with op := .move (.const undef) }]) a) :
    (Code.region id (l ++ [o]).toArray true).wp P Q a w := by
  simp only [Region.lexB, Bool.and_eq_true] at hB
  refine wp_region_any hm (any_last (ops' := (l ++ [{ o with op := .move (.const undef) }]).toArray) (n := l.length) (o := o) (o' := { o with op := .move (.const undef) }) (C := fun w' => ∃ n, w' = w.drewN n) (Q := fun a' => ∀ w', (∃ n, w' = w.drewN n) → o.wp P a' w' (fun a2 w2 => Q .normal a2 w2) Q) (by simp) (by simp) (by simp) (by simp) hd hd hg hg (fun j hj => ?_) rfl hf hl (fun a' w' hC hq => hq w' hC) _ _ _ _ (by simp) (by simp) ⟨1, rfl⟩ ?_)
  · simp only [List.getElem?_toArray]
    by_cases hlt : j < l.length
    · rw [List.getElem?_append_left hlt, List.getElem?_append_left hlt]
    · rw [List.getElem?_eq_none (by simp; omega), List.getElem?_eq_none (by simp; omega)]
  · have := wpAnyQ_lex (C := fun w' => ∃ n, w' = w.drewN n) (md := .any) hB.1 (l ++ [{ o with op := .move (.const undef) }]) 0 (Array.replicate (l ++ [{ o with op := .move (.const undef) }]).toArray.size false) a (by simp) (by simpa using hB.2) h
    simpa using this

/-- The same for a region whose operations are written out: 'refine wp_region_last_lit n (by kernel_rfl) rfl rfl rfl (by kernel_rfl) (by kernel_rfl) (by kernel_rfl) ?_'. -/
theorem wp_region_last_lit {P : Program} {id : Nat} {Q : Exit → Act → World → Prop} {a : Act} {w : World} {L : List Oper} (n : Nat) {o : Oper} (hm : P.follows .mixedOrders = true) (hL : L = L.take n ++ [o])
    (hd : o.dst = none) (hg : o.guard = none) (hB : Region.lexB .any (L.take n ++ [{ o with op := .move (.const undef) }]).toArray = true) (hf : fwdB L.toArray = true) (hl : lastB L.toArray n = true) (hn : (L.take n).length = n)
    (h : wpQuiet P (L.take n ++ [{ o with op := .move (.const undef) }]).toArray (fun w' => ∃ n, w' = w.drewN n) (fun a' => ∀ w', (∃ n, w' = w.drewN n) → o.wp P a' w' (fun a2 w2 => Q .normal a2 w2) Q) (L.take n ++ [{ o with op := .move (.const undef) }]) a) :
    (Code.region id L.toArray true).wp P Q a w := by
  rw [hL]
  refine wp_region_last hm hd hg hB (by rw [← hL]; exact hf) (by rw [← hL, hn]; exact hl) h

end Go.Proofs.YthcgibpiogmmdaiDoor
