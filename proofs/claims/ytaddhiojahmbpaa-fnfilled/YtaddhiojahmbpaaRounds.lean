/-
  A range over a function whose rounds write what the function reads between them: the caller's own invariant tells the function what lies there. Two laws: for a loop that stands alone and for one in a round of another; no round leaves early.
-/
import Derived.Test.YtaddhiojahmbpaaRows
import Derived.RangeFuncNested
import Derived.RangeFuncBound
import Derived.RangeFuncCalls
import Derived.RangeFuncLeaves
import Derived.Shelf.Abstract
import Derived.Shelf.RegionOpen
import Derived.WalkKit
import Derived.OwnWalkIn
import Derived.TacticsInMore
import Derived.LoopNIn
import Derived.LoopIn
set_option linter.unusedVariables false
set_option linter.unusedSimpArgs false
namespace Go.Proofs.Ytaddhiojahmbpaa
open Go Go.RowKit

section
variable {F : Fence} {n m : Nat} {P : Program}

/-- One call of yield: the record is ready, the body ends in the ordinary way and leaves it busy. -/
theorem yield_of {l : Nat} {r : Loop} {args : Array Value} {W : World} {R : Ending → World → Prop} (hl : W.heap[l]? = some (.loop r)) (hs : args.size = r.params.size) (hr : r.state = .ready) (hp : r.pending = none) (hfn : F.fn r.fn)
    (h : r.assign.wpIn (F.inRound l) m P (Exit.then (fun a' Wa => Wa.heap[l]? = some (.loop r) ∧ r.body.wpIn (F.inRound l) m P (fun e _ W3 => e = .normal ∧ W3.heap[l]? = some (.loop { r with state := .busy }) ∧ R (.returned (.bool true)) (W3.putObj l (.loop r))) a' (Wa.putObj l (.loop { r with state := .busy }))) (fun _ _ _ => False))
      { tmps := (r.params.zip args).foldl (fun t (p, v) => t.setIfInBounds p v) r.tmps, defers := [] } W) : YieldAt F m P l args W R := by
  refine ⟨_, _, _, _, run_yield hl hs, roundIn_of_wpIn hfn (wpIn_mono h ?_)⟩
  intro e a' Wa hh
  cases e with
  | normal =>
    obtain ⟨h1, h2⟩ := hh
    refine ⟨_, run_beginRound h1 hr, wpIn_mono h2 ?_⟩
    rintro e3 a3 W3 ⟨rfl, h3, h4⟩
    refine ⟨_, _, run_endRound none h3, ?_⟩
    have e : ({ { r with state := .busy } with state := if (none : Option Code).isNone then .ready else .done, pending := none } : Loop) = r := by
      cases r; simp_all
    rw [e]
    exact h4
  | _ => exact hh

/-- How a round's body ends: ordinarily; what is no cells and lies from B on lies as it lay; the invariant holds one further. -/
def roundQ {α : Type} (B : Nat) (I : List α → World → Prop) (xs : List α) (W : World) : Exit → Act → World → Prop := fun e _ W' => e = .normal ∧ KeepsFrom B W W' ∧ I xs W'

/-- What the function that is ranged over owes: called with the yield of loop l, whatever J that tells I, it hands over elements that are asked for (G) till S. -/
def SeqAt {α : Type} (F : Fence) (n : Nat) (P : Program) (gf : Nat) (lb : Array Value) (encs : α → Array Value) (I : List α → World → Prop) (G : List α → α → Prop) (S : List α → Prop) (w : World) : Prop :=
  ∀ (l : Nat) (J : List α → World → Prop) (W : World), Below w.heap.size w W → AbidesFrom W.heap.size J → (∀ pre W1, J pre W1 → I pre W1) →
    (∀ pre x W1, J pre W1 → G pre x → YieldAt F (n - 1) P l (encs x) W1 fun e W' => e = .returned (.bool true) ∧ J (pre ++ [x]) W') → J [] W →
    CallsIn F n P gf (#[.func (.yield l) #[] #[]] ++ lb) W fun e W' => (∃ v, e = .returned v) ∧ ∃ xs, S xs ∧ J xs W'

/-- A round, its bookkeeping done: the record's block l lies from B on. -/
theorem round_of {α : Type} {B l : Nat} {r : Loop} {encs : α → Array Value} {x : α} {pre : List α} {W : World} {I : List α → World → Prop} {Ax : α → Act → World → Prop} (hI : OwnFrom B I) (hAx : ∀ a', OwnFrom B (fun (_ : Unit) W => Ax x a' W))
    (hB : B ≤ l) (hl : W.heap[l]? = some (.loop r)) (hs : (encs x).size = r.params.size) (hr : r.state = .ready) (hp : r.pending = none) (hfn : F.fn r.fn) (hi : I pre W)
    (hassign : ∀ K : Act → World → Prop, (∀ a' W', KeepsFrom B W W' → I pre W' → Ax x a' W' → K a' W') →
      r.assign.wpIn (F.inRound l) m P (Exit.then K (fun _ _ _ => False)) { tmps := (r.params.zip (encs x)).foldl (fun t (p, v) => t.setIfInBounds p v) r.tmps, defers := [] } W)
    (hbody : ∀ (a' : Act) (W' : World), (∃ r, W'.heap[l]? = some (.loop r)) → I pre W' → Ax x a' W' → r.body.wpIn (F.inRound l) m P (roundQ B I (pre ++ [x]) W') a' W')
    {R : World → Prop} (hR : ∀ W', I (pre ++ [x]) W' → W'.heap[l]? = some (.loop r) → (∀ k o, B ≤ k → k ≠ l → W.heap[k]? = some o → o.isCells = false → W'.heap[k]? = some o) → R W') :
    YieldAt F m P l (encs x) W fun e W' => e = .returned (.bool true) ∧ R W' := by
  refine yield_of hl hs hr hp hfn (hassign _ ?_)
  intro a' Wa hk hia hax
  have hla := hk.same l _ hB hl rfl
  have hlt := (Array.getElem?_eq_some_iff.1 hla).1
  have hl2 : (Wa.putObj l (.loop { r with state := .busy })).heap[l]? = some (.loop { r with state := .busy }) := World.putObj_heap_same hlt
  refine ⟨hla, wpIn_mono (hbody a' _ ⟨_, hl2⟩ (hI.putObj _ hia hB hla rfl) ((hAx a').putObj (s := ()) _ hax hB hla rfl)) ?_⟩
  rintro e a3 W3 ⟨rfl, hk3, hi3⟩
  have hl3 := hk3.same l _ hB hl2 rfl
  refine ⟨rfl, hl3, rfl, hR _ (hI.putObj _ hi3 hB hl3 rfl) (World.putObj_heap_same (Array.getElem?_eq_some_iff.1 hl3).1) ?_⟩
  intro k o hBk hne h0 ho
  rw [World.putObj_heap_other hne]
  refine hk3.same k o hBk ?_ ho
  rw [World.putObj_heap_other hne]
  exact hk.same k o hBk h0 ho

/-- THE LAW for a loop that stands alone. -/
theorem range_alone {α : Type} {g : Operand} {ps : Array Tmp} {assign body : Code} {Q : Exit → Act → World → Prop} {a : Act} {w : World}
    (hro : F.round = none) (h1 : 1 ≤ n) {gf : Nat} {lb : Array Value} (hg : a.eval g = .func (.func gf) #[] lb) (hFg : F.fn gf) (eg : ∀ args w, (callFunc gf args).run P w = .ok (.enter gf args) w)
    {encs : α → Array Value} (hps : ∀ x, (encs x).size = ps.size) (I : List α → World → Prop) (hI : OwnFrom w.heap.size I) (h0 : I [] w) {G : List α → α → Prop} {S : List α → Prop} (hseq : SeqAt F (n - 1) P gf lb encs I G S w)
    (Ax : α → Act → World → Prop) (hAx : ∀ x a', OwnFrom w.heap.size (fun (_ : Unit) W => Ax x a' W))
    (hassign : ∀ (l : Nat) (pre : List α) (x : α) (W : World) (K : Act → World → Prop), I pre W → G pre x → (∀ a' W', KeepsFrom w.heap.size W W' → I pre W' → Ax x a' W' → K a' W') →
      assign.wpIn (F.inRound l) (n - 1 - 1) P (Exit.then K (fun _ _ _ => False)) { tmps := (ps.zip (encs x)).foldl (fun t (p, v) => t.setIfInBounds p v) a.tmps, defers := [] } W)
    (hbody : ∀ (l : Nat) (pre : List α) (x : α) (a' : Act) (W : World), w.heap.size ≤ l → (∃ r, W.heap[l]? = some (.loop r)) → I pre W → G pre x → Ax x a' W → body.wpIn (F.inRound l) (n - 1 - 1) P (roundQ w.heap.size I (pre ++ [x]) W) a' W)
    (hdone : ∀ (D : Nat) (xs : List α) (W : World), w.heap.size ≤ D → S xs → I xs W → W.heap[D]? = some (.deferred (some [])) → Q .normal { a with defers := { target := .collected D, args := #[] } :: a.defers } W) :
    (Code.rangeFunc g ps assign body).wpIn F n P Q a w := by
  refine wpIn_rangeFunc fun fn hfn => ?_
  rw [hro]
  obtain ⟨r, hr⟩ : ∃ r : Loop, r = { state := .ready, pending := none, fn, tmps := a.tmps, params := ps, assign, body, defers := w.heap.size } := ⟨_, rfl⟩
  have hen := run_enterLoop_outer (P := P) (w := w) fn a.tmps ps assign body
  rw [← hr] at hen
  have hb : Below w.heap.size w ((w.alloc (.deferred (some []))).alloc (.loop r)) := ((Below.refl _ w).alloc (Nat.le_refl _) _).alloc (by simp) _
  have hL : ((w.alloc (.deferred (some []))).alloc (.loop r)).heap[w.heap.size + 1]? = some (.loop r) := by
    have := World.alloc_heap_new (w.alloc (.deferred (some []))) (.loop r)
    rwa [World.size_alloc] at this
  have hD : ((w.alloc (.deferred (some []))).alloc (.loop r)).heap[w.heap.size]? = some (.deferred (some [])) := (Below.heap_alloc _ _ _ (by simp)).trans (World.alloc_heap_new w _)
  have hi := hI.alloc (.loop r) (hI.alloc (.deferred (some [])) h0)
  have hsz : ((w.alloc (.deferred (some []))).alloc (.loop r)).heap.size = w.heap.size + 2 := by simp
  generalize (w.alloc (.deferred (some []))).alloc (.loop r) = W1 at hb hL hD hi hsz hen
  refine ⟨w.heap.size + 1, [{ target := .collected w.heap.size, args := #[] }], W1, { target := .fn (.func gf) lb, args := #[.func (.yield (w.heap.size + 1)) #[] #[]] }, W1, gf, #[.func (.yield (w.heap.size + 1)) #[] #[]] ++ lb, W1, hen, ?_, ?_, ?_, fun _ => h1, ?_⟩
  · simp only [resolve, hg]
    simp [go_sem]
  · intro f' hf'
    simp [Target.leads] at hf'
    subst hf'
    exact hFg
  · simp [invoke, go_sem, eg]
  refine (hseq (w.heap.size + 1) (fun pre W => I pre W ∧ W.heap[w.heap.size + 1]? = some (.loop r) ∧ W.heap[w.heap.size]? = some (.deferred (some []))) W1 hb ?_ (fun _ _ h => h.1) ?_ ⟨hi, hL, hD⟩).mono ?_
  · rintro s A B row ⟨hs, hl, hd⟩ hg' hrow
    have hw' : ∀ r, row = some r → ∃ o : Obj, A.heap[r]? = some o ∧ o.isWalk = true := fun r e => (hrow r e).2
    refine ⟨hI s A B row hs hg' (fun j e => ?_), (grownBy_keeps hg' hw' hl rfl).trans hl, (grownBy_keeps hg' hw' hd rfl).trans hd⟩
    obtain ⟨hj, o, ho, hwo⟩ := hrow j e
    exact ⟨by omega, o, ho, Obj.not_cells_of_walk hwo⟩
  · rintro pre x W ⟨hi', hl', hd'⟩ hG
    refine round_of hI (hAx x) (by omega) hl' (by rw [hr]; exact hps x) (by rw [hr]) (by rw [hr]) (by rw [hr]; exact hfn) hi' ?_ ?_ ?_
    · intro K hK
      have := hassign (w.heap.size + 1) pre x W K hi' hG hK
      rw [hr]
      exact this
    · intro a' W' hrec hi2 hax
      have := hbody (w.heap.size + 1) pre x a' W' (by omega) hrec hi2 hG hax
      rw [hr]
      exact this
    · intro W' hi3 hl3 hrest
      exact ⟨hi3, hl3, hrest _ _ (Nat.le_refl _) (by omega) hd' rfl⟩
  · rintro e W2 ⟨⟨v, rfl⟩, xs, hS, hi2, hl2, hd2⟩
    refine ⟨none, _, ?_, hdone _ xs _ (Nat.le_refl _) hS (hI.putObj (.loop { r with state := .exhausted }) hi2 (by omega) hl2 rfl) ((World.putObj_heap_other (by omega)).trans hd2)⟩
    have := run_endLoop (P := P) hl2 (by rw [hr]; simp)
    have e : r.pending = none := by rw [hr]
    rw [e] at this ⊢
    exact this

/-- THE LAW for a loop in a round of loop l₀. -/
theorem range_within {α : Type} {g : Operand} {ps : Array Tmp} {assign body : Code} {Q : Exit → Act → World → Prop} {a : Act} {w : World}
    {l₀ : Nat} {r₀ : Loop} (hro : F.round = some l₀) (hl₀ : w.heap[l₀]? = some (.loop r₀)) (h1 : 1 ≤ n) {gf : Nat} {lb : Array Value} (hg : a.eval g = .func (.func gf) #[] lb) (hFg : F.fn gf) (eg : ∀ args w, (callFunc gf args).run P w = .ok (.enter gf args) w)
    {encs : α → Array Value} (hps : ∀ x, (encs x).size = ps.size) (I : List α → World → Prop) (hI : OwnFrom w.heap.size I) (h0 : I [] w) {G : List α → α → Prop} {S : List α → Prop} (hseq : SeqAt F (n - 1) P gf lb encs I G S w)
    (Ax : α → Act → World → Prop) (hAx : ∀ x a', OwnFrom w.heap.size (fun (_ : Unit) W => Ax x a' W))
    (hassign : ∀ (l : Nat) (pre : List α) (x : α) (W : World) (K : Act → World → Prop), I pre W → G pre x → (∀ a' W', KeepsFrom w.heap.size W W' → I pre W' → Ax x a' W' → K a' W') →
      assign.wpIn (F.inRound l) (n - 1 - 1) P (Exit.then K (fun _ _ _ => False)) { tmps := (ps.zip (encs x)).foldl (fun t (p, v) => t.setIfInBounds p v) a.tmps, defers := [] } W)
    (hbody : ∀ (l : Nat) (pre : List α) (x : α) (a' : Act) (W : World), w.heap.size ≤ l → (∃ r, W.heap[l]? = some (.loop r)) → I pre W → G pre x → Ax x a' W → body.wpIn (F.inRound l) (n - 1 - 1) P (roundQ w.heap.size I (pre ++ [x]) W) a' W)
    (hdone : ∀ (xs : List α) (W : World), S xs → I xs W → Q .normal a W) :
    (Code.rangeFunc g ps assign body).wpIn F n P Q a w := by
  refine wpIn_rangeFunc fun fn hfn => ?_
  rw [hro]
  obtain ⟨r, hr⟩ : ∃ r : Loop, r = { state := .ready, pending := none, fn, tmps := a.tmps, params := ps, assign, body, defers := r₀.defers } := ⟨_, rfl⟩
  have hen := run_enterLoop_inner (P := P) hl₀ fn a.tmps ps assign body
  rw [← hr] at hen
  have hb : Below w.heap.size w (w.alloc (.loop r)) := (Below.refl _ w).alloc (Nat.le_refl _) _
  have hL : (w.alloc (.loop r)).heap[w.heap.size]? = some (.loop r) := World.alloc_heap_new w _
  have hi := hI.alloc (.loop r) h0
  have hsz : (w.alloc (.loop r)).heap.size = w.heap.size + 1 := by simp
  generalize w.alloc (.loop r) = W1 at hb hL hi hsz hen
  refine ⟨w.heap.size, [], W1, { target := .fn (.func gf) lb, args := #[.func (.yield w.heap.size) #[] #[]] }, W1, gf, #[.func (.yield w.heap.size) #[] #[]] ++ lb, W1, hen, ?_, ?_, ?_, fun _ => h1, ?_⟩
  · simp only [resolve, hg]
    simp [go_sem]
  · intro f' hf'
    simp [Target.leads] at hf'
    subst hf'
    exact hFg
  · simp [invoke, go_sem, eg]
  refine (hseq w.heap.size (fun pre W => I pre W ∧ W.heap[w.heap.size]? = some (.loop r)) W1 hb ?_ (fun _ _ h => h.1) ?_ ⟨hi, hL⟩).mono ?_
  · rintro s A B row ⟨hs, hl⟩ hg' hrow
    have hw' : ∀ r, row = some r → ∃ o : Obj, A.heap[r]? = some o ∧ o.isWalk = true := fun r e => (hrow r e).2
    refine ⟨hI s A B row hs hg' (fun j e => ?_), (grownBy_keeps hg' hw' hl rfl).trans hl⟩
    obtain ⟨hj, o, ho, hwo⟩ := hrow j e
    exact ⟨by omega, o, ho, Obj.not_cells_of_walk hwo⟩
  · rintro pre x W ⟨hi', hl'⟩ hG
    refine round_of hI (hAx x) (Nat.le_refl _) hl' (by rw [hr]; exact hps x) (by rw [hr]) (by rw [hr]) (by rw [hr]; exact hfn) hi' ?_ ?_ ?_
    · intro K hK
      have := hassign w.heap.size pre x W K hi' hG hK
      rw [hr]
      exact this
    · intro a' W' hrec hi2 hax
      have := hbody w.heap.size pre x a' W' (Nat.le_refl _) hrec hi2 hG hax
      rw [hr]
      exact this
    · intro W' hi3 hl3 _
      exact ⟨hi3, hl3⟩
  · rintro e W2 ⟨⟨v, rfl⟩, xs, hS, hi2, hl2⟩
    refine ⟨none, _, ?_, hdone xs _ hS (hI.putObj (.loop { r with state := .exhausted }) hi2 (Nat.le_refl _) hl2 rfl)⟩
    have := run_endLoop (P := P) hl2 (by rw [hr]; simp)
    have e : r.pending = none := by rw [hr]
    rw [e] at this ⊢
    exact this
end

end Go.Proofs.Ytaddhiojahmbpaa
