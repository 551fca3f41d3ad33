/-
  Helpers, merged: Last, OrdSpec, OrdTake, FillS, Sort, TakeAway.
-/
import Derived.Test.YtdgnlpafmkhdjahRows
import Derived.WalkKit
import Derived.Deep.QuietTactic
import Derived.BigQuiet
import Derived.Test.YtdgnlpafmkhdjahPack2
import Derived.Test.YtdgnlpafmkhdjahPack3
import Derived.BigRegion
import Derived.Test.YtdgnlpafmkhdjahPack1
/-
  A region that draws its order and whose last operation waits for all others: one walk in the order of the text serves every order; the last operation may store.
-/
set_option linter.unusedVariables false
set_option linter.unusedSimpArgs false
namespace Go.Proofs.Ytdgnlpafmkhdjah
open Go

theorem yielded_congr {ops ops' : Array Oper} (h : ∀ j : Nat, (ops[j]?).map (·.dst) = (ops'[j]?).map (·.dst)) (tmps : Array Value) : yielded ops tmps = yielded ops' tmps := by
  funext j
  have e : (ops[j]?.bind fun x => x.dst) = (ops'[j]?.bind fun x => x.dst) := by
    have := h j
    cases h1 : ops[j]? <;> cases h2 : ops'[j]? <;> simp_all
  unfold yielded
  rw [e]

theorem ready_congr {md : Region.Mode} {ops ops' : Array Oper} (hs : ops.size = ops'.size) (h : ∀ j : Nat, (ops[j]?).map (·.after) = (ops'[j]?).map (·.after)) (listed : Array Bool) : Region.ready md ops listed = Region.ready md ops' listed := by
  unfold Region.ready
  rw [hs]
  apply List.filter_congr
  intro j _
  have := h j
  cases h1 : ops[j]? <;> cases h2 : ops'[j]? <;> simp_all

/-- What is waited for stands ahead. -/
def fwdB (ops : Array Oper) : Bool := (List.range ops.size).all fun j => match ops[j]? with
  | some o => o.after.all fun e => !Region.binds .any e || decide (e.on < j)
  | none => true
/-- Number n waits for all ahead of it. -/
def lastB (ops : Array Oper) (n : Nat) : Bool := match ops[n]? with
  | some o => (List.range n).all fun j => o.after.any fun e => Region.binds .any e && e.on == j
  | none => false

theorem ready_ne {ops : Array Oper} (hf : fwdB ops = true) {listed : Array Bool} (hs : listed.size = ops.size) : ∀ j, j < ops.size → listed.getD j true = false → Region.ready .any ops listed ≠ [] := by
  intro j
  induction j using Nat.strongRecOn with
  | ind j ih =>
    intro hj hl h0
    have hj' : ops[j]? = some ops[j] := Array.getElem?_eq_getElem hj
    by_cases hr : ∀ e ∈ ops[j].after, Region.binds .any e = true → listed.getD e.on false = true
    · have : j ∈ Region.ready .any ops listed := mem_ready.2 ⟨hl, _, hj', hr⟩
      rw [h0] at this
      cases this
    · have hr' : ∃ e, e ∈ ops[j].after ∧ Region.binds .any e = true ∧ ¬ listed.getD e.on false = true := by
        refine Classical.byContradiction fun hn => hr fun e he hb => ?_
        exact Classical.byContradiction fun hx => hn ⟨e, he, hb, hx⟩
      obtain ⟨e, he, hb, hx⟩ := hr'
      have hlt : e.on < j := by
        unfold fwdB at hf
        have := List.all_eq_true.1 hf j (List.mem_range.2 hj)
        simp only [hj'] at this
        have := Array.all_eq_true_iff_forall_mem.1 this e he
        simpa [hb] using this
      have hlt' : e.on < listed.size := by omega
      refine ih e.on hlt (by omega) ?_ h0
      simp [hlt'] at hx ⊢
      exact hx

theorem all_listed {ops : Array Oper} {n : Nat} (hn : ops.size = n + 1) (hl : lastB ops n = true) {listed : Array Bool} (hs : listed.size = ops.size) (hr : n ∈ Region.ready .any ops listed) : Region.ready .any ops (listed.setIfInBounds n true) = [] := by
  refine List.eq_nil_iff_forall_not_mem.2 fun i hi => ?_
  obtain ⟨hli, o, ho, _⟩ := mem_ready.1 hi
  have hin : i < n + 1 := by
    have := (Array.getElem?_eq_some_iff.1 ho).1
    omega
  obtain ⟨_, o', ho', hall⟩ := mem_ready.1 hr
  by_cases e : i = n
  · subst e
    have : i < listed.size := by omega
    simp [this] at hli
  · unfold lastB at hl
    rw [ho'] at hl
    have := List.all_eq_true.1 hl i (List.mem_range.2 (by omega))
    obtain ⟨ed, hed, hb⟩ : ∃ ed ∈ o'.after, Region.binds .any ed = true ∧ ed.on = i := by
      obtain ⟨x, hx, hp⟩ := Array.any_eq_true.1 this
      exact ⟨_, Array.getElem_mem hx, by simpa using hp⟩
    have h1 := hall ed hed hb.1
    rw [hb.2] at h1
    rw [getD_set_ne true (fun h => e h.symm)] at hli
    have : i < listed.size := by omega
    simp [this] at hli h1
    rw [hli] at h1
    cases h1

section
variable {P : Program} {ops ops' : Array Oper} {C : World → Prop}

theorem any_last {n : Nat} {o o' : Oper} {Q : Act → Prop} {Q' : Exit → Act → World → Prop} (hn : ops.size = n + 1) (hs : ops.size = ops'.size) (hon : ops[n]? = some o) (hon' : ops'[n]? = some o') (hd : o.dst = none) (hd' : o'.dst = none) (hg : o.guard = none) (hg' : o'.guard = none)
    (hsame : ∀ j, j ≠ n → ops[j]? = ops'[j]?) (hafter : o.after = o'.after) (hf : fwdB ops = true) (hl : lastB ops n = true)
    (htail : ∀ a w, C w → Q a → o.wp P a w (fun a' w' => Q' .normal a' w') Q') :
    ∀ (fuel : Nat) (listed : Array Bool) (a : Act) (w : World), listed.size = ops.size → listed.getD n true = false → C w → wpAnyQ P .any ops' C Q fuel listed a → wpAny P .any ops Q' fuel listed a w := by
  have hrc : ∀ listed, Region.ready .any ops listed = Region.ready .any ops' listed := fun listed => ready_congr hs (fun j => by
    by_cases e : j = n
    · subst e; rw [hon, hon']; simp [hafter]
    · rw [hsame j e]) listed
  have hyc : ∀ tmps, yielded ops tmps = yielded ops' tmps := yielded_congr (fun j => by
    by_cases e : j = n
    · subst e; rw [hon, hon']; simp [hd, hd']
    · rw [hsame j e])
  intro fuel
  induction fuel with
  | zero =>
    intro listed a w hsz hun hC h
    exact absurd ((hrc listed).trans h.1) (ready_ne hf hsz n (by omega) hun)
  | succ fuel ih =>
    intro listed a w hsz hun hC h
    refine ⟨fun h0 => absurd h0 (ready_ne hf hsz n (by omega) hun), fun i hi => ?_⟩
    have hi' : i ∈ Region.ready .any ops' listed := (hrc listed) ▸ hi
    have hq := h.2 i hi'
    by_cases e : i = n
    · subst e
      have hnil := all_listed hn hl hsz hi
      have hnil' := (hrc _).symm.trans hnil
      unfold qOp at hq
      simp only [hon'] at hq
      have hw' : Region.wanted o' (yielded ops' a.tmps) = true := by simp [Region.wanted, hg']
      rw [if_pos hw'] at hq
      obtain ⟨v, _, hnext⟩ := hq
      rw [hd'] at hnext
      have hQa : Q a := by
        cases fuel with
        | zero => exact hnext.2
        | succ f => exact hnext.1 hnil'
      unfold wpOp
      simp only [hon]
      have hw : Region.wanted o (yielded ops a.tmps) = true := by simp [Region.wanted, hg]
      rw [if_pos hw]
      refine .inl (Oper.wp_mono (fun a' w' hq' => ?_) (htail a w hC hQa))
      cases fuel with
      | zero => exact ⟨hnil, hq'⟩
      | succ f => exact ⟨fun _ => hq', fun j hj => by rw [hnil] at hj; cases hj⟩
    · have hq2 : qOp P ops C i (wpAnyQ P .any ops' C Q fuel (listed.setIfInBounds i true)) a := by
        unfold qOp at hq ⊢
        rw [hsame i e, hyc]
        exact hq
      refine wpOp_of_qOp hC (fun a' w' hC' hK => ih _ a' w' (by simpa using hsz) ?_ hC' hK) hq2
      rw [getD_set_ne true e]
      exact hun
end

/-- THE LAW: the last operation o stands behind a quiet head; in its place, for the walk, a move that does nothing. -/
theorem wp_region_last {P : Program} {id : Nat} {Q : Exit → Act → World → Prop} {a : Act} {w : World} {l : List Oper} {o : Oper} (hm : P.follows .mixedOrders = true)
    (hd : o.dst = none) (hg : o.guard = none) (hB : Region.lexB .any (l ++ [{ o with op := .move (.const undef) }]).toArray = true) (hf : fwdB (l ++ [o]).toArray = true) (hl : lastB (l ++ [o]).toArray l.length = true)
    (h : wpQuiet P (l ++ [{ o with op := .move (.const undef) }]).toArray (fun w' => ∃ n, w' = w.drewN n) (fun a' => ∀ w', (∃ n, w' = w.drewN n) → o.wp P a' w' (fun a2 w2 => Q .normal a2 w2) Q) (l ++ [{ o with op := .move (.const undef) }]) a) :
    (Code.region id (l ++ [o]).toArray true).wp P Q a w := by
  simp only [Region.lexB, Bool.and_eq_true] at hB
  refine wp_region_any hm (any_last (ops' := (l ++ [{ o with op := .move (.const undef) }]).toArray) (n := l.length) (o := o) (o' := { o with op := .move (.const undef) }) (C := fun w' => ∃ n, w' = w.drewN n) (Q := fun a' => ∀ w', (∃ n, w' = w.drewN n) → o.wp P a' w' (fun a2 w2 => Q .normal a2 w2) Q) (by simp) (by simp) (by simp) (by simp) hd hd hg hg (fun j hj => ?_) rfl hf hl (fun a' w' hC hq => hq w' hC) _ _ _ _ (by simp) (by simp) ⟨1, rfl⟩ ?_)
  · simp only [List.getElem?_toArray]
    by_cases hlt : j < l.length
    · rw [List.getElem?_append_left hlt, List.getElem?_append_left hlt]
    · rw [List.getElem?_eq_none (by simp; omega), List.getElem?_eq_none (by simp; omega)]
  · have := wpAnyQ_lex (C := fun w' => ∃ n, w' = w.drewN n) (md := .any) hB.1 (l ++ [{ o with op := .move (.const undef) }]) 0 (Array.replicate (l ++ [{ o with op := .move (.const undef) }]).toArray.size false) a (by simp) (by simpa using hB.2) h
    simpa using this

/-- The same for a region whose operations are written out: 'refine wp_region_last_lit n (by kernel_rfl) rfl rfl rfl (by kernel_rfl) (by kernel_rfl) (by kernel_rfl) ?_'. -/
theorem wp_region_last_lit {P : Program} {id : Nat} {Q : Exit → Act → World → Prop} {a : Act} {w : World} {L : List Oper} (n : Nat) {o : Oper} (hm : P.follows .mixedOrders = true) (hL : L = L.take n ++ [o])
    (hd : o.dst = none) (hg : o.guard = none) (hB : Region.lexB .any (L.take n ++ [{ o with op := .move (.const undef) }]).toArray = true) (hf : fwdB L.toArray = true) (hl : lastB L.toArray n = true) (hn : (L.take n).length = n)
    (h : wpQuiet P (L.take n ++ [{ o with op := .move (.const undef) }]).toArray (fun w' => ∃ n, w' = w.drewN n) (fun a' => ∀ w', (∃ n, w' = w.drewN n) → o.wp P a' w' (fun a2 w2 => Q .normal a2 w2) Q) (L.take n ++ [{ o with op := .move (.const undef) }]) a) :
    (Code.region id L.toArray true).wp P Q a w := by
  rw [hL]
  refine wp_region_last hm hd hg hB (by rw [← hL]; exact hf) (by rw [← hL, hn]; exact hl) h

end Go.Proofs.Ytdgnlpafmkhdjah

/-
  Order, the document's: the square of neighbours, the neighbours of a place, a place that is taken away. For maps of at most 24 places.
-/
set_option linter.unusedVariables false
set_option linter.unusedSimpArgs false
namespace Go.Proofs.Ytdgnlpafmkhdjah
open Go.RowKit
attribute [local go_sem ↓] Go.wp_at_zero Go.wp_at_succ

/-- The square as it lies: row by row. -/
def flat (p : Nat) (B : Nat → Nat → Bool) (j : Nat) : Bool := B (j / p) (j % p)
theorem flat_at {p x y : Nat} (B : Nat → Nat → Bool) (hy : y < p) : flat p B (x * p + y) = B x y := by
  unfold flat
  have h1 : (x * p + y) / p = x := by
    rw [Nat.mul_comm, Nat.mul_add_div (by omega), Nat.div_eq_of_lt hy]; rfl
  have h2 : (x * p + y) % p = y := by
    rw [Nat.mul_comm, Nat.mul_add_mod, Nat.mod_eq_of_lt hy]
  rw [h1, h2]
theorem flat_upd {p x y : Nat} (B : Nat → Nat → Bool) (hy : y < p) (v : Bool) (j : Nat) : (if j = x * p + y then v else flat p B j) = flat p (upd B x y v) j := by
  by_cases e : j = x * p + y
  · rw [if_pos e, e, flat_at _ hy]; simp [upd]
  · rw [if_neg e]
    unfold flat upd
    rw [if_neg (fun h => e ?_)]
    have := Nat.div_add_mod j p
    rw [h.1, h.2, Nat.mul_comm] at this
    omega
theorem row_lt {p x y : Nat} (hx : x < p) (hy : y < p) : x * p + y < p * p := by
  have h1 : x * p + y < (x + 1) * p := by rw [Nat.add_mul]; omega
  have h2 : (x + 1) * p ≤ p * p := Nat.mul_le_mul_right p (by omega)
  omega
/-- The square lies in block b. -/
abbrev Sq (w : World) (b p : Nat) (B : Nat → Nat → Bool) : Prop := BHas w b (p * p) (flat p B)
theorem Sq.at {w : World} {b p : Nat} {B : Nat → Nat → Bool} (h : Sq w b p B) {x y : Nat} (hx : x < p) (hy : y < p) : w.cell? ⟨b, x * p + y, none⟩ = some (.bool (B x y)) := by
  rw [VHas.cell h (row_lt hx hy), flat_at _ hy]
theorem Sq.put {w : World} {b p : Nat} {B : Nat → Nat → Bool} (h : Sq w b p B) {x y : Nat} (hy : y < p) (v : Bool) : Sq (w.setCell ⟨b, x * p + y, none⟩ (.bool v)) b p (upd B x y v) :=
  (BHas.put h (x * p + y) v).same (fun j _ => flat_upd B hy v j)

/-- What the arithmetic of an index gives. -/
theorem idx_nn (x y p : Nat) : ((x : Int) * (p : Int) + (y : Int)) = ((x * p + y : Nat) : Int) := by simp
theorem mul_lt24 {x p : Nat} (hx : x < p) (hp : p ≤ 24) : x * p ≤ 552 := Nat.le_trans (Nat.mul_le_mul (show x ≤ 23 by omega) hp) (by omega)

set_option maxHeartbeats 1000000 in
theorem l3Square_any (p : Nat) (ao : Option Addr) (n cap : Nat) (F T G : Nat → Int) (hp1 : 1 ≤ p) (hp : p ≤ 24) (hn : n ≤ 100) (hF : ∀ k, k < n → 0 ≤ F k ∧ F k < (p : Int)) (hT : ∀ k, k < n → 0 ≤ T k ∧ T k < (p : Int)) (hFT : ∀ k, k < n → F k ≠ T k) (w : World) (hr : Row w ao n F T G) :
    Calls Try.prog 118 #[.agg #[.int .i64 (p : Int), .slice ao n cap]] w fun e w' => e = .returned (.slice (some ⟨w.heap.size + 1, 0, none⟩) (p * p) (p * p)) ∧ Sq w' (w.heap.size + 1) p (nbA F T n) ∧ Below w.heap.size w w' := by
  have hpp : p * p ≤ 576 := Nat.mul_le_mul hp hp
  have hmk := make_bools (p * p) (by omega)
  simp only [Int.natCast_mul] at hmk
  have hpi : (p : Int) * (p : Int) ≤ 576 := by
    have : ((p * p : Nat) : Int) ≤ 576 := by omega
    simpa using this
  have hpi0 : 0 ≤ (p : Int) * (p : Int) := Int.mul_nonneg (by omega) (by omega)
  go_enter Try.func118, Try.ntmps118
  go_wp2
  clear hmk
  go_loopw [4] (fun i wr => ∃ k : Nat, k ≤ n ∧ i = .int .i64 k ∧ Sq wr (w.heap.size + 1) p (nbA F T k) ∧ Below (w.heap.size + 1) (w.alloc (.cells #[.int .i64 (p : Int), .slice ao n cap] 47)) wr) (fun i _ => n - (intOf i).toNat)
  case atStart => exact ⟨0, Nat.zero_le _, rfl, by have := made_bools (w.alloc (.cells #[.int .i64 (p : Int), .slice ao n cap] 47)) (p * p); simp only [World.size_alloc] at this; exact this.same (fun j _ => rfl), (Below.refl _ _).alloc (by simp) _⟩
  case round =>
    obtain ⟨k, hk, rfl, hsq, hbel⟩ := hrel
    obtain ⟨x0, x1, xs⟩ := box2 hbel
    by_cases hlt : k < n
    rotate_left
    · have hkn : k = n := by omega
      subst hkn
      go_wp2
      go_ret
      exact ⟨rfl, hsq, unbox hbel (by omega)⟩
    obtain ⟨b, o, hao, c0, c1, c2⟩ := ((hr.alloc _).below hbel (by simp)) k hlt
    subst hao
    have hf0 := hF k hlt
    have ht0 := hT k hlt
    obtain ⟨f, hf⟩ : ∃ f : Nat, F k = (f : Int) := ⟨(F k).toNat, by omega⟩
    obtain ⟨t, ht⟩ : ∃ t : Nat, T k = (t : Int) := ⟨(T k).toNat, by omega⟩
    have hFT' := hFT k hlt
    have hst : Hid (nbA F T (k + 1) = upd2 (nbA F T k) f t true) := by
      show upd2 (nbA F T k) (F k).toNat (T k).toNat true = _
      rw [hf, ht]; rfl
    rw [hf] at c0 hf0
    rw [ht] at c1 ht0
    have hfe := hf
    have hte := ht
    clear hf ht
    have hfp : f < p := by omega
    have htp : t < p := by omega
    have hbw : b < wr.heap.size := lt_of_cell c0
    have hsl := VHas.lt hsq
    have d0 := Sq.at hsq hfp htp
    have z0 := VHas.frozen hsq (f * p + t)
    have d1 := Sq.at hsq htp hfp
    have z1 := VHas.frozen hsq (t * p + f)
    have h3 := (Sq.put (Sq.put hsq (x := f) htp true) (x := t) hfp true).alloc (.cells #[.int .i64 (f : Int), .int .i64 (t : Int), .int .i64 (G k)] 89)
    have hne : f ≠ t := by
      rw [hfe, hte] at hFT'
      omega
    have n1 : ¬ f * p + t = t * p + f := fun e => by
      have e1 := flat_at (p := p) (x := f) (fun x y => x == t) htp
      rw [e, flat_at _ hfp] at e1
      simp at e1
      exact hne e1
    have n2 : ¬ t * p + f = f * p + t := fun e => n1 e.symm
    have i1 := mul_lt24 hfp hp
    have i2 := mul_lt24 htp hp
    have i3 := row_lt hfp htp
    have i4 := row_lt htp hfp
    have j1 : 0 ≤ (f : Int) * (p : Int) := Int.mul_nonneg (by omega) (by omega)
    have j2 : (f : Int) * (p : Int) ≤ 552 := by have : ((f * p : Nat) : Int) ≤ 552 := by omega
                                                simpa using this
    have j3 : 0 ≤ (t : Int) * (p : Int) := Int.mul_nonneg (by omega) (by omega)
    have j4 : (t : Int) * (p : Int) ≤ 552 := by have : ((t * p : Nat) : Int) ≤ 552 := by omega
                                                simpa using this
    have j5 : (f : Int) * (p : Int) + (t : Int) < (p : Int) * (p : Int) := by have : ((f * p + t : Nat) : Int) < ((p * p : Nat) : Int) := by omega
                                                                              simpa using this
    have j6 : (t : Int) * (p : Int) + (f : Int) < (p : Int) * (p : Int) := by have : ((t * p + f : Nat) : Int) < ((p * p : Nat) : Int) := by omega
                                                                              simpa using this
    have j7 : ((f : Int) * (p : Int) + (t : Int)).toNat = f * p + t := by rw [idx_nn]; omega
    have j8 : ((t : Int) * (p : Int) + (f : Int)).toNat = t * p + f := by rw [idx_nn]; omega
    have S := ((hbel.setCell (p := ⟨w.heap.size + 1, f * p + t, none⟩) (by simp) (.bool true)).setCell (p := ⟨w.heap.size + 1, t * p + f, none⟩) (by simp) (.bool true)).alloc (o := .cells #[.int .i64 (f : Int), .int .i64 (t : Int), .int .i64 (G k)] 89) (by simp; omega)
    clear hsq i1 i2 i3 i4 hfe hte hFT'
    go_wp2
    go_roundw
    case rel => exact ⟨k + 1, by omega, by go_num, by rw [hst.out]; exact h3, S⟩
    case measure => simp [intOf]; omega

end Go.Proofs.Ytdgnlpafmkhdjah

/-
  Order, the document's: the list of a place's neighbours, and the square when a place has been taken away.
-/
set_option linter.unusedVariables false
set_option linter.unusedSimpArgs false
namespace Go.Proofs.Ytdgnlpafmkhdjah
open Go.RowKit
attribute [local go_sem ↓] Go.wp_at_zero Go.wp_at_succ

/-- The numbers of an index in the square, for the walk. -/
theorem idx_facts {x y p : Nat} (hx : x < p) (hy : y < p) (hp : p ≤ 24) : 0 ≤ (x : Int) * (p : Int) ∧ (x : Int) * (p : Int) ≤ 552 ∧ (x : Int) * (p : Int) + (y : Int) < (p : Int) * (p : Int) ∧ ((x : Int) * (p : Int) + (y : Int)).toNat = x * p + y := by
  have i1 := mul_lt24 hx hp
  have i3 := row_lt hx hy
  refine ⟨Int.mul_nonneg (by omega) (by omega), ?_, ?_, by rw [idx_nn]; omega⟩
  · have : ((x * p : Nat) : Int) ≤ 552 := by omega
    simpa using this
  · have : ((x * p + y : Nat) : Int) < ((p * p : Nat) : Int) := by omega
    simpa using this

set_option maxHeartbeats 1000000 in
theorem l3Neighbours_any (bs p a : Nat) (B : Nat → Nat → Bool) (hp : p ≤ 24) (ha : a < p) (w : World) (hsq : Sq w bs p B) :
    Calls Try.prog 119 #[.slice (some ⟨bs, 0, none⟩) (p * p) (p * p), .int .i64 (p : Int), .int .i64 (a : Int)] w fun e w' => ∃ g c, e = .returned (.slice (some ⟨g, 0, none⟩) (cntB (B a) p) c) ∧ w.heap.size ≤ g ∧ IHas w' g (cntB (B a) p) (nf (B a) p) ∧ Below w.heap.size w w' := by
  have hO0 : IOwn (w.alloc (.cells #[] 2)) w.heap.size w.heap.size 0 0 (nf (B a) 0) := IOwn.empty w (Nat.le_refl _) _
  go_enter Try.func119, Try.ntmps119
  go_wp2
  go_loopw [7, 8] (fun d i wr => ∃ k g c : Nat, k ≤ p ∧ i = .int .i64 k ∧ d = .slice (some ⟨g, 0, none⟩) (cntB (B a) k) c ∧ IOwn wr w.heap.size g c (cntB (B a) k) (nf (B a) k) ∧ Below w.heap.size w wr) (fun _ i _ => p - (intOf i).toNat)
  case atStart => exact ⟨0, w.heap.size, 0, Nat.zero_le _, rfl, rfl, hO0, (Below.refl _ _).alloc (Nat.le_refl _) _⟩
  case round =>
    clear hO0
    obtain ⟨k, g, c, hk, rfl, rfl, hown, hbel⟩ := hrel
    have hgl := hown.lt
    have hgb := hown.base
    have hck := cntB_le (B a) k
    by_cases hlt : k < p
    rotate_left
    · have hkn : k = p := by omega
      subst hkn
      go_wp2
      go_ret
      exact ⟨g, c, rfl, hgb, hown.has, hbel⟩
    have hlt' : (k : Int) < (p : Int) := by omega
    obtain ⟨j1, j2, j3, j4⟩ := idx_facts ha hlt hp
    have d0 := Sq.at (VHas.below hsq hbel (VHas.lt hsq)) ha hlt
    cases hb : B a k
    · have e1 : cntB (B a) (k + 1) = cntB (B a) k := cntB_same hb
      have e2 : nf (B a) (k + 1) = nf (B a) k := by simp [nf, hb]
      rw [hb] at d0
      go_wp2
      go_roundw
      case rel => exact ⟨k + 1, g, c, by omega, by go_num, by rw [e1], by rw [e1, e2]; exact hown, hbel⟩
      case measure => simp [intOf]; omega
    · have e1 : cntB (B a) (k + 1) = cntB (B a) k + 1 := cntB_succ hb
      have e2 : nf (B a) (k + 1) = fun j => if j = cntB (B a) k then (k : Int) else nf (B a) k j := by simp [nf, hb]
      rw [hb] at d0
      go_wp2_with (at_builtin; refine wpList_append_int rfl _ _ rfl w.heap.size g c (cntB (B a) k) (nf (B a) k) rfl (by exact hown.below ((Below.refl _ _).alloc (Nat.le_refl _) _) (by omega)) ⟨wr.heap.size, 0, none⟩ 1 (k : Int) rfl (by simp [go_sem]) (by omega) (by simp; omega) ?_; intro g' c' w3 hown3 hgrow3 hat3)
      have hown4 : IOwn w3 w.heap.size g' c' (cntB (B a) (k + 1)) (nf (B a) (k + 1)) := by
        rw [e1]
        exact hown3 _ (fun j hj => by rw [e2]; simp only []; rw [if_neg (by omega)]) (by rw [e2]; simp)
      have hB3 := (hbel.alloc (o := .cells #[.int .i64 (k : Int)] 2) hbel.size).grown hgrow3 (by have := hbel.size; simp; omega) (fun j hj => by cases hj; omega)
      go_wp2
      go_roundw
      case rel => exact ⟨k + 1, g', c', by omega, by go_num, by rw [e1], hown4, hB3⟩
      case measure => simp [intOf]; omega

set_option maxHeartbeats 2000000 in
theorem l3Take_any (bs p a : Nat) (B : Nat → Nat → Bool) (hp : p ≤ 24) (ha : a < p) (hB : Fair B) (w : World) (hsq : Sq w bs p B) :
    Calls Try.prog 120 #[.slice (some ⟨bs, 0, none⟩) (p * p) (p * p), .int .i64 (p : Int), .int .i64 (a : Int)] w fun e w' => e = .returned (.tuple #[]) ∧ Sq w' bs p (tk B a) ∧ w.grownBy w' (some bs) := by
  have hbl := VHas.lt hsq
  obtain ⟨n, hn⟩ : ∃ n, cntB (B a) p = n := ⟨_, rfl⟩
  obtain ⟨L, hL⟩ : ∃ L, nf (B a) p = L := ⟨_, rfl⟩
  have hat : ∀ i, i < n → ∃ q : Nat, q < p ∧ L i = (q : Int) ∧ B a q = true ∧ cntB (B a) q = i := by
    rw [← hn, ← hL]; exact nf_at p
  have hn24 : n ≤ 24 := by rw [← hn]; exact Nat.le_trans (cntB_le _ _) hp
  have HAT : Hid (∀ i, i < n → ∃ q : Nat, q < p ∧ L i = (q : Int) ∧ B a q = true ∧ cntB (B a) q = i) := hat
  have HN : Hid (cntB (B a) p = n) := hn
  have HB : Hid (Fair B) := hB
  have hnb := l3Neighbours_any bs p a B hp ha w hsq
  rw [hn, hL] at hnb
  have HNB : Hid (Calls Try.prog 119 #[.slice (some ⟨bs, 0, none⟩) (p * p) (p * p), .int .i64 (p : Int), .int .i64 (a : Int)] w fun e w' => ∃ g c, e = .returned (.slice (some ⟨g, 0, none⟩) n c) ∧ w.heap.size ≤ g ∧ IHas w' g n L ∧ Below w.heap.size w w') := hnb
  clear hat hn hL hB hnb
  go_enter Try.func120, Try.ntmps120
  go_wp2_with fail
  refine HNB.out.mono ?_
  rintro e w1 ⟨g, c, rfl, hg, hI1, hb1⟩
  have hsq1 := (VHas.next hsq hb1)
  have hgr1 : w.grownBy w1 (some bs) := ⟨hb1.os, hb1.tape, hb1.output, hb1.size, fun k hk _ => hb1.block k hk⟩
  clear hb1 HNB hsq
  have hne1 : bs ≠ g := by omega
  have hne2 : g ≠ bs := by omega
  go_wp2_with fail
  go_loopw [7] (fun x wr => ∃ i : Nat, i ≤ n ∧ x = .int .i64 i ∧ Sq wr bs p (mid B a i 0 0) ∧ IHas wr g n L ∧ w.grownBy wr (some bs)) (fun x _ => n - (intOf x).toNat)
  case atStart => exact ⟨0, Nat.zero_le _, rfl, BHas.same hsq1 (fun j _ => by unfold flat; rw [mid_start HB.out]), hI1, hgr1⟩
  case round =>
    clear hsq1 hI1 hgr1
    obtain ⟨i, hi, rfl, hs, hI, hgr⟩ := hrel
    by_cases hlt : i < n
    rotate_left
    · have hin : i = n := by omega
      subst hin
      have R : Sq wr bs p (tk B a) := BHas.same hs (fun j hj => by
        unfold flat
        have h1 : j / p < p := Nat.div_lt_of_lt_mul hj
        have h2 : j % p < p := Nat.mod_lt _ (by omega)
        have := mid_end HB.out (a := a) (p := p) (q := 0) h1 h2
        rw [HN.out] at this
        exact this)
      go_wp2
      simp [bodyPost, results, Try.results120, go_sem]
      exact ⟨R, hgr⟩
    obtain ⟨q, hqp, hLq, hBq, hcq⟩ := HAT.out i hlt
    have hlt' : (i : Int) < (n : Int) := by omega
    have HQ : Hid (B a q = true ∧ cntB (B a) q = i) := ⟨hBq, hcq⟩
    clear hBq hcq
    go_wp2
    go_loopw [8] (fun x wr2 => ∃ k : Nat, k ≤ n ∧ x = .int .i64 k ∧ Sq wr2 bs p (mid B a i q k) ∧ IHas wr2 g n L ∧ w.grownBy wr2 (some bs)) (fun x _ => n - (intOf x).toNat)
    case atStart => exact ⟨0, Nat.zero_le _, rfl, BHas.same hs (fun j _ => by unfold flat; exact mid_skip), hI, hgr⟩
    case round =>
      clear hs hI hgr
      obtain ⟨k, hk, rfl, hs, hI, hgr⟩ := hrel
      have e0 := hI.cell hlt
      rw [hLq] at e0
      by_cases hltk : k < n
      rotate_left
      · have hkn : k = n := by omega
        subst hkn
        obtain ⟨j1, j2, j3, j4⟩ := idx_facts ha hqp hp
        obtain ⟨i1, i2, i3, i4⟩ := idx_facts hqp ha hp
        have d0 := Sq.at hs ha hqp
        have z0 := VHas.frozen hs (a * p + q)
        have d1 := Sq.at hs hqp ha
        have z1 := VHas.frozen hs (q * p + a)
        have hqa : q ≠ a := fun e => by
          have := HQ.out.1
          rw [e, HB.out.2] at this; cases this
        have n1 : ¬ a * p + q = q * p + a := fun e => by
          have e1 := flat_at (p := p) (x := a) (fun x y => x == q) hqp
          rw [e, flat_at _ ha] at e1
          simp at e1
          exact hqa e1.symm
        have n2 : ¬ q * p + a = a * p + q := fun e => n1 e.symm
        have R : Sq ((wr.setCell ⟨bs, a * p + q, none⟩ (.bool false)).setCell ⟨bs, q * p + a, none⟩ (.bool false)) bs p (mid B a (i + 1) 0 0) := BHas.same (Sq.put (Sq.put hs (x := a) hqp false) (x := q) ha false) (fun j hj => by
          unfold flat
          have h1 : j / p < p := Nat.div_lt_of_lt_mul hj
          have h2 : j % p < p := Nat.mod_lt _ (by omega)
          have := mid_done HB.out (a := a) (p := p) HQ.out.1 HQ.out.2 h1 h2
          rw [HN.out] at this
          exact this)
        have S := (hI.grown (gr_setCell wr bs (a * p + q) (.bool false)) (by simp; exact hne2)).grown (gr_setCell _ bs (q * p + a) (.bool false)) (by simp; exact hne2)
        have T := (hgr.trans (gr_setCell wr bs (a * p + q) (.bool false))).trans (gr_setCell _ bs (q * p + a) (.bool false))
        clear hs hI hgr
        go_wp2
        go_roundw
        case rel => exact ⟨i + 1, by omega, by go_num, R, S, T⟩
        case measure => simp [intOf]; omega
      obtain ⟨q2, hqp2, hLq2, hBq2, hcq2⟩ := HAT.out k hltk
      have hltk' : (k : Int) < (n : Int) := by omega
      have e1 := hI.cell hltk
      rw [hLq2] at e1
      by_cases hik : i = k
      · subst hik
        have hqq : q = q2 := cntB_inj HQ.out.1 hBq2 (by rw [HQ.out.2, hcq2])
        have R : Sq wr bs p (mid B a i q (i + 1)) := BHas.same hs (fun j hj => by unfold flat; exact mid_pass HQ.out.1 HQ.out.2 _ _)
        clear hs
        go_wp2
        go_roundw
        case rel => exact ⟨i + 1, by omega, by go_num, R, hI, hgr⟩
        case measure => simp [intOf]; omega
      have hik' : ¬ (i : Int) = (k : Int) := by omega
      have hqq : q ≠ q2 := fun e => hik (by rw [← HQ.out.2, ← hcq2, e])
      obtain ⟨j1, j2, j3, j4⟩ := idx_facts hqp hqp2 hp
      have d0 := Sq.at hs hqp hqp2
      have z0 := VHas.frozen hs (q * p + q2)
      have HR : Hid (Sq (wr.setCell ⟨bs, q * p + q2, none⟩ (.bool true)) bs p (mid B a i q (k + 1))) := BHas.same (Sq.put hs (x := q) hqp2 true) (fun j hj => by unfold flat; exact mid_join HB.out HQ.out.1 hBq2 hcq2 hqq _ _)
      have HS : Hid (IHas (wr.setCell ⟨bs, q * p + q2, none⟩ (.bool true)) g n L) := hI.grown (gr_setCell wr bs (q * p + q2) (.bool true)) (by simp; exact hne2)
      have HT : Hid (w.grownBy (wr.setCell ⟨bs, q * p + q2, none⟩ (.bool true)) (some bs)) := hgr.trans (gr_setCell wr bs (q * p + q2) (.bool true))
      clear hs hI hgr hBq2 hcq2 hqq hLq hLq2
      go_wp2
      go_big_region
      go_wp2
      go_roundw
      case rel => exact ⟨k + 1, by omega, by go_num, VHas.of_block HR.out rfl, IHas.of_block HS.out rfl, HT.out.trans ⟨rfl, rfl, rfl, Nat.le_refl _, fun _ _ _ => rfl⟩⟩
      case measure => simp [intOf]; omega

end Go.Proofs.Ytdgnlpafmkhdjah

/-
  The fill, the document's: the edges in their order. For maps of at most 24 places and orders that have each place once.
-/
set_option linter.unusedVariables false
set_option linter.unusedSimpArgs false
namespace Go.Proofs.Ytdgnlpafmkhdjah
open Go.RowKit
attribute [local go_sem ↓] Go.wp_at_zero Go.wp_at_succ

/-- Is one among the first k of rank h? -/
def dnB (R L : Nat → Int) (h : Int) : Nat → Bool
  | 0 => false
  | i + 1 => dnB R L h i || R (L i).toNat == h
theorem dn_mem {R L : Nat → Int} {h : Int} : ∀ k, dnB R L h k = true ↔ ∃ i, i < k ∧ R (L i).toNat = h
  | 0 => by simp [dnB]
  | k + 1 => by
    show (dnB R L h k || R (L k).toNat == h) = true ↔ _
    rw [Bool.or_eq_true, dn_mem k, beq_iff_eq]
    constructor
    · rintro (⟨i, h1, h2⟩ | h1)
      · exact ⟨i, by omega, h2⟩
      · exact ⟨k, by omega, h1⟩
    · rintro ⟨i, h1, h2⟩
      by_cases e : i = k
      · subst e; exact Or.inr h2
      · exact Or.inl ⟨i, by omega, h2⟩
theorem dn_once {p : Nat} {P : Nat → Int} {f : Nat → Bool} (he : eachB p P p = true) {i : Nat} (hi : i < cntB f p) {h : Int} (hr : rk P 0 p (nf f p i).toNat = h) : dnB (rk P 0 p) (nf f p) h i = false := by
  cases hd : dnB (rk P 0 p) (nf f p) h i
  · rfl
  obtain ⟨j, hj, e⟩ := (dn_mem i).1 hd
  obtain ⟨q, q1, q2, q3, q4⟩ := nf_at p i hi
  obtain ⟨q', r1, r2, r3, r4⟩ := nf_at (f := f) p j (by omega)
  rw [q2] at hr
  rw [r2] at e
  simp at hr e
  obtain ⟨k, _, h1, h2⟩ := rk_of he 0 q1
  obtain ⟨k', _, h3, h4⟩ := rk_of he 0 r1
  have : k = k' := by omega
  subst this
  have : q = q' := by omega
  subst this
  omega
theorem dn_end {p : Nat} {P : Nat → Int} {f : Nat → Bool} (he : eachB p P p = true) {h : Nat} (hh : h < p) : dnB (rk P 0 p) (nf f p) (h : Int) (cntB f p) = f (P h).toNat := by
  rw [Bool.eq_iff_iff, dn_mem]
  have hP := (each_in p he h hh).1
  constructor
  · rintro ⟨i, hi, e⟩
    obtain ⟨q, q1, q2, q3, q4⟩ := nf_at p i hi
    rw [q2] at e
    simp at e
    obtain ⟨k, _, h1, h2⟩ := rk_of he 0 q1
    have : k = h := by omega
    subst this
    have : (P k).toNat = q := by omega
    rw [this]; exact q3
  · intro hf
    have hlt : cntB f (P h).toNat < cntB f p := by
      have := cntB_mono f (show (P h).toNat + 1 ≤ p by omega)
      rw [cntB_succ hf] at this
      omega
    refine ⟨_, hlt, ?_⟩
    obtain ⟨q, q1, q2, q3, q4⟩ := nf_at p _ hlt
    have := cntB_inj q3 hf q4
    rw [q2, this, Int.toNat_natCast]
    exact rk_is 0 p he h hh
theorem rowS_nil {B : Nat → Nat → Bool} {P : Nat → Int} (r : Nat) : ∀ k, k ≤ r + 1 → rowS B P r k = []
  | 0, _ => rfl
  | k + 1, h => by
    show rowS B P r k ++ _ = []
    rw [rowS_nil r k (by omega), if_neg (by omega)]; rfl
/-- The list while the neighbours of one rank are gone through for one h. -/
def midS (B : Nat → Nat → Bool) (P : Nat → Int) (p r h i : Nat) : List Pr := allS B P p r ++ rowS B P r h ++ (if dnB (rk P 0 p) (nf (sqO B P r (P r).toNat) p) (h : Int) i = true then [((r : Int), (h : Int))] else [])
theorem midS_zero (B : Nat → Nat → Bool) (P : Nat → Int) (p r h : Nat) : midS B P p r h 0 = allS B P p r ++ rowS B P r h := by simp [midS, dnB]
theorem midS_end {B : Nat → Nat → Bool} {P : Nat → Int} {p : Nat} (he : eachB p P p = true) {r h : Nat} (hr : r < h) (hh : h < p) : midS B P p r h (cntB (sqO B P r (P r).toNat) p) = allS B P p r ++ rowS B P r (h + 1) := by
  unfold midS
  rw [dn_end he hh, List.append_assoc]
  congr 1
  show _ = rowS B P r h ++ (if r < h ∧ sqO B P r (P r).toNat (P h).toNat = true then [((r : Int), (h : Int))] else [])
  congr 1
  by_cases x : sqO B P r (P r).toNat (P h).toNat = true
  · rw [if_pos x, if_pos ⟨hr, x⟩]
  · rw [if_neg x, if_neg (fun c => x c.2)]
theorem midS_hit {B : Nat → Nat → Bool} {P : Nat → Int} {p r h i : Nat} (he : eachB p P p = true) (hi : i < cntB (sqO B P r (P r).toNat) p) (hr : rk P 0 p (nf (sqO B P r (P r).toNat) p i).toNat = (h : Int)) : midS B P p r h (i + 1) = midS B P p r h i ++ [((r : Int), (h : Int))] := by
  have h0 := dn_once he hi hr
  have h1 : dnB (rk P 0 p) (nf (sqO B P r (P r).toNat) p) (h : Int) (i + 1) = true := by
    show (dnB _ _ _ i || _) = true
    rw [hr]; simp
  unfold midS
  rw [h0, h1]; simp
theorem midS_miss {B : Nat → Nat → Bool} {P : Nat → Int} {p r h i : Nat} (hr : ¬ rk P 0 p (nf (sqO B P r (P r).toNat) p i).toNat = (h : Int)) : midS B P p r h (i + 1) = midS B P p r h i := by
  have h1 : dnB (rk P 0 p) (nf (sqO B P r (P r).toNat) p) (h : Int) (i + 1) = dnB (rk P 0 p) (nf (sqO B P r (P r).toNat) p) (h : Int) i := by
    show (dnB _ _ _ i || _) = _
    have : (rk P 0 p (nf (sqO B P r (P r).toNat) p i).toNat == (h : Int)) = false := by simpa using hr
    rw [this]; simp
  unfold midS
  rw [h1]
theorem rowS_len {B : Nat → Nat → Bool} {P : Nat → Int} (r : Nat) : ∀ k, (rowS B P r k).length ≤ k
  | 0 => Nat.le_refl _
  | k + 1 => by
    show (rowS B P r k ++ _).length ≤ k + 1
    have := rowS_len (B := B) (P := P) r k
    rw [List.length_append]
    split <;> simp <;> omega
theorem allS_len {B : Nat → Nat → Bool} {P : Nat → Int} {p : Nat} (hp : p ≤ 24) : ∀ R, (allS B P p R).length ≤ 24 * R
  | 0 => Nat.le_refl _
  | R + 1 => by
    show (allS B P p R ++ rowS B P R p).length ≤ _
    have := allS_len (B := B) (P := P) hp R
    have := rowS_len (B := B) (P := P) R p
    rw [List.length_append]; omega
theorem midS_len {B : Nat → Nat → Bool} {P : Nat → Int} {p r h i : Nat} (hp : p ≤ 24) (hr : r ≤ 24) (hh : h ≤ 24) : (midS B P p r h i).length ≤ 1000 := by
  unfold midS
  have := allS_len (B := B) (P := P) hp r
  have := rowS_len (B := B) (P := P) r h
  rw [List.length_append, List.length_append]
  split <;> simp <;> omega

/-- What stands while the fill is made. -/
structure FS (w : World) (gv : Value) (p bs rb : Nat) (B : Nat → Nat → Bool) (R : Nat → Int) (g c : Nat) (l : List Pr) (W : World) : Prop where
  bel : Below (w.heap.size + 1) (w.alloc (.cells #[.int .i64 (p : Int), gv] 47)) W
  sq : Sq W bs p B
  rks : IHas W rb p R
  own : EOwn W (w.heap.size + 1) g c l
  ne : (g ≠ bs ∧ g ≠ rb ∧ bs ≠ rb) ∧ w.heap.size + 1 ≤ bs ∧ w.heap.size + 1 ≤ rb
theorem FS.next {w : World} {gv : Value} {p bs rb : Nat} {B : Nat → Nat → Bool} {R : Nat → Int} {g c : Nat} {l : List Pr} {W W' : World} (h : FS w gv p bs rb B R g c l W) (hb : Below W.heap.size W W') : FS w gv p bs rb B R g c l W' :=
  ⟨below_next h.bel (by simp) hb, VHas.next h.sq hb, h.rks.below hb h.rks.lt, h.own.next hb, h.ne⟩
theorem FS.taken {w : World} {gv : Value} {p bs rb : Nat} {B B' : Nat → Nat → Bool} {R : Nat → Int} {g c : Nat} {l : List Pr} {W W' : World} (h : FS w gv p bs rb B R g c l W) (hg : W.grownBy W' (some bs)) (hs : Sq W' bs p B') : FS w gv p bs rb B' R g c l W' := by
  have hn := h.ne
  have hz := h.bel.size
  simp at hz
  exact ⟨h.bel.trans (gr_below hg (by omega) (by omega)), hs, h.rks.grown hg (by simp; omega), h.own.grown hg (by simp; omega), h.ne⟩
theorem FS.longer {w : World} {gv : Value} {p bs rb : Nat} {B : Nat → Nat → Bool} {R : Nat → Int} {g c : Nat} {l : List Pr} {W W' : World} (h : FS w gv p bs rb B R g c l W) (hg : W.grownBy W' (some g)) {g' c' : Nat} {l' : List Pr} (ho : EOwn W' (w.heap.size + 1) g' c' l') (hat : g' = g ∨ g' = W.heap.size) : FS w gv p bs rb B R g' c' l' W' := by
  have hn := h.ne
  have hz := h.bel.size
  have h1 := h.rks.lt
  have h2 := VHas.lt h.sq
  have h3 := h.own.base
  simp at hz
  exact ⟨h.bel.trans (gr_below hg (by omega) (by omega)), VHas.grown h.sq hg (by simp; omega), h.rks.grown hg (by simp; omega), ho, by omega⟩

set_option maxRecDepth 100000 in
set_option maxHeartbeats 4000000 in
theorem l4Fill_any (p : Nat) (ao : Option Addr) (n cap : Nat) (F T G : Nat → Int) (po : Option Addr) (pcap : Nat) (P : Nat → Int) (hp1 : 1 ≤ p) (hp : p ≤ 24) (hn : n ≤ 100) (hF : ∀ k, k < n → 0 ≤ F k ∧ F k < (p : Int)) (hT : ∀ k, k < n → 0 ≤ T k ∧ T k < (p : Int)) (hFT : ∀ k, k < n → F k ≠ T k) (he : eachB p P p = true) (w : World) (hr : Row w ao n F T G) (hq : IRow w po p P) :
    Calls Try.prog 108 #[.agg #[.int .i64 (p : Int), .slice ao n cap], .slice po p pcap] w fun e w' => ∃ g c, e = .returned (.slice (some ⟨g, 0, none⟩) (allS (nbA F T n) P p p).length c) ∧ w.heap.size ≤ g ∧ EOwn w' w.heap.size g c (allS (nbA F T n) P p p) ∧ Below w.heap.size w w' := by
  have hfair : Fair (nbA F T n) := fair_nbA n (fun k hk => by have := hF k hk; have := hT k hk; have := hFT k hk; omega)
  have hsq := fun W hr' => l3Square_any p ao n cap F T G hp1 hp hn hF hT hFT W hr'
  generalize nbA F T n = B at hfair hsq ⊢
  have HSQ : Hid (∀ W, Row W ao n F T G → Calls Try.prog 118 #[.agg #[.int .i64 (p : Int), .slice ao n cap]] W fun e w' => e = .returned (.slice (some ⟨W.heap.size + 1, 0, none⟩) (p * p) (p * p)) ∧ Sq w' (W.heap.size + 1) p B ∧ Below W.heap.size W w') := hsq
  have HF : Hid (Fair B) := hfair
  have HE : Hid (eachB p P p = true) := he
  clear hfair hsq hF hT hFT he
  go_enter Try.func108, Try.ntmps108
  go_wp2_with fail
  refine (HSQ.out _ (hr.alloc _)).mono ?_
  rintro e w1 ⟨rfl, hS1, hb1⟩
  have hA1 := boxed hb1
  clear hb1
  go_wp2_with fail
  refine (l3Ranks_any po p pcap P hp HE.out _ ((hq.alloc _).below hA1 (by simp))).mono ?_
  rintro e w2 ⟨rfl, hR2, hb2⟩
  have hS2 := VHas.next hS1 hb2
  have hA2 := below_next hA1 (by simp) hb2
  have hl1 := VHas.lt hS1
  have hl2 := hR2.lt
  simp only [World.size_alloc] at hl1 hS2
  clear hS1 hA1 hb2
  have hFS : FS w (.slice ao n cap) p (w.heap.size + 1 + 1) w1.heap.size B (rk P 0 p) w2.heap.size 0 [] (w2.alloc (.cells #[] 71)) :=
    ⟨hA2.alloc (by have := hA2.size; simp at this; omega) _, VHas.alloc hS2 _, hR2.below ((Below.refl _ _).alloc (Nat.le_refl _) _) hR2.lt, EOwn.empty w2 (by omega), by omega⟩
  clear hA2 hS2 hR2
  generalize w1.heap.size = rb at hFS hl1 hl2
  go_wp2_with fail
  go_loopw [7, 8] (fun d x wr => ∃ r g c : Nat, r ≤ p ∧ x = .int .i64 r ∧ d = .slice (some ⟨g, 0, none⟩) (allS B P p r).length c ∧ FS w (.slice ao n cap) p (w.heap.size + 1 + 1) rb (sqO B P r) (rk P 0 p) g c (allS B P p r) wr) (fun _ x _ => p - (intOf x).toNat)
  case atStart => exact ⟨0, w2.heap.size, 0, Nat.zero_le _, rfl, rfl, hFS⟩
  case round =>
    clear hFS
    obtain ⟨r, g, c, hrp, rfl, rfl, hS⟩ := hrel
    by_cases hlt : r < p
    rotate_left
    · have e : r = p := by omega
      subst e
      have hb := hS.own.base
      go_wp2
      go_ret
      exact ⟨g, c, rfl, by omega, hS.own.from (Nat.le_succ _), unbox hS.bel (by omega)⟩
    have hlt' : (r : Int) < (p : Int) := by omega
    have hr0 : (0 : Int) ≤ (r : Int) := by omega
    obtain ⟨ha0, ha1⟩ := (each_in p HE.out r hlt).1
    obtain ⟨a, ha⟩ : ∃ a : Nat, P r = (a : Int) := ⟨(P r).toNat, by omega⟩
    have hap : a < p := by omega
    obtain ⟨b, o, hpo, c0⟩ := ((hq.alloc _).below hS.bel (by simp)) r hlt
    have hbl : b < w.heap.size := by
      obtain ⟨b', o', e', k0⟩ := hq r hlt
      rw [hpo] at e'
      simp at e'
      have := lt_of_cell k0
      omega
    subst hpo
    rw [ha] at c0
    have HPa : Hid (P r = (a : Int)) := ha
    obtain ⟨x0, x1, xs⟩ := box2 hS.bel
    have hnb := fun W hs => l3Neighbours_any (w.heap.size + 1 + 1) p a (sqO B P r) hp hap W hs
    have htk := fun W hs => l3Take_any (w.heap.size + 1 + 1) p a (sqO B P r) hp hap (sqO_fair HF.out P r) W hs
    have htk2 : Hid (∀ W, Sq W (w.heap.size + 1 + 1) p (sqO B P r) → Calls Try.prog 120 #[.slice (some ⟨w.heap.size + 1 + 1, 0, none⟩) (p * p) (p * p), .int .i64 (p : Int), .int .i64 (a : Int)] W fun e w' => e = .returned (.tuple #[]) ∧ Sq w' (w.heap.size + 1 + 1) p (sqO B P (r + 1)) ∧ W.grownBy w' (some (w.heap.size + 1 + 1))) := by
      intro W hs
      have e : sqO B P (r + 1) = tk (sqO B P r) a := by show tk (sqO B P r) (P r).toNat = _; rw [ha]; rfl
      rw [e]
      exact htk W hs
    have hrow : sqO B P r (P r).toNat = sqO B P r a := by rw [ha]; rfl
    obtain ⟨m, hm⟩ : ∃ m, cntB (sqO B P r a) p = m := ⟨_, rfl⟩
    obtain ⟨K, hK⟩ : ∃ K, nf (sqO B P r a) p = K := ⟨_, rfl⟩
    have HK : Hid (cntB (sqO B P r (P r).toNat) p = m ∧ nf (sqO B P r (P r).toNat) p = K) := by rw [hrow]; exact ⟨hm, hK⟩
    have hm24 : m ≤ 24 := by rw [← hm]; exact Nat.le_trans (cntB_le _ _) hp
    have HKI : Hid (∀ i, i < m → ∃ q : Nat, q < p ∧ K i = (q : Int)) := fun i hi => by
      rw [← hm] at hi
      obtain ⟨q, q1, q2, _⟩ := nf_at p i hi
      exact ⟨q, q1, by rw [← hK]; exact q2⟩
    rw [hm, hK] at hnb
    have HNB : Hid (∀ W, Sq W (w.heap.size + 1 + 1) p (sqO B P r) → Calls Try.prog 119 #[.slice (some ⟨w.heap.size + 1 + 1, 0, none⟩) (p * p) (p * p), .int .i64 (p : Int), .int .i64 (a : Int)] W fun e w' => ∃ g c, e = .returned (.slice (some ⟨g, 0, none⟩) m c) ∧ W.heap.size ≤ g ∧ IHas w' g m K ∧ Below W.heap.size W w') := hnb
    clear hnb htk hrow hm hK ha ha0 ha1
    have hsd : Sq wr.drew (w.heap.size + 1 + 1) p (sqO B P r) := VHas.of_block hS.sq rfl
    go_wp2
    go_region_held3 (fun w' => w'.cell? ⟨w.heap.size, 0, none⟩ = some (.int .i64 (p : Int)) ∧ w'.cell? ⟨b, o + r, none⟩ = some (.int .i64 (a : Int)))
      (first | (go_split_ands; refine ⟨?_, ?_⟩ <;> exact keep_cell hb3 (Nat.le_refl _) (by assumption)) | go_keep)
      (first | (go_at_call 119; refine (HNB.out _ hsd).mono ?_; rintro e w3 ⟨gl, cl, rfl, hgl, hI3, hb3⟩))
    have hS3 : FS w (.slice ao n cap) p (w.heap.size + 1 + 1) rb (sqO B P r) (rk P 0 p) g c (allS B P p r) w3 := FS.next (W := wr.drew) ⟨hS.bel.drew, hsd, hS.rks.of_block rfl, hS.own.of_block rfl, hS.ne⟩ hb3
    have hgg : g < w3.heap.size := hS3.own.lt
    have hne3 : g ≠ gl ∧ w.heap.size + 1 + 1 ≠ gl := by
      have h1 := hS.own.lt
      have h2 := VHas.lt hS.sq
      have h3 : wr.heap.size ≤ gl := hgl
      omega
    have hy0 := keep_cell hb3 (Nat.le_refl _) (show wr.drew.cell? ⟨w.heap.size, 0, none⟩ = some (.int .i64 (p : Int)) from x0)
    have hy1 := keep_cell hb3 (Nat.le_refl _) (show wr.drew.cell? ⟨b, o + r, none⟩ = some (.int .i64 (a : Int)) from c0)
    have hsd3 : Sq w3.drew (w.heap.size + 1 + 1) p (sqO B P r) := VHas.of_block hS3.sq rfl
    clear hS hsd hb3 hgl x0 x1 c0 hgg
    go_wp2
    go_region_held3 (fun w' => w'.cell? ⟨w.heap.size, 0, none⟩ = some (.int .i64 (p : Int)) ∧ w'.cell? ⟨b, o + r, none⟩ = some (.int .i64 (a : Int)))
      (first | (go_split_ands; refine ⟨hg4.cell (by assumption) (by simp; omega), hg4.cell (by assumption) (by simp; omega)⟩) | go_keep)
      (first | (go_at_call 120; refine (htk2.out _ hsd3).mono ?_; rintro e w4 ⟨rfl, hs4, hg4⟩))
    have hS4 : FS w (.slice ao n cap) p (w.heap.size + 1 + 1) rb (sqO B P (r + 1)) (rk P 0 p) g c (allS B P p r) w4 := FS.taken (W := w3.drew) ⟨hS3.bel.drew, hsd3, hS3.rks.of_block rfl, hS3.own.of_block rfl, hS3.ne⟩ hg4 hs4
    have hI4 : IHas w4 gl m K := (IHas.of_block (w' := w3.drew) hI3 rfl).grown hg4 (by simp; omega)
    clear hS3 hI3 hsd3 hs4 hg4 hy0 hy1 htk2 HNB
    go_wp2
    go_loopw [7, 10] (fun d x wq => ∃ h g c : Nat, r < h ∧ h ≤ p ∧ x = .int .i64 h ∧ d = .slice (some ⟨g, 0, none⟩) (allS B P p r ++ rowS B P r h).length c ∧ FS w (.slice ao n cap) p (w.heap.size + 1 + 1) rb (sqO B P (r + 1)) (rk P 0 p) g c (allS B P p r ++ rowS B P r h) wq ∧ IHas wq gl m K ∧ g ≠ gl) (fun _ x _ => p - (intOf x).toNat)
    case atStart => exact ⟨r + 1, g, c, by omega, by omega, by go_num, by rw [rowS_nil r (r + 1) (Nat.le_refl _), List.append_nil], by rw [rowS_nil r (r + 1) (Nat.le_refl _), List.append_nil]; exact hS4, hI4, hne3.1⟩
    case round =>
      clear hS4 hI4 hne3
      obtain ⟨h, g, c, hrh, hhp, rfl, rfl, hS, hI, hne⟩ := hrel
      by_cases hlh : h < p
      rotate_left
      · have e : h = p := by omega
        subst e
        go_wp2
        go_roundw
        case rel => exact ⟨r + 1, g, c, by omega, by go_num, rfl, hS⟩
        case measure => simp [intOf]; omega
      have hlh' : (h : Int) < (p : Int) := by omega
      go_wp2
      go_loopw [7, 11] (fun d x wz => ∃ i g c : Nat, i ≤ m ∧ x = .int .i64 i ∧ d = .slice (some ⟨g, 0, none⟩) (midS B P p r h i).length c ∧ FS w (.slice ao n cap) p (w.heap.size + 1 + 1) rb (sqO B P (r + 1)) (rk P 0 p) g c (midS B P p r h i) wz ∧ IHas wz gl m K ∧ g ≠ gl) (fun _ x _ => m - (intOf x).toNat)
      case atStart => exact ⟨0, g, c, Nat.zero_le _, rfl, by rw [midS_zero], by rw [midS_zero]; exact hS, hI, hne⟩
      case round =>
        clear hS hI hne
        obtain ⟨i, g, c, him, rfl, rfl, hS, hI, hne⟩ := hrel
        by_cases hli : i < m
        rotate_left
        · have e : i = m := by omega
          subst e
          have hend : Hid (midS B P p r h i = allS B P p r ++ rowS B P r (h + 1)) := by
            have := midS_end (B := B) HE.out hrh hlh
            rw [HK.out.1] at this
            exact this
          go_wp2
          go_roundw
          case rel => exact ⟨h + 1, g, c, by omega, by omega, by go_num, by rw [hend.out], by rw [← hend.out]; exact hS, hI, hne⟩
          case measure => simp [intOf]; omega
        have hli' : (i : Int) < (m : Int) := by omega
        have hi0 : (0 : Int) ≤ (i : Int) := by omega
        obtain ⟨q, hqp, hKq⟩ := HKI.out i hli
        have d0 := hI.cell hli
        rw [hKq] at d0
        have d1 := hS.rks.cell hqp
        have hqp' : (q : Int) < (p : Int) := by omega
        have hq0 : (0 : Int) ≤ (q : Int) := by omega
        have hlen := midS_len (B := B) (P := P) (r := r) (h := h) (i := i) hp (by omega) (by omega)
        have hIl := hI.lt
        have hRl := hS.rks.lt
        by_cases hit : rk P 0 p q = (h : Int)
        · have HM : Hid (midS B P p r h (i + 1) = midS B P p r h i ++ [((r : Int), (h : Int))]) := by
            refine midS_hit HE.out (by rw [HK.out.1]; exact hli) ?_
            rw [HK.out.2, hKq]
            simpa using hit
          have hlen1 : Hid ((midS B P p r h (i + 1)).length = (midS B P p r h i).length + 1) := by
            show (midS B P p r h (i + 1)).length = _
            rw [HM.out]; simp
          rw [hit] at d1
          have hal := (Below.refl wr.heap.size wr).alloc (Nat.le_refl _) (.cells #[.int .i64 (r : Int), .int .i64 (h : Int)] 71)
          have hS5 := hS.next hal
          have hI5 := hI.below hal hIl
          have hbs := hS.bel.size
          simp only [World.size_alloc] at hbs
          go_wp2_with (at_builtin; refine wpList_append_edge rfl _ _ rfl (w.heap.size + 1) g c (midS B P p r h i) rfl hS5.own wr.heap.size 1 (r : Int) (h : Int) rfl (by simp [go_sem]) (by simp [go_sem]) (by omega) (by simp; omega) ?_; intro g' c' w6 hown6 hgrow6 hat6)
          have hS6 := hS5.longer hgrow6 hown6 hat6
          have hI6 := hI5.grown hgrow6 (by simp; omega)
          have hne6 : g' ≠ gl := by simp at hat6; omega
          clear hS hI hS5 hI5 hown6 hgrow6 hat6 hal d0 d1
          rw [← HM.out] at hS6
          go_wp2
          go_roundw
          case rel => exact ⟨i + 1, g', c', by omega, by go_num, by rw [hlen1.out], hS6, hI6, hne6⟩
          case measure => simp [intOf]; omega
        · have HM : Hid (midS B P p r h (i + 1) = midS B P p r h i) := by
            refine midS_miss ?_
            rw [HK.out.2, hKq]
            simpa using hit
          have hitb : (rk P 0 p q == (h : Int)) = false := by simpa using hit
          go_wp2
          go_roundw
          case rel => exact ⟨i + 1, g, c, by omega, by go_num, by rw [HM.out], by rw [HM.out]; exact hS, hI, hne⟩
          case measure => simp [intOf]; omega

end Go.Proofs.Ytdgnlpafmkhdjah

/-
  The program's generic sort, with the edges' comparison: the same edges, in their order. For lists of at most a million edges.
-/
set_option linter.unusedVariables false
set_option linter.unusedSimpArgs false
namespace Go.Proofs.Ytdgnlpafmkhdjah
open Go.RowKit
attribute [local go_sem ↓] Go.wp_at_zero Go.wp_at_succ

/-- The front part is in its order, x has been put into it behind a. -/
theorem srt_put {a d : List Pr} {x : Pr} (h : Srt (a ++ d)) (hd : ∀ e ∈ d, lt2 x e) (ha : a = [] ∨ ∃ a' y, a = a' ++ [y] ∧ ¬ lt2 x y) : Srt (a ++ x :: d) := by
  unfold Srt at h ⊢
  rw [List.pairwise_append] at h ⊢
  refine ⟨h.1, ?_, fun e he f hf => ?_⟩
  · rw [List.pairwise_cons]
    refine ⟨fun e he hlt => ?_, h.2.1⟩
    exact lt2_irr x (lt2_trans (hd e he) hlt)
  · simp at hf
    rcases hf with rfl | hf
    · rcases ha with rfl | ⟨a', y, rfl, hy⟩
      · simp at he
      · rw [List.mem_append] at he
        rcases he with he | he
        · have := h.1
          rw [List.pairwise_append] at this
          exact le2_trans (this.2.2 e he y (by simp)) hy
        · simp at he
          subst he; exact hy
    · exact h.2.2 e he f hf

theorem put_perm {a d pre suf l : List Pr} {x : Pr} {k : Nat} (had : a ++ d = pre) (hk : pre.length = k) (h : (pre ++ x :: suf).Perm l) : (a ++ x :: d).length = k + 1 ∧ (a ++ x :: d ++ suf).Perm l := by
  subst had
  refine ⟨by simp at hk ⊢; omega, List.Perm.trans ?_ h⟩
  have e1 : a ++ x :: d ++ suf = a ++ x :: (d ++ suf) := by simp
  have e2 : a ++ d ++ x :: suf = (a ++ d) ++ x :: suf := rfl
  rw [e1]
  refine List.perm_middle.trans (List.Perm.trans ?_ List.perm_middle.symm)
  rw [List.append_assoc]
theorem gr_drewN' (w : World) (n : Nat) (row : Option Nat) : w.grownBy (w.drewN n) row := ⟨rfl, rfl, rfl, Nat.le_refl _, fun _ _ _ => rfl⟩

set_option maxRecDepth 100000 in
set_option maxHeartbeats 4000000 in
theorem sortBy_any (g cap : Nat) (l : List Pr) (hn : l.length ≤ 1000000) (w : World) (hl : ELies w g l) :
    Calls Try.prog 114 #[.slice (some ⟨g, 0, none⟩) l.length cap, .func (.func 105) #[] #[]] w fun e w' => e = .returned (.tuple #[]) ∧ (∃ l' : List Pr, l'.length = l.length ∧ l'.Perm l ∧ Srt l' ∧ ELies w' g l') ∧ w.grownBy w' (some g) := by
  go_enter Try.func114, Try.ntmps114
  go_wp2
  go_loopw [4] (fun x wr => ∃ (k : Nat) (pre suf : List Pr), x = .int .i64 k ∧ 1 ≤ k ∧ pre.length = min k l.length ∧ pre.length + suf.length = l.length ∧ (pre ++ suf).Perm l ∧ Srt pre ∧ ELies wr g (pre ++ suf) ∧ w.grownBy wr (some g)) (fun x _ => l.length - (intOf x).toNat)
  case atStart =>
    match l, hl with
    | [], hl => exact ⟨1, [], [], rfl, Nat.le_refl _, by simp, rfl, List.Perm.refl _, List.Pairwise.nil, hl, World.grownBy.refl _ _⟩
    | x :: t, hl => exact ⟨1, [x], t, rfl, Nat.le_refl _, by simp, by simp; omega, List.Perm.refl _, by simp [Srt], hl, World.grownBy.refl _ _⟩
  case round =>
    obtain ⟨k, pre, suf, rfl, hk1, hpk, hps, hperm, hsrt, hE, hg⟩ := hrel
    by_cases hlt : k < l.length
    rotate_left
    · have hsuf : suf = [] := List.eq_nil_of_length_eq_zero (by omega)
      subst hsuf
      rw [List.append_nil] at hE hperm
      have hlen : pre.length = l.length := by simpa using hps
      go_wp2
      simp [bodyPost, results, Try.results114, go_sem]
      exact ⟨⟨pre, hlen, hperm, hsrt, hE⟩, hg⟩
    have hpk' : pre.length = k := by omega
    match suf, hps with
    | [], hps => simp at hps; omega
    | x :: suf', hps =>
    have HP : Hid ((pre ++ x :: suf').Perm l) := hperm
    clear hperm hpk
    go_wp2
    go_loopw [5] (fun y wq => ∃ (i : Nat) (a d : List Pr), y = .int .i64 i ∧ a.length = i ∧ a ++ d = pre ∧ (∀ e ∈ d, lt2 x e) ∧ ELies wq g (a ++ x :: (d ++ suf')) ∧ w.grownBy wq (some g)) (fun y _ => (intOf y).toNat)
    case atStart => exact ⟨k, pre, [], rfl, hpk', List.append_nil _, fun e he => by simp at he, by simpa using hE, hg⟩
    case round =>
      clear hE hg
      obtain ⟨i, a, d, rfl, hai, had, hdx, hE, hg⟩ := hrel
      by_cases hi : 0 < i
      rotate_left
      · have hd : decide ((0 : Int) < (i : Int)) = false := by simp; omega
        have ha0 : a = [] := List.eq_nil_of_length_eq_zero (by omega)
        have HN : Hid (Srt (a ++ x :: d)) := srt_put (by rw [had]; exact hsrt) hdx (Or.inl ha0)
        have hpl : Hid ((a ++ x :: d).length = k + 1 ∧ (a ++ x :: d ++ suf').Perm l) := put_perm had hpk' HP.out
        have hE' : ELies wr g (a ++ x :: d ++ suf') := by simpa using hE
        go_wp2
        go_quiet (fail)
        go_wp2
        go_roundw
        case rel =>
          have := hpl.out
          exact ⟨k + 1, a ++ x :: d, suf', by go_num, by omega, by omega, by simp at hps; omega, this.2, HN.out, EHas.of_block hE' rfl, hg.trans (gr_drewN' _ _ _)⟩
        case measure => simp [intOf]; omega
      have hane : a ≠ [] := fun e => by subst e; simp at hai; omega
      obtain ⟨a', y, haa⟩ : ∃ a' y, a = a' ++ [y] := ⟨a.dropLast, a.getLast hane, (List.dropLast_concat_getLast hane).symm⟩
      have ha1 : a'.length = i - 1 := by rw [haa] at hai; simp at hai; omega
      have hx := hE.at
      rw [hai] at hx
      obtain ⟨c0, c1⟩ := hx
      have hE2 : ELies wr g (a' ++ y :: x :: (d ++ suf')) := by rw [haa] at hE; simpa using hE
      have hy := hE2.at
      rw [ha1] at hy
      obtain ⟨d0, d1⟩ := hy
      have hin : i < l.length := by
        have := congrArg List.length had
        simp at this
        omega
      have hkd : decide ((0 : Int) < (i : Int)) = true := by simp; omega
      have hi0 : (0 : Int) ≤ (i : Int) := by omega
      have hi2 : (i : Int) < (l.length : Int) := by omega
      have hk1' : (0 : Int) ≤ (i : Int) - 1 := by omega
      have hk2 : (i : Int) - 1 < (l.length : Int) := by omega
      have hk3 : IntKind.i64.wrap ((i : Int) - 1) = (i : Int) - 1 := by rw [IntKind.wrap_i64]; omega
      have hk4 : ((i : Int) - 1).toNat = i - 1 := by omega
      have hk5 : (1 : Int) ≤ (i : Int) := by omega
      have hk6 : (i : Int) ≤ (l.length : Int) := by omega
      have hk7 : 1 ≤ i := by omega
      have hcu := cmpE_up x.1 x.2 y.1 y.2
      have hg1 : w.grownBy wr.drew (some g) := hg.trans ⟨rfl, rfl, rfl, Nat.le_refl _, fun _ _ _ => rfl⟩
      by_cases hlt2 : lt2 x y
      · have hge : cmpE x.1 x.2 y.1 y.2 < 0 := hcu.2 hlt2
        clear hcu
        go_wp2
        go_region_held3 (fun w' => w'.cell? ⟨g, i * 2, none⟩ = some (.int .i64 x.1) ∧ w'.cell? ⟨g, i * 2 + 1, none⟩ = some (.int .i64 x.2) ∧ w'.cell? ⟨g, (i - 1) * 2, none⟩ = some (.int .i64 y.1) ∧ w'.cell? ⟨g, (i - 1) * 2 + 1, none⟩ = some (.int .i64 y.2))
          (first | (go_split_ands; refine ⟨?_, ?_, ?_, ?_⟩ <;> exact keep_cell hb2 (Nat.le_refl _) (by assumption)) | go_keep)
          (first | (go_at_call 105; refine (compareEdges_any _ _ _ _ _).mono ?_; rintro e w2 ⟨rfl, hb2⟩))
        have hg2 : w.grownBy w2 (some g) := hg1.trans ⟨hb2.os, hb2.tape, hb2.output, hb2.size, fun k hk _ => hb2.block k hk⟩
        have hE3 : ELies w2 g (a' ++ y :: x :: (d ++ suf')) := EHas.next (w := wr.drew) (EHas.of_block hE2 rfl) hb2
        have k0 : w2.cell? ⟨g, i * 2, none⟩ = some (.int .i64 x.1) := keep_cell hb2 (Nat.le_refl _) (by exact c0)
        have k1 : w2.cell? ⟨g, i * 2 + 1, none⟩ = some (.int .i64 x.2) := keep_cell hb2 (Nat.le_refl _) (by exact c1)
        have k2 : w2.cell? ⟨g, (i - 1) * 2, none⟩ = some (.int .i64 y.1) := keep_cell hb2 (Nat.le_refl _) (by exact d0)
        have k3 : w2.cell? ⟨g, (i - 1) * 2 + 1, none⟩ = some (.int .i64 y.2) := keep_cell hb2 (Nat.le_refl _) (by exact d1)
        have z0 := EHas.frozen hE3 (i * 2)
        have z1 := EHas.frozen hE3 (i * 2 + 1)
        have z2 := EHas.frozen hE3 ((i - 1) * 2)
        have z3 := EHas.frozen hE3 ((i - 1) * 2 + 1)
        have hii : a'.length + 1 = i := by omega
        have HR : Hid (ELies ((((w2.setCell ⟨g, i * 2, none⟩ (.int .i64 y.1)).setCell ⟨g, i * 2 + 1, none⟩ (.int .i64 y.2)).setCell ⟨g, (i - 1) * 2, none⟩ (.int .i64 x.1)).setCell ⟨g, (i - 1) * 2 + 1, none⟩ (.int .i64 x.2)) g (a' ++ x :: y :: (d ++ suf'))) := by
          have h4 := (((EHas.set hE3 (i * 2) y.1).set (i * 2 + 1) y.2).set ((i - 1) * 2) x.1).set ((i - 1) * 2 + 1) x.2
          have hlen : (a' ++ y :: x :: (d ++ suf')).length = (a' ++ x :: y :: (d ++ suf')).length := by simp
          rw [hlen] at h4
          refine EHas.congr h4 (fun j _ => ?_)
          have := er_swap a' (d ++ suf') x y j
          rw [hii, ha1] at this
          exact this
        have HG : Hid (w.grownBy ((((w2.setCell ⟨g, i * 2, none⟩ (.int .i64 y.1)).setCell ⟨g, i * 2 + 1, none⟩ (.int .i64 y.2)).setCell ⟨g, (i - 1) * 2, none⟩ (.int .i64 x.1)).setCell ⟨g, (i - 1) * 2 + 1, none⟩ (.int .i64 x.2)) (some g)) := (((hg2.trans (gr_setCell _ g _ _)).trans (gr_setCell _ g _ _)).trans (gr_setCell _ g _ _)).trans (gr_setCell _ g _ _)
        have HX : Hid ((∀ e ∈ y :: d, lt2 x e) ∧ a' ++ (y :: d) = pre) := ⟨fun e he => by
          simp at he
          rcases he with rfl | he
          · exact hlt2
          · exact hdx e he, by rw [← had, haa]; simp⟩
        have n1 : ¬ ((i - 1) * 2 = i * 2) := by omega
        have n2 : ¬ ((i - 1) * 2 = i * 2 + 1) := by omega
        have n3 : ¬ ((i - 1) * 2 + 1 = i * 2) := by omega
        have n4 : ¬ ((i - 1) * 2 + 1 = i * 2 + 1) := by omega
        clear hE hE2 hE3 hg hg1 hg2 hb2 c0 c1 d0 d1 hdx had haa hane hlt2 hge
        go_wp2
        go_big_region
        go_wp2
        go_roundw
        case rel => exact ⟨i - 1, a', y :: d, by rw [show ((i - 1 : Nat) : Int) = (i : Int) - 1 by omega], ha1, HX.out.2, HX.out.1, EHas.of_block HR.out rfl, HG.out.trans ⟨rfl, rfl, rfl, Nat.le_refl _, fun _ _ _ => rfl⟩⟩
        case measure => simp [intOf]; omega
      · have hge : ¬ cmpE x.1 x.2 y.1 y.2 < 0 := fun h => hlt2 (hcu.1 h)
        have hged : decide (cmpE x.1 x.2 y.1 y.2 < 0) = false := by simpa using hge
        clear hcu
        have HN : Hid (Srt (a ++ x :: d)) := srt_put (by rw [had]; exact hsrt) hdx (Or.inr ⟨a', y, haa, hlt2⟩)
        have hpl : Hid ((a ++ x :: d).length = k + 1 ∧ (a ++ x :: d ++ suf').Perm l) := put_perm had hpk' HP.out
        have hE' : ELies wr g (a ++ x :: d ++ suf') := by simpa using hE
        go_wp2
        go_region_held3 (fun w' => w'.cell? ⟨g, i * 2, none⟩ = some (.int .i64 x.1) ∧ w'.cell? ⟨g, i * 2 + 1, none⟩ = some (.int .i64 x.2) ∧ w'.cell? ⟨g, (i - 1) * 2, none⟩ = some (.int .i64 y.1) ∧ w'.cell? ⟨g, (i - 1) * 2 + 1, none⟩ = some (.int .i64 y.2))
          (first | (go_split_ands; refine ⟨?_, ?_, ?_, ?_⟩ <;> exact keep_cell hb2 (Nat.le_refl _) (by assumption)) | go_keep)
          (first | (go_at_call 105; refine (compareEdges_any _ _ _ _ _).mono ?_; rintro e w2 ⟨rfl, hb2⟩))
        have hg2 : w.grownBy w2 (some g) := hg1.trans ⟨hb2.os, hb2.tape, hb2.output, hb2.size, fun k hk _ => hb2.block k hk⟩
        have hE3 : ELies w2 g (a ++ x :: d ++ suf') := EHas.next (w := wr.drew) (EHas.of_block hE' rfl) hb2
        clear hE hE2 hE' hg hg1 hb2 c0 c1 d0 d1
        go_wp2
        go_roundw
        case rel =>
          have := hpl.out
          exact ⟨k + 1, a ++ x :: d, suf', by go_num, by omega, by omega, by simp at hps; omega, this.2, HN.out, hE3, hg2⟩
        case measure => simp [intOf]; omega

end Go.Proofs.Ytdgnlpafmkhdjah

/-
  The program's takeAway: the mesh behind it is the one that the document asks for.
-/
set_option linter.unusedVariables false
set_option linter.unusedSimpArgs false
namespace Go.Proofs.Ytdgnlpafmkhdjah
open Go.RowKit Go.Shelf
attribute [local go_sem] Oper.semAt_some

/-- The iterator for a caller whose own invariant tells the row. -/
theorem iter_seq (n : Nat) (hn : 1 ≤ n) (bM bP bm p place : Nat) (hp : p ≤ 24) (hpl : place < 24) (I : List Nat → World → Prop) (bits : List Nat → Nat → Bool) (hI : ∀ pre W, I pre W → Reads bM bP bm p place W (bits pre)) (G : List Nat → Nat → Prop) (hG : ∀ k, k < p → bits (vis bits k) k = true → G (vis bits k) k) (w : World) :
    SeqAt Fence.wide n Try.prog 122 #[.pointer (some ⟨bM, 0, none⟩), .pointer (some ⟨bP, 0, none⟩)] (fun x : Nat => #[Value.int .i64 (x : Int)]) I G (fun xs => xs = vis bits p) w := fun l J W hW hJ hJI hY h0 => by
  refine (iter_core n hn l bM bP bm p place hp hpl J (fun _ _ => False) bits W hJ (fun pre W1 h => hI _ _ (hJI _ _ h)) ?_ h0).mono ?_
  · intro k W1 hk hb hj
    exact (hY _ _ _ hj (hG k hk hb)).mono (fun e W' h => .inl h)
  · rintro e W' ⟨hv, (h1 | ⟨k, _, _, h1⟩)⟩
    · exact ⟨hv, _, rfl, h1⟩
    · exact h1.elim

theorem SeqAt.inRound {α : Type} {F : Fence} {n : Nat} {P : Program} {gf : Nat} {lb : Array Value} {encs : α → Array Value} {I : List α → World → Prop} {G : List α → α → Prop} {S : List α → Prop} {w : World} (l : Nat) (h : SeqAt F n P gf lb encs I G S w) : SeqAt (F.inRound l) n P gf lb encs I G S w := h

/-- What stands while a place is taken away: four boxes, the mesh; nothing else that lay has turned. -/
structure TW (w : World) (bm : Nat) (p : Int) (a : Nat) (gone : Nat → Bool) (B : Nat → Nat → Bool) (W : World) : Prop where
  b0 : Boxed W w.heap.size 132 (.pointer (some ⟨bm, 0, none⟩))
  b1 : Boxed W (w.heap.size + 1) 2 (.int .i64 (a : Int))
  b2 : Boxed W (w.heap.size + 1 + 1) 132 (.pointer (some ⟨bm, 0, none⟩))
  b3 : Boxed W (w.heap.size + 1 + 1 + 1) 2 (.int .i64 (a : Int))
  mesh : MeshAt W bm p B gone
  gr : w.grownBy W (some bm)
theorem TW.grown {w W W' : World} {bm : Nat} {p : Int} {a : Nat} {gone : Nat → Bool} {B : Nat → Nat → Bool} {row : Option Nat} (h : TW w bm p a gone B W) (hb : bm < w.heap.size) (hg : W.grownBy W' row) (hr : ∀ r, row = some r → w.heap.size + 1 + 1 + 1 < r) : TW w bm p a gone B W' := by
  have hne : ∀ k, k ≤ w.heap.size + 1 + 1 + 1 → some k ≠ row := fun k hk e => by have := hr k e.symm; omega
  refine ⟨h.b0.kept hg (hne _ (by omega)), h.b1.kept hg (hne _ (by omega)), h.b2.kept hg (hne _ (by omega)), h.b3.kept hg (hne _ (by omega)), VHas.grown h.mesh hg (hne _ (by omega)), ?_⟩
  refine ⟨hg.os.trans h.gr.os, hg.tape.trans h.gr.tape, hg.output.trans h.gr.output, Nat.le_trans h.gr.size hg.size, fun k hk hnk => ?_⟩
  exact (hg.block k (Nat.lt_of_lt_of_le hk h.gr.size) (hne k (by omega))).trans (h.gr.block k hk hnk)
theorem TW.alloc {w W : World} {bm : Nat} {p : Int} {a : Nat} {gone : Nat → Bool} {B : Nat → Nat → Bool} (h : TW w bm p a gone B W) (hb : bm < w.heap.size) (o : Obj) : TW w bm p a gone B (W.alloc o) := h.grown hb (World.grownBy_alloc W o none) (fun r e => by cases e)
theorem TW.turn {w W W' : World} {bm : Nat} {p : Int} {a : Nat} {gone : Nat → Bool} {B B' : Nat → Nat → Bool} (h : TW w bm p a gone B W) (hb : bm < w.heap.size) (hm : MeshAt W' bm p B' gone) (hg : W.grownBy W' (some bm)) : TW w bm p a gone B' W' :=
  ⟨h.b0.kept hg (by simp; omega), h.b1.kept hg (by simp; omega), h.b2.kept hg (by simp; omega), h.b3.kept hg (by simp; omega), hm, h.gr.trans hg⟩
theorem TW.same {w W : World} {bm : Nat} {p : Int} {a : Nat} {gone : Nat → Bool} {B B' : Nat → Nat → Bool} (h : TW w bm p a gone B W) (e : ∀ x y, B x y = B' x y) : TW w bm p a gone B' W :=
  ⟨h.b0, h.b1, h.b2, h.b3, h.mesh.same (fun x y _ _ => e x y), h.gr⟩
theorem TW.own {β : Type} {w : World} {bm : Nat} {p : Int} {a : Nat} {gone : Nat → Bool} {B0 : Nat} (hb : bm < w.heap.size) (hB : w.heap.size + 1 + 1 + 1 < B0) (f : β → Nat → Nat → Bool) : OwnFrom B0 (fun s W => TW w bm p a gone (f s) W) :=
  fun s X Y row hs hg hr => hs.grown hb hg (fun r e => by have := (hr r e).1; omega)
theorem keeps_grown {B0 bm : Nat} {W W' : World} (hb : bm < B0) (hg : W.grownBy W' (some bm)) : KeepsFrom B0 W W' := KeepsFrom.of_grownBy hg (fun j e => by cases e; exact hb)

set_option maxRecDepth 100000 in
set_option maxHeartbeats 8000000 in
theorem takeAway_any (bm p a : Nat) (B : Nat → Nat → Bool) (gone : Nat → Bool) (hp : p ≤ 24) (ha : a < p) (hB : Fair B) (hW : Within p B) (w : World) (hM : MeshAt w bm (p : Int) B gone) :
    Calls Try.prog 113 #[.pointer (some ⟨bm, 0, none⟩), .int .i64 (a : Int)] w fun e w' => e = .returned (.tuple #[]) ∧ MeshAt w' bm (p : Int) (tk B a) (goneU gone a) ∧ w.grownBy w' (some bm) := by
  have hml := VHas.lt hM
  refine (callsIn_wide (n := 8)).1 ?_
  refine callsIn_of_wp_marks Try.func113 rfl trivial ?_ rfl
  simp only [Try.ntmps113, List.size_toArray, List.length_cons, List.length_nil, Nat.reduceAdd, Nat.reduceSub, Array.replicate_succ, Array.replicate_zero, List.push_toArray, List.append_toArray, List.nil_append, List.cons_append]
  gi_wp2_with (refine ⟨trivial, ?_⟩; gi_at_call 112; refine (callsIn_wide.2 (neighbours_any bm (a : Int) _)).mono ?_; rintro e w' ⟨rfl, rfl⟩)
  have h0 := (((Boxed.new w 132 (.pointer (some ⟨bm, 0, none⟩))).alloc (.cells #[.int .i64 (a : Int)] 2)).alloc (.cells #[.pointer (some ⟨bm, 0, none⟩)] 132)).alloc (.cells #[.int .i64 (a : Int)] 2)
  have h1 := ((Boxed.new (w.alloc (.cells #[.pointer (some ⟨bm, 0, none⟩)] 132)) 2 (.int .i64 (a : Int))).alloc (.cells #[.pointer (some ⟨bm, 0, none⟩)] 132)).alloc (.cells #[.int .i64 (a : Int)] 2)
  have h2 := (Boxed.new ((w.alloc (.cells #[.pointer (some ⟨bm, 0, none⟩)] 132)).alloc (.cells #[.int .i64 (a : Int)] 2)) 132 (.pointer (some ⟨bm, 0, none⟩))).alloc (.cells #[.int .i64 (a : Int)] 2)
  have h3 := Boxed.new (((w.alloc (.cells #[.pointer (some ⟨bm, 0, none⟩)] 132)).alloc (.cells #[.int .i64 (a : Int)] 2)).alloc (.cells #[.pointer (some ⟨bm, 0, none⟩)] 132)) 2 (.int .i64 (a : Int))
  simp only [World.size_alloc] at h1 h2 h3
  have hB0 : Below w.heap.size w ((((w.alloc (.cells #[.pointer (some ⟨bm, 0, none⟩)] 132)).alloc (.cells #[.int .i64 (a : Int)] 2)).alloc (.cells #[.pointer (some ⟨bm, 0, none⟩)] 132)).alloc (.cells #[.int .i64 (a : Int)] 2)) := ((((Below.refl _ w).alloc (Nat.le_refl _) _).alloc (by simp) _).alloc (by simp; omega) _).alloc (by simp; omega) _
  have hM0 := VHas.below hM hB0 hml
  have hsz : ((((w.alloc (.cells #[.pointer (some ⟨bm, 0, none⟩)] 132)).alloc (.cells #[.int .i64 (a : Int)] 2)).alloc (.cells #[.pointer (some ⟨bm, 0, none⟩)] 132)).alloc (.cells #[.int .i64 (a : Int)] 2)).heap.size = w.heap.size + 4 := by simp
  generalize ((((w.alloc (.cells #[.pointer (some ⟨bm, 0, none⟩)] 132)).alloc (.cells #[.int .i64 (a : Int)] 2)).alloc (.cells #[.pointer (some ⟨bm, 0, none⟩)] 132)).alloc (.cells #[.int .i64 (a : Int)] 2)) = W0 at h0 h1 h2 h3 hB0 hM0 hsz ⊢
  have hT0 : TW w bm (p : Int) a gone (stI B a []) W0 := (TW.same ⟨h0, h1, h2, h3, hM0, ⟨hB0.os, hB0.tape, hB0.output, hB0.size, fun k hk _ => hB0.block k hk⟩⟩ (fun x y => (stI_start hB a x y).symm))
  clear h0 h1 h2 h3 hM0 hB0
  gi_wp2
  have hrow : ∀ (pre : List Nat) (W : World), TW w bm (p : Int) a gone (stI B a pre) W → Reads (w.heap.size + 1 + 1) (w.heap.size + 1 + 1 + 1) bm p a W ((fun (pre : List Nat) j => B a j && !pre.contains j) pre) := fun pre W h => by
    have := Reads.of_mesh (by omega) h.b2.cell h.b3.cell h.mesh
    rw [stI_row] at this
    exact this
  have hgood : ∀ k, k < p → (fun (pre : List Nat) j => B a j && !pre.contains j) (vis (fun (pre : List Nat) j => B a j && !pre.contains j) k) k = true → (fun (pre : List Nat) (x : Nat) => x < p ∧ B a x = true ∧ x ≠ a) (vis (fun (pre : List Nat) j => B a j && !pre.contains j) k) k := fun k hk hb => by
    simp only [Bool.and_eq_true] at hb
    exact ⟨hk, hb.1, fun e => by rw [e, hB.2] at hb; cases hb.1⟩
  refine range_alone rfl (by omega) (gf := 122) (lb := #[.pointer (some ⟨w.heap.size + 1 + 1, 0, none⟩), .pointer (some ⟨w.heap.size + 1 + 1 + 1, 0, none⟩)]) rfl trivial (enters_of Try.func122 (by kernel_rfl) rfl)
    (encs := fun x : Nat => #[Value.int .i64 (x : Int)]) (fun _ => rfl) (fun pre W => TW w bm (p : Int) a gone (stI B a pre) W) (TW.own hml (by omega) _) hT0
    (iter_seq 7 (by omega) (w.heap.size + 1 + 1) (w.heap.size + 1 + 1 + 1) bm p a hp (by omega) _ (fun pre j => B a j && !pre.contains j) hrow (fun pre x => x < p ∧ B a x = true ∧ x ≠ a) hgood W0)
    (fun x a' W => ∃ Bx, W0.heap.size ≤ Bx ∧ Boxed W Bx 2 (.int .i64 (x : Int)) ∧ a' = { tmps := #[.pointer (some ⟨bm, 0, none⟩), .int .i64 (a : Int), .pointer (some ⟨w.heap.size, 0, none⟩), .pointer (some ⟨w.heap.size + 1, 0, none⟩), .pointer (some ⟨Bx, 0, none⟩), undef, .pointer (some ⟨bm, 0, none⟩), .int .i64 (a : Int), .func (.func 122) #[] #[.pointer (some ⟨w.heap.size + 1 + 1, 0, none⟩), .pointer (some ⟨w.heap.size + 1 + 1 + 1, 0, none⟩)], .int .i64 (x : Int), undef, undef, undef, undef, undef, undef, undef, undef, undef, undef, undef, undef, undef, undef, undef, undef, undef], defers := [] })
    (fun x a' _ X Y row hs hg hr => by obtain ⟨Bx, h1, h2, h3⟩ := hs; exact ⟨Bx, h1, boxed_own Bx 2 (fun (_ : Unit) => Value.int .i64 (x : Int)) () X Y row h2 hg (fun r e => (hr r e).2), h3⟩)
    ?assign ?body ?done
  case assign =>
    rintro l pre x W K hi _ hK
    have hsW := hi.b3.lt
    gi_wp2
    exact hK _ _ ((KeepsOthers.alloc _ _).from _) (hi.alloc hml _) ⟨W.heap.size, by omega, Boxed.new W 2 _, rfl⟩
  case body =>
    rintro l pre x a' W hl ⟨r, hr⟩ hi ⟨hxp, hbx, hxa⟩ ⟨Bx, hBx, bX, rfl⟩
    have c0 := hi.b0.cell
    have c1 := hi.b1.cell
    have cX := bX.cell
    have hax : a ≠ x := fun e => hxa e.symm
    have hlt := (Array.getElem?_eq_some_iff.1 hr).1
    gi_wp2_with fail
    refine ⟨trivial, ?_⟩
    refine (CallsIn.inRound l (callsIn_wide.2 (part_any bm a x (p : Int) _ gone (by omega) (by omega) hax _ hi.mesh))).mono ?_
    rintro e w2 ⟨rfl, hM2, hg2⟩
    have hT2 := (hi.turn hml hM2 hg2).same (stI_part B pre hxa)
    have bX2 := bX.kept hg2 (by simp; omega)
    have hk2 : KeepsFrom W0.heap.size W w2 := keeps_grown (by omega) hg2
    have hr2 := hk2.same l _ hl hr rfl
    have d0 := hT2.b0.cell
    have d1 := hT2.b1.cell
    have hs2 := hT2.b3.lt
    clear hM2 hg2 c0 c1 cX hi bX
    gi_wp2_with fail
    refine ⟨trivial, ?_⟩
    refine (CallsIn.inRound l (callsIn_wide.2 (neighbours_any bm (a : Int) _))).mono ?_
    rintro e w' ⟨rfl, rfl⟩
    have e2 := (Boxed.new w2 132 (.pointer (some ⟨bm, 0, none⟩))).alloc (.cells #[.int .i64 (a : Int)] 2)
    have e3 := Boxed.new (w2.alloc (.cells #[.pointer (some ⟨bm, 0, none⟩)] 132)) 2 (.int .i64 (a : Int))
    simp only [World.size_alloc] at e3
    have hT3 := (hT2.alloc hml (.cells #[.pointer (some ⟨bm, 0, none⟩)] 132)).alloc hml (.cells #[.int .i64 (a : Int)] 2)
    have bX3 := (bX2.alloc (.cells #[.pointer (some ⟨bm, 0, none⟩)] 132)).alloc (.cells #[.int .i64 (a : Int)] 2)
    have hk3 := hk2.trans ((((KeepsOthers.alloc w2 (.cells #[.pointer (some ⟨bm, 0, none⟩)] 132)).trans (KeepsOthers.alloc _ (.cells #[.int .i64 (a : Int)] 2))).from W0.heap.size))
    have hr3 := hk3.same l _ hl hr rfl
    have hs3 : ((w2.alloc (.cells #[.pointer (some ⟨bm, 0, none⟩)] 132)).alloc (.cells #[.int .i64 (a : Int)] 2)).heap.size = w2.heap.size + 2 := by simp
    generalize (w2.alloc (.cells #[.pointer (some ⟨bm, 0, none⟩)] 132)).alloc (.cells #[.int .i64 (a : Int)] 2) = W3 at e2 e3 hT3 bX3 hk3 hr3 hs3 ⊢
    clear hT2 bX2 hk2 hr2 d0 d1
    have hrow2 : ∀ (pre' : List Nat) (W' : World), ((TW w bm (p : Int) a gone (stJ B a pre x pre') W' ∧ Boxed W' Bx 2 (.int .i64 (x : Int))) ∧ (Boxed W' w2.heap.size 132 (.pointer (some ⟨bm, 0, none⟩)) ∧ Boxed W' (w2.heap.size + 1) 2 (.int .i64 (a : Int)))) ∧ KeepsFrom W0.heap.size W W' → Reads w2.heap.size (w2.heap.size + 1) bm p a W' ((fun (_ : List Nat) j => B a j && !(pre ++ [x]).contains j) pre') := fun pre' W' h => by
      have := Reads.of_mesh (by omega) h.1.2.1.cell h.1.2.2.cell h.1.1.1.mesh
      rw [stJ_row] at this
      exact this
    have hgood2 : ∀ k, k < p → (fun (_ : List Nat) j => B a j && !(pre ++ [x]).contains j) (vis (fun (_ : List Nat) j => B a j && !(pre ++ [x]).contains j) k) k = true → (fun (_ : List Nat) (y : Nat) => y < p ∧ y ≠ a ∧ x ≠ y) (vis (fun (_ : List Nat) j => B a j && !(pre ++ [x]).contains j) k) k := fun k hk hb => by
      simp only [Bool.and_eq_true, contains_snoc] at hb
      show k < p ∧ k ≠ a ∧ x ≠ k
      refine ⟨hk, fun e => (by rw [e, hB.2] at hb; cases hb.1), fun e => ?_⟩
      have := hb.2
      rw [e] at this
      simp at this
    gi_wp2
    refine range_within (l₀ := l) (r₀ := r) rfl hr3 (by omega) (gf := 122) (lb := #[.pointer (some ⟨w2.heap.size, 0, none⟩), .pointer (some ⟨w2.heap.size + 1, 0, none⟩)]) rfl trivial (enters_of Try.func122 (by kernel_rfl) rfl)
      (encs := fun x : Nat => #[Value.int .i64 (x : Int)]) (fun _ => rfl) (fun pre' W' => ((TW w bm (p : Int) a gone (stJ B a pre x pre') W' ∧ Boxed W' Bx 2 (.int .i64 (x : Int))) ∧ (Boxed W' w2.heap.size 132 (.pointer (some ⟨bm, 0, none⟩)) ∧ Boxed W' (w2.heap.size + 1) 2 (.int .i64 (a : Int)))) ∧ KeepsFrom W0.heap.size W W')
      (OwnFrom.and (OwnFrom.and (OwnFrom.and (TW.own hml (by omega) _) (Own.from (boxed_own _ _ _) _)) (OwnFrom.and (Own.from (boxed_own _ _ _) _) (Own.from (boxed_own _ _ _) _))) (ownFrom_keepsFrom hk3.size)) ⟨⟨⟨hT3, bX3⟩, e2, e3⟩, hk3⟩
      ((iter_seq (8 - 1 - 1 - 1) (by omega) w2.heap.size (w2.heap.size + 1) bm p a hp (by omega) _ (fun _ j => B a j && !(pre ++ [x]).contains j) hrow2 (fun _ y => y < p ∧ y ≠ a ∧ x ≠ y) hgood2 W3).inRound l)
      (fun y a'' _ => a'' = { tmps := #[.pointer (some ⟨bm, 0, none⟩), .int .i64 (a : Int), .pointer (some ⟨w.heap.size, 0, none⟩), .pointer (some ⟨w.heap.size + 1, 0, none⟩), .pointer (some ⟨Bx, 0, none⟩), .int .i64 (y : Int), .pointer (some ⟨bm, 0, none⟩), .int .i64 (a : Int), .func (.func 122) #[] #[.pointer (some ⟨w.heap.size + 1 + 1, 0, none⟩), .pointer (some ⟨w.heap.size + 1 + 1 + 1, 0, none⟩)], .int .i64 (x : Int), .pointer (some ⟨bm, 0, none⟩), .int .i64 (a : Int), .int .i64 (x : Int), .tuple #[], .pointer (some ⟨bm, 0, none⟩), .int .i64 (a : Int), .func (.func 122) #[] #[.pointer (some ⟨w2.heap.size, 0, none⟩), .pointer (some ⟨w2.heap.size + 1, 0, none⟩)], .int .i64 (y : Int), undef, undef, undef, undef, undef, undef, undef, undef, undef], defers := [] })
      (fun _ _ _ _ _ _ hs _ _ => hs)
      ?assign2 ?body2 ?done2
    case assign2 =>
      rintro l2 pre' y W' K hi' _ hK
      gi_wp2
      exact hK _ _ (KeepsFrom.refl _ _) hi' rfl
    case body2 =>
      rintro l2 pre' y a'' W' _ _ ⟨⟨⟨hT', bX'⟩, f2, f3⟩, hk'⟩ ⟨hyp, hya, hxy⟩ rfl
      have d0 := hT'.b0.cell
      have d1 := bX'.cell
      have hsl := bX'.lt
      gi_wp2_with (refine ⟨trivial, ?_⟩; gi_at_call 121; refine (CallsIn.inRound l2 (callsIn_wide.2 (join_any bm x y (p : Int) _ gone (by omega) (by omega) hxy _ hT'.mesh))).mono ?_; rintro e w5 ⟨rfl, hM5, hg5⟩)
      exact ⟨rfl, keeps_grown (by omega) hg5, ⟨⟨(hT'.turn hml hM5 hg5).same (stJ_join B pre pre' hxa hya), bX'.kept hg5 (by simp; omega)⟩, f2.kept hg5 (by simp; omega), f3.kept hg5 (by simp; omega)⟩, hk'.trans (keeps_grown (by omega) hg5)⟩
    case done2 =>
      rintro ys W' rfl ⟨⟨⟨hT', bX'⟩, f2, f3⟩, hk'⟩
      gi_wp2
      exact ⟨rfl, hk', hT'.same (stJ_end hW hbx)⟩
  case done =>
    rintro D xs W hD rfl hi hK
    rw [vis_struck] at hi
    replace hi := hi.same (stI_end hW)
    have c0 := hi.b0.cell
    have c1 := hi.b1.cell
    have c2 := hi.mesh.gone (show a < 24 by omega)
    have z2 := VHas.frozen hi.mesh (577 + a)
    have ha' : (a : Int) < 24 := by omega
    gi_wp2
    refine wpIn_wide.2 ?_
    go_big_region
    have hM2 := hi.mesh.go (show a < 24 by omega)
    have hg2 : w.grownBy ((W.setCell ⟨bm, 577 + a, none⟩ (.bool true)).drew) (some bm) := (hi.gr.trans (gr_setCell W bm (577 + a) (.bool true))).trans ⟨rfl, rfl, rfl, Nat.le_refl _, fun _ _ _ => rfl⟩
    have hK2 : ((W.setCell ⟨bm, 577 + a, none⟩ (.bool true)).drew).heap[D]? = some (.deferred (some [])) := (KeepsOthers.setCell W _ _).same D _ hK rfl
    have hM3 : MeshAt ((W.setCell ⟨bm, 577 + a, none⟩ (.bool true)).drew) bm (p : Int) (tk B a) (goneU gone a) := VHas.of_block hM2 rfl
    refine ⟨by simp, .inl ⟨_, _, rfl, run_takeDeferred hK2, ?_⟩⟩
    refine ⟨_, results_none rfl _ _ _, rfl, VHas.of_block hM3 (World.putObj_heap_other (by omega)), ?_⟩
    refine ⟨hg2.os, hg2.tape, hg2.output, by simpa using hg2.size, fun k hk hne => ?_⟩
    rw [World.putObj_heap_other (by omega)]
    exact hg2.block k hk hne

end Go.Proofs.Ytdgnlpafmkhdjah
