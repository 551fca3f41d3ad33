/-
  A region that draws its order, each operation by its own contract: whatever order comes, the end is told once.
-/
import Derived.Deep.RegionHeld
set_option linter.unusedVariables false
set_option linter.unusedSimpArgs false
namespace Go.Proofs.YticckgmkhgnmfaaDoor
open Go

section
variable {P : Program} {ops : Array Oper} {Q : Exit → Act → World → Prop}
/-- The operation number i waits for number j. -/
def waitsFor (o : Oper) (j : Nat) : Prop := ∃ e ∈ o.after, Region.binds .any e = true ∧ e.on = j
/-- Destinations differ; what an operation looks at is a destination of one that it waits for, or of none; it waits for earlier ones. -/
def ordersOk (ops : Array Oper) : Bool :=
  (List.range ops.size).all fun i => match ops[i]? with
    | none => true
    | some o => o.after.all (fun e => !Region.binds .any e || decide (e.on < i)) && (List.range ops.size).all fun j => match ops[j]? with
      | none => true
      | some p => (i == j || (match p.dst with | none => true | some d => o.dst != some d)) &&
          (match p.dst with | none => true | some d => !(o.looksAt ops).contains d || o.after.any (fun e => Region.binds .any e && e.on == j))
theorem ordersOk_spec (h : ordersOk ops = true) {i : Nat} {o : Oper} (hi : ops[i]? = some o) :
    (∀ j, waitsFor o j → j < i) ∧ (∀ j p d, ops[j]? = some p → p.dst = some d → i ≠ j → o.dst ≠ some d) ∧ (∀ j p d, ops[j]? = some p → p.dst = some d → d ∈ o.looksAt ops → waitsFor o j) := by
  simp only [ordersOk, List.all_eq_true, List.mem_range] at h
  have h1 := h i (Array.getElem?_eq_some_iff.1 hi).1
  simp only [hi, Bool.and_eq_true, List.all_eq_true, List.mem_range] at h1
  refine ⟨fun j hj => ?_, fun j p d hj hd hne => ?_, fun j p d hj hd hl => ?_⟩
  · obtain ⟨e, he, hb, rfl⟩ := hj
    have h2 := (Array.all_eq_true'.1 h1.1) e he
    simp only [hb, Bool.not_true, Bool.false_or, decide_eq_true_eq] at h2
    exact h2
  · have h2 := h1.2 j (Array.getElem?_eq_some_iff.1 hj).1
    simp only [hj, hd, Bool.and_eq_true, Bool.or_eq_true, beq_iff_eq, hne, false_or] at h2
    simpa using h2.1
  · have h2 := h1.2 j (Array.getElem?_eq_some_iff.1 hj).1
    simp only [hj, hd, Bool.and_eq_true, Bool.or_eq_true] at h2
    rcases h2.2 with h3 | h3
    · simp [hl] at h3
    · obtain ⟨e, he, hb⟩ := Array.any_eq_true'.1 h3
      simp only [Bool.and_eq_true, beq_iff_eq] at hb
      exact ⟨e, he, hb.1, hb.2⟩
/-- The frame behind the operations dn, with what each of them yielded. -/
structure Fr (ops : Array Oper) (a0 : Act) (dn : Nat → Bool) (vs : Nat → Value) (a : Act) : Prop where
  size : a.tmps.size = a0.tmps.size
  defers : a.defers = a0.defers
  done : ∀ j o d, ops[j]? = some o → dn j = true → o.dst = some d → d < a0.tmps.size → a.tmps[d]? = some (vs j)
  rest : ∀ d, (∀ j o, ops[j]? = some o → dn j = true → o.dst ≠ some d) → a.tmps[d]? = a0.tmps[d]?
theorem Fr.init (a0 : Act) (vs : Nat → Value) : Fr ops a0 (fun _ => false) vs a0 := ⟨rfl, rfl, fun _ _ _ _ h => (Bool.noConfusion h), fun _ _ => rfl⟩
theorem Fr.put (hok : ordersOk ops = true) {a0 a : Act} {dn : Nat → Bool} {vs : Nat → Value} (h : Fr ops a0 dn vs a) {i : Nat} {o : Oper} (hi : ops[i]? = some o) (hn : dn i = false) (u : Value) :
    Fr ops a0 (fun k => if k = i then true else dn k) (fun k => if k = i then u else vs k) (a.put o.dst u) := by
  have hs := ordersOk_spec hok hi
  cases hd : o.dst with
  | none =>
    refine ⟨h.size, h.defers, fun j oj d hj hdn hdj hlt => ?_, fun d hno => ?_⟩
    · by_cases hji : j = i
      · subst hji; rw [hi] at hj; cases hj; rw [hd] at hdj; cases hdj
      · simp only [hji, if_false] at hdn ⊢
        exact h.done j oj d hj hdn hdj hlt
    · refine h.rest d fun j oj hj hdn hdj => ?_
      by_cases hji : j = i
      · subst hji; rw [hn] at hdn; cases hdn
      · exact hno j oj hj (by simp [hji, hdn]) hdj
  | some e =>
    refine ⟨by simp [Act.put, h.size], h.defers, fun j oj d hj hdn hdj hlt => ?_, fun d hno => ?_⟩
    · by_cases hji : j = i
      · subst hji
        rw [hi] at hj; cases hj
        rw [hd] at hdj; cases hdj
        simp [Act.put, h.size, hlt]
      · simp only [hji, if_false] at hdn ⊢
        have hne : e ≠ d := fun q => by
          subst q
          exact hs.2.1 j oj e hj hdj (fun q => hji q.symm) hd
        simp only [Act.put]
        rw [Array.getElem?_setIfInBounds_ne hne]
        exact h.done j oj d hj hdn hdj hlt
    · have hne : e ≠ d := fun q => by
        subst q
        exact hno i o hi (by simp) hd
      simp only [Act.put]
      rw [Array.getElem?_setIfInBounds_ne hne]
      refine h.rest d fun j oj hj hdn hdj => ?_
      exact hno j oj hj (by simp [hdn]) hdj
theorem Fr.uniq {a0 a b : Act} {dn : Nat → Bool} {vs : Nat → Value} (h : Fr ops a0 dn vs a) (k : Fr ops a0 dn vs b) : a = b := by
  have e1 : a.tmps = b.tmps := by
    apply Array.ext_getElem?
    intro d
    by_cases hq : ∃ j o, ops[j]? = some o ∧ dn j = true ∧ o.dst = some d
    · obtain ⟨j, o, hj, hdn, hd⟩ := hq
      by_cases hlt : d < a0.tmps.size
      · rw [h.done j o d hj hdn hd hlt, k.done j o d hj hdn hd hlt]
      · rw [Array.getElem?_eq_none (by rw [h.size]; omega), Array.getElem?_eq_none (by rw [k.size]; omega)]
    · have hno : ∀ j o, ops[j]? = some o → dn j = true → o.dst ≠ some d := fun j o hj hdn hd => hq ⟨j, o, hj, hdn, hd⟩
      rw [h.rest d hno, k.rest d hno]
  have e2 := h.defers.trans k.defers.symm
  cases a; cases b
  simp only at e1 e2
  subst e1; subst e2; rfl
theorem Fr.congr {a0 a : Act} {dn dn' : Nat → Bool} {vs vs' : Nat → Value} (h : Fr ops a0 dn vs a) (e : ∀ j, j < ops.size → dn j = dn' j) (f : ∀ j, j < ops.size → dn j = true → vs j = vs' j) : Fr ops a0 dn' vs' a :=
  ⟨h.size, h.defers, fun j o d hj hdn hd hlt => by
    have hl := (Array.getElem?_eq_some_iff.1 hj).1
    rw [← e j hl] at hdn
    rw [← f j hl hdn]
    exact h.done j o d hj hdn hd hlt, fun d hno => h.rest d fun j o hj hdn => hno j o hj (by rw [← e j (Array.getElem?_eq_some_iff.1 hj).1]; exact hdn)⟩
/-- All puts, in the text's order. -/
def putL (vs : Nat → Value) : Nat → List Oper → Act → Act
  | _, [], a => a
  | i, o :: os, a => putL vs (i + 1) os (a.put o.dst (vs i))
theorem putL_fr (hok : ordersOk ops = true) (vs : Nat → Value) (a0 : Act) : ∀ (l : List Oper) (i : Nat) (a : Act), (∀ k, k < l.length → l[k]? = ops[i + k]?) → Fr ops a0 (fun k => decide (k < i)) vs a → Fr ops a0 (fun k => decide (k < i + l.length)) vs (putL vs i l a)
  | [], i, a, _, h => by simpa [putL] using h
  | o :: l, i, a, hl, h => by
    have h0 : ops[i]? = some o := by have := hl 0 (by simp); simpa using this.symm
    have h1 := h.put hok h0 (by simp) (vs i)
    have h2 : Fr ops a0 (fun k => decide (k < i + 1)) vs (a.put o.dst (vs i)) := h1.congr (fun j _ => by
      by_cases hj : j = i
      · simp [hj]
      · simp only [hj, if_false]; rw [decide_eq_decide]; omega) (fun j _ _ => by by_cases hj : j = i <;> simp [hj])
    have h3 := putL_fr hok vs a0 l (i + 1) (a.put o.dst (vs i)) (fun k hk => by
      have := hl (k + 1) (by simp; omega)
      simp only [List.getElem?_cons_succ] at this
      rw [this]; congr 1; omega) h2
    have e : i + 1 + l.length = i + (o :: l).length := by simp; omega
    rw [e] at h3
    exact h3
/-- How many operations are still to come. -/
def unl (ops : Array Oper) (listed : Array Bool) : Nat := ((List.range ops.size).filter fun i => !listed.getD i true).length
theorem count_set {l : List Nat} (hnd : l.Nodup) {f g : Nat → Bool} {i : Nat} (hi : i ∈ l) (hf : f i = true) (hg : g i = false) (e : ∀ k, k ≠ i → g k = f k) : (l.filter g).length + 1 = (l.filter f).length := by
  induction l with
  | nil => cases hi
  | cons x l ih =>
    rw [List.nodup_cons] at hnd
    rcases List.mem_cons.1 hi with rfl | hi
    · have : l.filter g = l.filter f := List.filter_congr fun k hk => e k fun q => hnd.1 (q ▸ hk)
      simp [List.filter_cons, hf, hg, this]
    · have hx : x ≠ i := fun q => hnd.1 (q ▸ hi)
      have := ih hnd.2 hi
      simp only [List.filter_cons, e x hx]
      split
      · simp only [List.length_cons]; omega
      · exact this
theorem ready_or_all (hok : ordersOk ops = true) (listed : Array Bool) (hr : Region.ready .any ops listed = []) (hsz : listed.size = ops.size) : ∀ j, j < ops.size → listed.getD j true = true := by
  intro j
  induction j using Nat.strongRecOn with
  | ind j ih =>
    intro hj
    rcases Bool.eq_false_or_eq_true (listed.getD j true) with q | q
    · exact q
    · exfalso
      have hoj : ops[j]? = some ops[j] := by simp [hj]
      have hm : j ∈ Region.ready .any ops listed := mem_ready.2 ⟨q, ops[j], hoj, fun e he hb => by
        have hlt := (ordersOk_spec hok hoj).1 e.on ⟨e, he, hb, rfl⟩
        have h2 := ih e.on hlt (by omega)
        have : e.on < listed.size := by omega
        simp [Array.getD, this] at h2 ⊢
        exact h2⟩
      rw [hr] at hm
      cases hm
/-- What is asked of an operation. -/
def OpOk (P : Program) (ops : Array Oper) (a0 : Act) (w0 : World) (R : World → World → Prop) (Pr : Nat → Value → World → Prop) (i : Nat) (o : Oper) : Prop :=
  ∀ (a : Act) (w : World) (v : Nat → Value) (Q : Exit → Act → World → Prop), R w0 w → (∀ (j : Nat) (p : Oper) (d : Tmp), ops[j]? = some p → p.dst = some d → d < a0.tmps.size → waitsFor o j → a.eval (.tmp d) = v j) → (∀ j, j < ops.size → waitsFor o j → Pr j (v j) w) →
    (∀ d, (∀ (j : Nat) (p : Oper), ops[j]? = some p → p.dst ≠ some d) → a.eval (.tmp d) = a0.eval (.tmp d)) →
    if Region.wanted o (yielded ops a.tmps) = true then o.wp P a w (fun a' w' => ∃ u, a' = a.put o.dst u ∧ R w w' ∧ Pr i u w') Q else Pr i undef w
theorem wpAny_each (hok : ordersOk ops = true) {a0 : Act} {w0 : World} (R : World → World → Prop) (hR0 : ∀ w, R w w) (hRt : ∀ u v w, R u v → R v w → R u w) (Pr : Nat → Value → World → Prop) (hPr : ∀ i v w w', Pr i v w → R w w' → Pr i v w')
    (hstep : ∀ i o, ops[i]? = some o → OpOk P ops a0 w0 R Pr i o)
    (hend : ∀ v w', R w0 w' → (∀ i, i < ops.size → Pr i (v i) w') → Q .normal (putL v 0 ops.toList a0) w') :
    ∀ (fuel : Nat) (listed : Array Bool) (a : Act) (w : World) (v : Nat → Value), listed.size = ops.size → unl ops listed ≤ fuel → R w0 w → Fr ops a0 (fun j => listed.getD j false) v a → (∀ j, j < ops.size → listed.getD j false = true → Pr j (v j) w) → wpAny P .any ops Q fuel listed a w := by
  have fin : ∀ (listed : Array Bool) (a : Act) (w : World) (v : Nat → Value), listed.size = ops.size → R w0 w → Fr ops a0 (fun j => listed.getD j false) v a → (∀ j, j < ops.size → listed.getD j false = true → Pr j (v j) w) → (∀ j, j < ops.size → listed.getD j true = true) → Q .normal a w := by
    intro listed a w v hsz hR hF hP hall
    have hall' : ∀ j, j < ops.size → listed.getD j false = true := fun j hj => by
      have := hall j hj
      have hl : j < listed.size := by omega
      simp [hl] at this ⊢
      exact this
    have h1 : Fr ops a0 (fun k => decide (k < 0 + ops.toList.length)) v a := hF.congr (fun j hj => by simp [hall' j hj, hj]) (fun _ _ _ => rfl)
    have h2 := putL_fr hok v a0 ops.toList 0 a0 (fun k _ => by simp) ((Fr.init a0 v).congr (fun j _ => by simp) (fun _ _ _ => rfl))
    rw [h1.uniq h2]
    exact hend v w hR fun i hi => hP i hi (hall' i hi)
  intro fuel
  induction fuel with
  | zero =>
    intro listed a w v hsz hu hR hF hP
    have hall : ∀ j, j < ops.size → listed.getD j true = true := fun j hj => by
      rcases Bool.eq_false_or_eq_true (listed.getD j true) with q | q
      · exact q
      · exfalso
        have h0 : (List.range ops.size).filter (fun i => !listed.getD i true) = [] := List.eq_nil_of_length_eq_zero (by unfold unl at hu; omega)
        have : j ∈ (List.range ops.size).filter (fun i => !listed.getD i true) := List.mem_filter.2 ⟨List.mem_range.2 hj, by rw [q]; rfl⟩
        rw [h0] at this
        cases this
    refine ⟨?_, fin listed a w v hsz hR hF hP hall⟩
    rw [List.eq_nil_iff_forall_not_mem]
    intro j hj
    obtain ⟨h0, o, ho, _⟩ := mem_ready.1 hj
    rw [hall j (Array.getElem?_eq_some_iff.1 ho).1] at h0
    cases h0
  | succ fuel ih =>
    intro listed a w v hsz hu hR hF hP
    refine ⟨fun hr => fin listed a w v hsz hR hF hP (ready_or_all hok listed hr hsz), fun i hi => ?_⟩
    obtain ⟨h0, o, ho, hall⟩ := mem_ready.1 hi
    have hil : i < ops.size := (Array.getElem?_eq_some_iff.1 ho).1
    have hsp := ordersOk_spec hok ho
    have h0f : listed.getD i false = false := by
      have hl : i < listed.size := by omega
      simp [hl] at h0 ⊢
      exact h0
    have hw : ∀ j, waitsFor o j → listed.getD j false = true := fun j ⟨e, he, hb, ej⟩ => by
      subst ej
      exact hall e he hb
    have hlt : ∀ j, waitsFor o j → j < ops.size := fun j hj => by have := hsp.1 j hj; omega
    have hS := hstep i o ho a w v Q hR (fun j p d hj hd hlt hwj => by
      have := hF.done j p d hj (hw j hwj) hd hlt
      simp [Act.eval, Array.getD_eq_getD_getElem?, this]) (fun j hj hwj => hP j hj (hw j hwj)) (fun d hno => by
      have := hF.rest d fun j p hj _ => hno j p hj
      simp [Act.eval, Array.getD_eq_getD_getElem?, this])
    have next : ∀ u w', R w w' → Pr i u w' → wpAny P .any ops Q fuel (listed.setIfInBounds i true) (a.put o.dst u) w' := fun u w' hR' hu' => by
      refine ih _ _ _ (fun k => if k = i then u else v k) (by simp [hsz]) ?_ (hRt _ _ _ hR hR') ?_ ?_
      · have := count_set (l := List.range ops.size) List.nodup_range (f := fun k => !listed.getD k true) (g := fun k => !(listed.setIfInBounds i true).getD k true) (i := i) (List.mem_range.2 hil) (by simp only [h0]; rfl) (by
          have hl : i < listed.size := by omega
          simp [hl]) (fun k hk => by
          show (!(listed.setIfInBounds i true).getD k true) = !listed.getD k true
          rw [getD_set_ne true (fun q => hk q.symm)])
        unfold unl at hu ⊢
        omega
      · refine (hF.put hok ho h0f u).congr (fun j hj => ?_) (fun _ _ _ => rfl)
        by_cases hji : j = i
        · subst hji
          have hl : j < listed.size := by omega
          simp [hl]
        · simp only [hji, if_false]
          rw [getD_set_ne false (fun q => hji q.symm)]
      · intro j hj hdn
        by_cases hji : j = i
        · subst hji; simp only [if_true]; exact hu'
        · simp only [hji, if_false]
          rw [getD_set_ne false (fun q => hji q.symm)] at hdn
          exact hPr _ _ _ _ (hP j hj hdn) hR'
    unfold wpOp
    simp only [ho]
    split
    · rename_i hwt
      rw [if_pos hwt] at hS
      exact .inl (Oper.wp_mono (fun a' w' ⟨u, e, h1, h2⟩ => by rw [e]; exact next u w' h1 h2) hS)
    · rename_i hwt
      rw [if_neg hwt] at hS
      exact next undef w (hR0 w) hS
/-- A region that draws its order, each operation by its own contract. -/
theorem region_each {id : Nat} {a0 : Act} {w0 : World} (hm : P.follows .mixedOrders = true) (hok : ordersOk ops = true) (R : World → World → Prop) (hR0 : ∀ w, R w w) (hRt : ∀ u v w, R u v → R v w → R u w) (Pr : Nat → Value → World → Prop) (hPr : ∀ i v w w', Pr i v w → R w w' → Pr i v w')
    (hstep : ∀ i o, ops[i]? = some o → OpOk P ops a0 w0.drew R Pr i o)
    (hend : ∀ v w', R w0.drew w' → (∀ i, i < ops.size → Pr i (v i) w') → Q .normal (putL v 0 ops.toList a0) w') : (Code.region id ops true).wp P Q a0 w0 := by
  refine wp_region_any hm ?_
  refine wpAny_each hok R hR0 hRt Pr hPr hstep hend ops.size _ a0 _ (fun _ => undef) (by simp) ?_ (hR0 _) ?_ ?_
  · unfold unl
    exact Nat.le_trans (List.length_filter_le _ _) (by simp)
  · exact (Fr.init a0 _).congr (fun j hj => by simp [hj]) (fun _ _ _ => rfl)
  · intro j hj h
    simp [hj] at h
/-- Each operation but the last is waited for. -/
def eachAwaited (ops : Array Oper) : Bool := (List.range (ops.size - 1)).all fun j => (List.range ops.size).any fun i => match ops[i]? with
  | none => false
  | some o => decide (j < i) && o.after.any (fun e => Region.binds .any e && e.on == j)
theorem eachAwaited_spec (h : eachAwaited ops = true) {j : Nat} (hj : j + 1 < ops.size) : ∃ i o, ops[i]? = some o ∧ j < i ∧ waitsFor o j := by
  simp only [eachAwaited, List.all_eq_true, List.mem_range, List.any_eq_true] at h
  obtain ⟨i, hi, h2⟩ := h j (by omega)
  cases ho : ops[i]? with
  | none => rw [ho] at h2; cases h2
  | some o =>
    rw [ho] at h2
    simp only [Bool.and_eq_true, decide_eq_true_eq] at h2
    obtain ⟨e, he, hb⟩ := Array.any_eq_true'.1 h2.2
    simp only [Bool.and_eq_true, beq_iff_eq] at hb
    exact ⟨i, o, ho, h2.1, e, he, hb.1, hb.2⟩
theorem wpAny_last (hok : ordersOk ops = true) (haw : eachAwaited ops = true) {a0 : Act} {w0 : World} (R : World → World → Prop) (hR0 : ∀ w, R w w) (hRt : ∀ u v w, R u v → R v w → R u w) (Pr : Nat → Value → World → Prop) (hPr : ∀ i v w w', Pr i v w → R w w' → Pr i v w')
    (hstep : ∀ i o, i + 1 < ops.size → ops[i]? = some o → OpOk P ops a0 w0 R Pr i o)
    (o9 : Oper) (ho9 : ops[ops.size - 1]? = some o9) (hlast : ∀ v w', R w0 w' → (∀ i, i + 1 < ops.size → Pr i (v i) w') → if Region.wanted o9 (yielded ops (putL v 0 (ops.toList.take (ops.size - 1)) a0).tmps) = true then o9.wp P (putL v 0 (ops.toList.take (ops.size - 1)) a0) w' (fun a' w'' => Q .normal a' w'') Q else Q .normal ((putL v 0 (ops.toList.take (ops.size - 1)) a0).put o9.dst undef) w') :
    ∀ (fuel : Nat) (listed : Array Bool) (a : Act) (w : World) (v : Nat → Value), listed.size = ops.size → unl ops listed ≤ fuel → R w0 w → Fr ops a0 (fun j => listed.getD j false) v a → (∀ j, j < ops.size → listed.getD j false = true → Pr j (v j) w) → listed.getD (ops.size - 1) false = false → (∀ i o j, ops[i]? = some o → listed.getD i false = true → waitsFor o j → listed.getD j false = true) → wpAny P .any ops Q fuel listed a w := by
  have hsz9 : ops.size - 1 < ops.size := (Array.getElem?_eq_some_iff.1 ho9).1
  have full : ∀ (listed : Array Bool), listed.size = ops.size → (∀ j, j < ops.size → listed.getD j false = true) → ∀ fuel a w, Q .normal a w → wpAny P .any ops Q fuel listed a w := by
    intro listed hsz hall fuel a w hq
    have hr : Region.ready .any ops listed = [] := by
      rw [List.eq_nil_iff_forall_not_mem]
      intro j hj
      obtain ⟨h0, o, ho, _⟩ := mem_ready.1 hj
      have hl : j < ops.size := (Array.getElem?_eq_some_iff.1 ho).1
      have h1 := hall j hl
      have hl2 : j < listed.size := by omega
      simp [Array.getD, hl2] at h0 h1
      rw [h0] at h1
      cases h1
    cases fuel with
    | zero => exact ⟨hr, hq⟩
    | succ f => exact ⟨fun _ => hq, fun i hi => by rw [hr] at hi; cases hi⟩
  intro fuel
  induction fuel with
  | zero =>
    intro listed a w v hsz hu hR hF hP hL hDC
    exfalso
    have h0 : (List.range ops.size).filter (fun i => !listed.getD i true) = [] := List.eq_nil_of_length_eq_zero (by unfold unl at hu; omega)
    have : ops.size - 1 ∈ (List.range ops.size).filter (fun i => !listed.getD i true) := List.mem_filter.2 ⟨List.mem_range.2 hsz9, by
      have hl : ops.size - 1 < listed.size := by omega
      simp [Array.getD, hl] at hL ⊢
      exact hL⟩
    rw [h0] at this
    cases this
  | succ fuel ih =>
    intro listed a w v hsz hu hR hF hP hL hDC
    refine ⟨fun hr => by
      exfalso
      have := ready_or_all hok listed hr hsz _ hsz9
      have hl : ops.size - 1 < listed.size := by omega
      simp [Array.getD, hl] at hL this
      rw [hL] at this
      exact Bool.noConfusion this, fun i hi => ?_⟩
    obtain ⟨h0, o, ho, hall⟩ := mem_ready.1 hi
    have hil : i < ops.size := (Array.getElem?_eq_some_iff.1 ho).1
    have hsp := ordersOk_spec hok ho
    have h0f : listed.getD i false = false := by
      have hl : i < listed.size := by omega
      simp [hl] at h0 ⊢
      exact h0
    have hw : ∀ j, waitsFor o j → listed.getD j false = true := fun j ⟨e, he, hb, ej⟩ => by
      subst ej
      exact hall e he hb
    by_cases hi9 : i = ops.size - 1
    · have ho' : o = o9 := by rw [hi9, ho9] at ho; exact (Option.some.inj ho).symm
      have hall9 : ∀ k j, j + 1 + k = ops.size → listed.getD j false = true ∨ j = ops.size - 1 := by
        intro k
        induction k using Nat.strongRecOn with
        | ind k ihk =>
          intro j hjk
          by_cases hj9 : j = ops.size - 1
          · exact .inr hj9
          · left
            obtain ⟨i2, o2, ho2, hlt2, hw2⟩ := eachAwaited_spec haw (j := j) (by omega)
            have hi2 : i2 < ops.size := (Array.getElem?_eq_some_iff.1 ho2).1
            rcases ihk (ops.size - (i2 + 1)) (by omega) i2 (by omega) with h1 | h1
            · exact hDC i2 o2 j ho2 h1 hw2
            · subst h1
              rw [hi9, ho2] at ho
              cases ho
              exact hw j hw2
      have hall8 : ∀ j, j + 1 < ops.size → listed.getD j false = true := fun j hj => by
        rcases hall9 (ops.size - (j + 1)) j (by omega) with h1 | h1
        · exact h1
        · omega
      have h1 : Fr ops a0 (fun k => decide (k < 0 + (ops.toList.take (ops.size - 1)).length)) v a := hF.congr (fun j hj => by
        by_cases hj9 : j = ops.size - 1
        · rw [hj9, hL]; simp
        · rw [hall8 j (by omega)]; simp; omega) (fun _ _ _ => rfl)
      have h2 := putL_fr hok v a0 (ops.toList.take (ops.size - 1)) 0 a0 (fun k hk => by
        simp at hk
        rw [List.getElem?_take, if_pos (by omega)]
        simp) ((Fr.init a0 v).congr (fun j _ => by simp) (fun _ _ _ => rfl))
      have ea := h1.uniq h2
      have hq := hlast v w hR fun j hj => hP j (by omega) (hall8 j hj)
      rw [← ea, ← ho'] at hq
      have hfull : ∀ j, j < ops.size → (listed.setIfInBounds i true).getD j false = true := fun j hj => by
        by_cases hji : j = i
        · subst hji
          have hl : j < listed.size := by omega
          simp [Array.getD, hl]
        · rw [getD_set_ne false (fun q => hji q.symm)]
          exact hall8 j (by omega)
      unfold wpOp
      simp only [ho]
      split
      · rename_i hwt
        rw [if_pos hwt] at hq
        exact .inl (Oper.wp_mono (fun a' w' h => full _ (by simp [hsz]) hfull _ _ _ h) hq)
      · rename_i hwt
        rw [if_neg hwt] at hq
        exact full _ (by simp [hsz]) hfull _ _ _ hq
    have hlt : ∀ j, waitsFor o j → j < ops.size := fun j hj => by have := hsp.1 j hj; omega
    have hS := hstep i o (by omega) ho a w v Q hR (fun j p d hj hd hlt hwj => by
      have := hF.done j p d hj (hw j hwj) hd hlt
      simp [Act.eval, Array.getD_eq_getD_getElem?, this]) (fun j hj hwj => hP j hj (hw j hwj)) (fun d hno => by
      have := hF.rest d fun j p hj _ => hno j p hj
      simp [Act.eval, Array.getD_eq_getD_getElem?, this])
    have next : ∀ u w', R w w' → Pr i u w' → wpAny P .any ops Q fuel (listed.setIfInBounds i true) (a.put o.dst u) w' := fun u w' hR' hu' => by
      refine ih _ _ _ (fun k => if k = i then u else v k) (by simp [hsz]) ?_ (hRt _ _ _ hR hR') ?_ ?_ ?_ ?_
      · have := count_set (l := List.range ops.size) List.nodup_range (f := fun k => !listed.getD k true) (g := fun k => !(listed.setIfInBounds i true).getD k true) (i := i) (List.mem_range.2 hil) (by simp only [h0]; rfl) (by
          have hl : i < listed.size := by omega
          simp [hl]) (fun k hk => by
          show (!(listed.setIfInBounds i true).getD k true) = !listed.getD k true
          rw [getD_set_ne true (fun q => hk q.symm)])
        unfold unl at hu ⊢
        omega
      · refine (hF.put hok ho h0f u).congr (fun j hj => ?_) (fun _ _ _ => rfl)
        by_cases hji : j = i
        · subst hji
          have hl : j < listed.size := by omega
          simp [hl]
        · simp only [hji, if_false]
          rw [getD_set_ne false (fun q => hji q.symm)]
      · intro j hj hdn
        by_cases hji : j = i
        · subst hji; simp only [if_true]; exact hu'
        · simp only [hji, if_false]
          rw [getD_set_ne false (fun q => hji q.symm)] at hdn
          exact hPr _ _ _ _ (hP j hj hdn) hR'
      · rw [getD_set_ne false hi9]
        exact hL
      · intro i2 o2 j ho2 h2 hw2
        by_cases hii : i2 = i
        · subst hii
          rw [ho] at ho2
          cases ho2
          have h3 := hw j hw2
          have hne : i2 ≠ j := fun q => by have := hsp.1 j hw2; omega
          rw [getD_set_ne false hne]
          exact h3
        · rw [getD_set_ne false (fun q => hii q.symm)] at h2
          have h3 := hDC i2 o2 j ho2 h2 hw2
          by_cases hji : j = i
          · subst hji; rw [h0f] at h3; cases h3
          · rw [getD_set_ne false (fun q => hji q.symm)]
            exact h3
    unfold wpOp
    simp only [ho]
    split
    · rename_i hwt
      rw [if_pos hwt] at hS
      exact .inl (Oper.wp_mono (fun a' w' ⟨u, e, h1, h2⟩ => by rw [e]; exact next u w' h1 h2) hS)
    · rename_i hwt
      rw [if_neg hwt] at hS
      exact next undef w (hR0 w) hS
/-- The same where the last operation, a store, waits for all. -/
theorem region_last {id : Nat} {a0 : Act} {w0 : World} (hm : P.follows .mixedOrders = true) (hok : ordersOk ops = true) (haw : eachAwaited ops = true) (R : World → World → Prop) (hR0 : ∀ w, R w w) (hRt : ∀ u v w, R u v → R v w → R u w) (Pr : Nat → Value → World → Prop) (hPr : ∀ i v w w', Pr i v w → R w w' → Pr i v w')
    (hstep : ∀ i o, i + 1 < ops.size → ops[i]? = some o → OpOk P ops a0 w0.drew R Pr i o) (o9 : Oper) (ho9 : ops[ops.size - 1]? = some o9)
    (hlast : ∀ v w', R w0.drew w' → (∀ i, i + 1 < ops.size → Pr i (v i) w') → if Region.wanted o9 (yielded ops (putL v 0 (ops.toList.take (ops.size - 1)) a0).tmps) = true then o9.wp P (putL v 0 (ops.toList.take (ops.size - 1)) a0) w' (fun a' w'' => Q .normal a' w'') Q else Q .normal ((putL v 0 (ops.toList.take (ops.size - 1)) a0).put o9.dst undef) w') : (Code.region id ops true).wp P Q a0 w0 := by
  refine wp_region_any hm ?_
  refine wpAny_last hok haw R hR0 hRt Pr hPr hstep o9 ho9 hlast ops.size _ a0 _ (fun _ => undef) (by simp) ?_ (hR0 _) ?_ ?_ ?_ ?_
  · unfold unl
    exact Nat.le_trans (List.length_filter_le _ _) (by simp)
  · exact (Fr.init a0 _).congr (fun j hj => by simp [hj]) (fun _ _ _ => rfl)
  · intro j hj h
    simp [hj] at h
  · simp [Array.getD]
  · intro i o j hi h
    have := (Array.getElem?_eq_some_iff.1 hi).1
    simp [this] at h
/-! ### For use: predicates as a list, obligations as a row -/
def prAt (l : List (Value → World → Prop)) (i : Nat) : Value → World → Prop := l.getD i (fun _ _ => True)
def allMono (R : World → World → Prop) : List (Value → World → Prop) → Prop
  | [] => True
  | p :: l => (∀ v w w', p v w → R w w' → p v w') ∧ allMono R l
theorem allMono_at {R : World → World → Prop} : ∀ {l : List (Value → World → Prop)}, allMono R l → ∀ i v w w', prAt l i v w → R w w' → prAt l i v w'
  | [], _, i, v, w, w', _, _ => by simp [prAt]
  | p :: l, h, 0, v, w, w', h1, h2 => h.1 v w w' h1 h2
  | p :: l, h, i + 1, v, w, w', h1, h2 => allMono_at (l := l) h.2 i v w w' h1 h2
def allPr (v : Nat → Value) (w : World) : Nat → List (Value → World → Prop) → Prop
  | _, [] => True
  | i, p :: l => p (v i) w ∧ allPr v w (i + 1) l
theorem allPr_of {v : Nat → Value} {w : World} : ∀ (l : List (Value → World → Prop)) (i : Nat), (∀ j, j < l.length → prAt l j (v (i + j)) w) → allPr v w i l
  | [], _, _ => trivial
  | p :: l, i, h => ⟨h 0 (by simp), allPr_of l (i + 1) fun j hj => by
      have := h (j + 1) (by simp; omega)
      have e : i + 1 + j = i + (j + 1) := by omega
      rw [e]
      exact this⟩
def allOk (P : Program) (ops : Array Oper) (a0 : Act) (w0 : World) (R : World → World → Prop) (Pr : Nat → Value → World → Prop) : Nat → List Oper → Prop
  | _, [] => True
  | i, o :: l => OpOk P ops a0 w0 R Pr i o ∧ allOk P ops a0 w0 R Pr (i + 1) l
theorem allOk_nil {a0 : Act} {w0 : World} {R : World → World → Prop} {Pr : Nat → Value → World → Prop} {i : Nat} : allOk P ops a0 w0 R Pr i [] := trivial
theorem allOk_cons {a0 : Act} {w0 : World} {R : World → World → Prop} {Pr : Nat → Value → World → Prop} {i : Nat} {o : Oper} {l : List Oper} (h : OpOk P ops a0 w0 R Pr i o) (k : allOk P ops a0 w0 R Pr (i + 1) l) : allOk P ops a0 w0 R Pr i (o :: l) := ⟨h, k⟩
theorem allOk_at {a0 : Act} {w0 : World} {R : World → World → Prop} {Pr : Nat → Value → World → Prop} : ∀ {l : List Oper} {i : Nat}, allOk P ops a0 w0 R Pr i l → ∀ (j : Nat) (o : Oper), l[j]? = some o → OpOk P ops a0 w0 R Pr (i + j) o
  | [], _, _, j, o, h => by simp at h
  | o' :: l, i, h, 0, o, e => by
    simp at e
    subst e
    exact h.1
  | o' :: l, i, h, j + 1, o, e => by
    have := allOk_at h.2 j o (by simpa using e)
    have q : i + 1 + j = i + (j + 1) := by omega
    rw [q] at this
    exact this
def waitsB (o : Oper) (j : Nat) : Bool := o.after.any fun e => Region.binds .any e && e.on == j
theorem waitsB_for {o : Oper} {j : Nat} (h : waitsB o j = true) : waitsFor o j := by
  obtain ⟨e, he, hb⟩ := Array.any_eq_true'.1 h
  simp only [Bool.and_eq_true, beq_iff_eq] at hb
  exact ⟨e, he, hb.1, hb.2⟩
def noDstB (ops : Array Oper) (d : Tmp) : Bool := ops.all fun o => o.dst != some d
theorem noDstB_spec {d : Tmp} (h : noDstB ops d = true) (j : Nat) (p : Oper) (hj : ops[j]? = some p) : p.dst ≠ some d := by
  have hm : p ∈ ops := Array.mem_of_getElem? hj
  have := (Array.all_eq_true'.1 h) p hm
  simpa using this
/-- What an operation without a guard owes. -/
theorem OpOk.of {a0 : Act} {w0 : World} {R : World → World → Prop} {Pr : Nat → Value → World → Prop} {i : Nat} {o : Oper} (hg : o.guard = none)
    (h : ∀ (a : Act) (w : World) (v : Nat → Value) (Q : Exit → Act → World → Prop), R w0 w → (∀ j d, (ops[j]?).bind (·.dst) = some d → waitsB o j = true → d < a0.tmps.size → a.eval (.tmp d) = v j) → (∀ j, j < ops.size → waitsB o j = true → Pr j (v j) w) → (∀ d, noDstB ops d = true → a.eval (.tmp d) = a0.eval (.tmp d)) →
      o.wp P a w (fun a' w' => ∃ u, a' = a.put o.dst u ∧ R w w' ∧ Pr i u w') Q) : OpOk P ops a0 w0 R Pr i o := by
  intro a w v Q hR hd hp hb
  rw [if_pos (by unfold Region.wanted; rw [hg])]
  refine h a w v Q hR (fun j d hj hw hlt => ?_) (fun j hj hw => hp j hj (waitsB_for hw)) (fun d hn => hb d fun j p hj => noDstB_spec hn j p hj)
  cases ho : ops[j]? with
  | none => rw [ho] at hj; cases hj
  | some p =>
    rw [ho] at hj
    exact hd j p d ho hj hlt (waitsB_for hw)
/-- What an operation's operands evaluate to. -/
structure EvOk (ops : Array Oper) (a0 : Act) (o : Oper) (v : Nat → Value) (ev : Operand → Value) : Prop where
  at_ : ∀ j d, (ops[j]?).bind (·.dst) = some d → waitsB o j = true → d < a0.tmps.size → ev (.tmp d) = v j
  old : ∀ d, noDstB ops d = true → ev (.tmp d) = a0.eval (.tmp d)
  con : ∀ c, ev (.const c) = c
  fn : ∀ f, ev (.func f) = .func (.func f) #[] #[]
  glob : ∀ g, ev (.global g) = .pointer (some ⟨g, 0, none⟩)
/-- An operation that yields a value. -/
theorem OpOk.val {a0 : Act} {w0 : World} {R : World → World → Prop} {Pr : Nat → Value → World → Prop} {i : Nat} {o : Oper} (hg : o.guard = none)
    (h : ∀ (ev : Operand → Value) (w : World) (v : Nat → Value), R w0 w → EvOk ops a0 o v ev → (∀ j, j < ops.size → waitsB o j = true → Pr j (v j) w) → ∃ u w', (execOp ev o).run P w = .ok (.value u) w' ∧ R w w' ∧ Pr i u w') : OpOk P ops a0 w0 R Pr i o := by
  refine OpOk.of hg fun a w v Q hR get pr old => ?_
  obtain ⟨u, w', hr, h1, h2⟩ := h a.eval w v hR ⟨get, old, fun _ => rfl, fun _ => rfl, fun _ => rfl⟩ pr
  unfold Oper.wp
  rw [hr]
  exact ⟨u, rfl, h1, h2⟩
/-- An operation that calls. -/
theorem OpOk.call {a0 : Act} {w0 : World} {R : World → World → Prop} {Pr : Nat → Value → World → Prop} {i : Nat} {o : Oper} (hg : o.guard = none)
    (h : ∀ (ev : Operand → Value) (w : World) (v : Nat → Value), R w0 w → EvOk ops a0 o v ev → (∀ j, j < ops.size → waitsB o j = true → Pr j (v j) w) → ∃ f args, (execOp ev o).run P w = .ok (.enter f args) w ∧ Calls P f args w fun e w' => ∃ u, e = .returned u ∧ R w w' ∧ Pr i u w') : OpOk P ops a0 w0 R Pr i o := by
  refine OpOk.of hg fun a w v Q hR get pr old => ?_
  obtain ⟨f, args, hr, hc⟩ := h a.eval w v hR ⟨get, old, fun _ => rfl, fun _ => rfl, fun _ => rfl⟩ pr
  unfold Oper.wp
  rw [hr]
  refine Calls.mono hc ?_
  rintro e w' ⟨u, rfl, h1, h2⟩
  exact ⟨u, rfl, h1, h2⟩
/-- The region, each operation by its contract; the last one, a store, behind them all. -/
theorem region_store {id : Nat} {a0 : Act} {w0 : World} (hm : P.follows .mixedOrders = true) (hok : ordersOk ops = true) (haw : eachAwaited ops = true) (R : World → World → Prop) (hR0 : ∀ w, R w w) (hRt : ∀ u v w, R u v → R v w → R u w) (l : List (Value → World → Prop)) (hPr : allMono R l) (hll : l.length = ops.size - 1)
    (hstep : allOk P ops a0 w0.drew R (prAt l) 0 (ops.toList.take (ops.size - 1))) (o9 : Oper) (ho9 : ops[ops.size - 1]? = some o9) (hg9 : o9.guard = none) (hd9 : o9.dst = none)
    (Fin : (Nat → Value) → World → Prop)
    (hstore : ∀ (ev : Operand → Value) (w' : World) (v : Nat → Value), R w0.drew w' → EvOk ops a0 o9 v ev → allPr v w' 0 l → ∃ w'', (execOp ev o9).run P w' = .ok .skip w'' ∧ Fin v w'')
    (hend : ∀ v w'', Fin v w'' → Q .normal (putL v 0 (ops.toList.take (ops.size - 1)) a0) w'') : (Code.region id ops true).wp P Q a0 w0 := by
  refine region_last hm hok haw R hR0 hRt (prAt l) (allMono_at hPr) (fun i o hi ho => ?_) o9 ho9 (fun v w' hR hp => ?_)
  · have := allOk_at hstep i o (by
      rw [List.getElem?_take, if_pos (by omega)]
      simpa using ho)
    rw [Nat.zero_add] at this
    exact this
  · rw [if_pos (by unfold Region.wanted; rw [hg9])]
    have hF := putL_fr hok v a0 (ops.toList.take (ops.size - 1)) 0 a0 (fun k hk => by
      simp at hk
      rw [List.getElem?_take, if_pos (by omega)]
      simp) ((Fr.init a0 v).congr (fun j _ => by simp) (fun _ _ _ => rfl))
    have hlen : (ops.toList.take (ops.size - 1)).length = ops.size - 1 := by simp
    rw [hlen, Nat.zero_add] at hF
    have hE : EvOk ops a0 o9 v (putL v 0 (ops.toList.take (ops.size - 1)) a0).eval := by
      refine ⟨fun j d hj hw hlt => ?_, fun d hn => ?_, fun _ => rfl, fun _ => rfl, fun _ => rfl⟩
      · cases ho : ops[j]? with
        | none => rw [ho] at hj; cases hj
        | some p =>
          rw [ho] at hj
          have hj1 : j < ops.size - 1 := (ordersOk_spec hok ho9).1 j (waitsB_for hw)
          have := hF.done j p d ho (by simp [hj1]) hj hlt
          simp [Act.eval, Array.getD_eq_getD_getElem?, this]
      · have := hF.rest d fun j p hj _ => noDstB_spec hn j p hj
        simp [Act.eval, Array.getD_eq_getD_getElem?, this]
    obtain ⟨w'', hr, hf⟩ := hstore _ w' v hR hE (allPr_of l 0 fun j hj => by rw [Nat.zero_add]; exact hp j (by omega))
    unfold Oper.wp
    rw [hr]
    simp only [Oper.upon, hd9]
    exact hend v w'' hf
/-- The region, each operation by its contract. -/
theorem region_all {id : Nat} {a0 : Act} {w0 : World} (hm : P.follows .mixedOrders = true) (hok : ordersOk ops = true) (R : World → World → Prop) (hR0 : ∀ w, R w w) (hRt : ∀ u v w, R u v → R v w → R u w) (l : List (Value → World → Prop)) (hPr : allMono R l) (hll : l.length = ops.size)
    (hstep : allOk P ops a0 w0.drew R (prAt l) 0 ops.toList)
    (hend : ∀ v w', R w0.drew w' → allPr v w' 0 l → Q .normal (putL v 0 ops.toList a0) w') : (Code.region id ops true).wp P Q a0 w0 := by
  refine region_each hm hok R hR0 hRt (prAt l) (allMono_at hPr) (fun i o ho => ?_) (fun v w' hR hp => ?_)
  · have := allOk_at hstep i o (by simpa using ho)
    rw [Nat.zero_add] at this
    exact this
  · exact hend v w' hR (allPr_of l 0 fun j hj => by rw [Nat.zero_add]; exact hp j (by omega))
end

end Go.Proofs.YticckgmkhgnmfaaDoor
