/-
  A region that draws its order, by an invariant over what is done; with one operation that writes into what is one's own.
-/
import Derived.Test.YticckgmkhgnmfaaDoorOrders
import Derived.Test.YticckgmkhgnmfaaDoorRegs
set_option linter.unusedVariables false
set_option linter.unusedSimpArgs false
namespace Go.Proofs.YticckgmkhgnmfaaDoor
open Go

section
variable {P : Program} {ops : Array Oper} {Q : Exit → Act → World → Prop}
/-- What an operation owes to an invariant. -/
def StepOk (P : Program) (ops : Array Oper) (a0 : Act) (Inv : (Nat → Bool) → (Nat → Value) → World → Prop) (Q : Exit → Act → World → Prop) (i : Nat) (o : Oper) : Prop :=
  ∀ (a : Act) (D : Nat → Bool) (v : Nat → Value) (w : World), D i = false → (∀ j, waitsFor o j → D j = true) → Inv D v w → EvOk ops a0 o v a.eval →
    if Region.wanted o (yielded ops a.tmps) = true then o.wp P a w (fun a' w' => ∃ u, a' = a.put o.dst u ∧ Inv (fun k => if k = i then true else D k) (fun k => if k = i then u else v k) w') Q
    else Inv (fun k => if k = i then true else D k) (fun k => if k = i then undef else v k) w
theorem wpAny_inv (hok : ordersOk ops = true) {a0 : Act} (Inv : (Nat → Bool) → (Nat → Value) → World → Prop)
    (hstep : ∀ i o, ops[i]? = some o → StepOk P ops a0 Inv Q i o)
    (hend : ∀ D v w, (∀ j, j < ops.size → D j = true) → Inv D v w → Q .normal (putL v 0 ops.toList a0) w) :
    ∀ (fuel : Nat) (listed : Array Bool) (a : Act) (w : World) (v : Nat → Value), listed.size = ops.size → unl ops listed ≤ fuel → Inv (fun j => listed.getD j false) v w → Fr ops a0 (fun j => listed.getD j false) v a → wpAny P .any ops Q fuel listed a w := by
  have fin : ∀ (listed : Array Bool) (a : Act) (w : World) (v : Nat → Value), listed.size = ops.size → Inv (fun j => listed.getD j false) v w → Fr ops a0 (fun j => listed.getD j false) v a → (∀ j, j < ops.size → listed.getD j true = true) → Q .normal a w := by
    intro listed a w v hsz hI hF hall
    have hall' : ∀ j, j < ops.size → listed.getD j false = true := fun j hj => by
      have := hall j hj
      have hl : j < listed.size := by omega
      simp [hl] at this ⊢
      exact this
    have h1 : Fr ops a0 (fun k => decide (k < 0 + ops.toList.length)) v a := hF.congr (fun j hj => by simp [hall' j hj, hj]) (fun _ _ _ => rfl)
    have h2 := putL_fr hok v a0 ops.toList 0 a0 (fun k _ => by simp) ((Fr.init a0 v).congr (fun j _ => by simp) (fun _ _ _ => rfl))
    rw [h1.uniq h2]
    exact hend _ v w hall' hI
  intro fuel
  induction fuel with
  | zero =>
    intro listed a w v hsz hu hI hF
    have hall : ∀ j, j < ops.size → listed.getD j true = true := fun j hj => by
      rcases Bool.eq_false_or_eq_true (listed.getD j true) with q | q
      · exact q
      · exfalso
        have h0 : (List.range ops.size).filter (fun i => !listed.getD i true) = [] := List.eq_nil_of_length_eq_zero (by unfold unl at hu; omega)
        have : j ∈ (List.range ops.size).filter (fun i => !listed.getD i true) := List.mem_filter.2 ⟨List.mem_range.2 hj, by rw [q]; rfl⟩
        rw [h0] at this
        cases this
    refine ⟨?_, fin listed a w v hsz hI hF hall⟩
    rw [List.eq_nil_iff_forall_not_mem]
    intro j hj
    obtain ⟨h0, o, ho, _⟩ := mem_ready.1 hj
    rw [hall j (Array.getElem?_eq_some_iff.1 ho).1] at h0
    cases h0
  | succ fuel ih =>
    intro listed a w v hsz hu hI hF
    refine ⟨fun hr => fin listed a w v hsz hI hF (ready_or_all hok listed hr hsz), fun i hi => ?_⟩
    obtain ⟨h0, o, ho, hall⟩ := mem_ready.1 hi
    have hil : i < ops.size := (Array.getElem?_eq_some_iff.1 ho).1
    have h0f : listed.getD i false = false := by
      have hl : i < listed.size := by omega
      simp [hl] at h0 ⊢
      exact h0
    have hw : ∀ j, waitsFor o j → listed.getD j false = true := fun j ⟨e, he, hb, ej⟩ => by
      subst ej
      exact hall e he hb
    have hE : EvOk ops a0 o v a.eval := ⟨fun j d hj hwj hlt => by
      cases hp : ops[j]? with
      | none => rw [hp] at hj; cases hj
      | some p =>
        rw [hp] at hj
        have := hF.done j p d hp (hw j (waitsB_for hwj)) hj hlt
        simp [Act.eval, Array.getD_eq_getD_getElem?, this], fun d hn => by
        have := hF.rest d fun j p hj _ => noDstB_spec hn j p hj
        simp [Act.eval, Array.getD_eq_getD_getElem?, this], fun _ => rfl, fun _ => rfl, fun _ => rfl⟩
    have hS := hstep i o ho a (fun j => listed.getD j false) v w h0f hw hI hE
    have next : ∀ u w', Inv (fun k => if k = i then true else listed.getD k false) (fun k => if k = i then u else v k) w' → wpAny P .any ops Q fuel (listed.setIfInBounds i true) (a.put o.dst u) w' := fun u w' hI' => by
      have e : (fun k => (listed.setIfInBounds i true).getD k false) = (fun k => if k = i then true else listed.getD k false) := by
        funext k
        by_cases hki : k = i
        · subst hki
          have hl : k < listed.size := by omega
          simp [hl]
        · simp only [hki, if_false]
          rw [getD_set_ne false (fun q => hki q.symm)]
      refine ih _ _ _ (fun k => if k = i then u else v k) (by simp [hsz]) ?_ (by rw [e]; exact hI') ?_
      · have := count_set (l := List.range ops.size) List.nodup_range (f := fun k => !listed.getD k true) (g := fun k => !(listed.setIfInBounds i true).getD k true) (i := i) (List.mem_range.2 hil) (by simp only [h0]; rfl) (by
          have hl : i < listed.size := by omega
          simp [hl]) (fun k hk => by
          show (!(listed.setIfInBounds i true).getD k true) = !listed.getD k true
          rw [getD_set_ne true (fun q => hk q.symm)])
        unfold unl at hu ⊢
        omega
      · rw [e]
        exact hF.put hok ho h0f u
    unfold wpOp
    simp only [ho]
    split
    · rename_i hwt
      rw [if_pos hwt] at hS
      exact .inl (Oper.wp_mono (fun a' w' ⟨u, e, h1⟩ => by rw [e]; exact next u w' h1) hS)
    · rename_i hwt
      rw [if_neg hwt] at hS
      exact next undef w hS
/-- A region that draws its order, by an invariant over what is done. -/
theorem region_inv {id : Nat} {a0 : Act} {w0 : World} (hm : P.follows .mixedOrders = true) (hok : ordersOk ops = true) (Inv : (Nat → Bool) → (Nat → Value) → World → Prop) (h0 : Inv (fun _ => false) (fun _ => undef) w0.drew)
    (hstep : ∀ i o, ops[i]? = some o → StepOk P ops a0 Inv Q i o)
    (hend : ∀ D v w, (∀ j, j < ops.size → D j = true) → Inv D v w → Q .normal (putL v 0 ops.toList a0) w) : (Code.region id ops true).wp P Q a0 w0 := by
  refine wp_region_any hm ?_
  have e : (fun j => (Array.replicate ops.size false).getD j false) = (fun _ => false) := by
    funext j
    by_cases hj : j < ops.size <;> simp [hj]
  refine wpAny_inv hok Inv hstep hend ops.size _ a0 _ (fun _ => undef) (by simp) ?_ (by rw [e]; exact h0) ?_
  · unfold unl
    exact Nat.le_trans (List.length_filter_le _ _) (by simp)
  · rw [e]
    exact Fr.init a0 _
/-- What an operation owes that may come behind the one that writes. -/
def LateOk (P : Program) (ops : Array Oper) (a0 : Act) (w0 : World) (Post : World → Prop) (Pr : Nat → Value → World → Prop) (ks : List Nat) (i : Nat) (o : Oper) : Prop :=
  ∀ (ev : Operand → Value) (w : World) (v : Nat → Value), (RB w0 w ∨ Post w) → EvOk ops a0 o v ev → (∀ j, j ∈ ks → waitsB o j = true → Pr j (v j) w) → ∃ u w', (execOp ev o).run P w = .ok (.value u) w' ∧ RB w w' ∧ Pr i u w'
/-- What the one that writes owes. -/
def MidOk (P : Program) (ops : Array Oper) (a0 : Act) (w0 : World) (Rx : World → World → Prop) (Post : World → Prop) (Pr : Nat → Value → World → Prop) (i : Nat) (o : Oper) : Prop :=
  ∀ (a : Act) (w : World) (v : Nat → Value) (Q : Exit → Act → World → Prop), RB w0 w → EvOk ops a0 o v a.eval → (∀ j, j < ops.size → waitsB o j = true → Pr j (v j) w) → o.wp P a w (fun a' w' => ∃ u, a' = a.put o.dst u ∧ Rx w w' ∧ Post w' ∧ Pr i u w') Q
theorem MidOk.val {a0 : Act} {w0 : World} {Rx : World → World → Prop} {Post : World → Prop} {Pr : Nat → Value → World → Prop} {i : Nat} {o : Oper}
    (h : ∀ (ev : Operand → Value) (w : World) (v : Nat → Value), RB w0 w → EvOk ops a0 o v ev → (∀ j, j < ops.size → waitsB o j = true → Pr j (v j) w) → ∃ u w', (execOp ev o).run P w = .ok (.value u) w' ∧ Rx w w' ∧ Post w' ∧ Pr i u w') : MidOk P ops a0 w0 Rx Post Pr i o := by
  intro a w v Q hR E pr
  obtain ⟨u, w', hr, h1, h2, h3⟩ := h a.eval w v hR E pr
  unfold Oper.wp
  rw [hr]
  exact ⟨u, rfl, h1, h2, h3⟩
theorem MidOk.call {a0 : Act} {w0 : World} {Rx : World → World → Prop} {Post : World → Prop} {Pr : Nat → Value → World → Prop} {i : Nat} {o : Oper}
    (h : ∀ (ev : Operand → Value) (w : World) (v : Nat → Value), RB w0 w → EvOk ops a0 o v ev → (∀ j, j < ops.size → waitsB o j = true → Pr j (v j) w) → ∃ f args, (execOp ev o).run P w = .ok (.enter f args) w ∧ Calls P f args w fun e w' => ∃ u, e = .returned u ∧ Rx w w' ∧ Post w' ∧ Pr i u w') : MidOk P ops a0 w0 Rx Post Pr i o := by
  intro a w v Q hR E pr
  obtain ⟨f, args, hr, hc⟩ := h a.eval w v hR E pr
  unfold Oper.wp
  rw [hr]
  refine Calls.mono hc ?_
  rintro e w' ⟨u, rfl, h1, h2, h3⟩
  exact ⟨u, rfl, h1, h2, h3⟩
/-- Of every operation but the last: number kx, one that is awaited by it (early), or one that waits for none but these that are kept. -/
def midOkB (ops : Array Oper) (kx : Nat) (early keep : List Nat) : Bool :=
  keep.all (fun i => decide (i + 1 < ops.size)) && (List.range (ops.size - 1)).all fun i => match ops[i]? with
    | none => true
    | some o => o.guard.isNone && (i == kx || (if early.contains i then (decide (i < kx) && (List.range (kx + 1)).any fun j => decide (i < j) && ((j == kx || early.contains j) && match ops[j]? with | none => false | some p => waitsB p i)) else keep.contains i))
theorem waitsB_iff {o : Oper} {j : Nat} : waitsB o j = true ↔ waitsFor o j := ⟨waitsB_for, fun ⟨e, he, hb, hj⟩ => by
  unfold waitsB
  rw [Array.any_eq_true']
  exact ⟨e, he, by simp [hb, hj]⟩⟩
set_option maxHeartbeats 1000000 in
theorem region_mid {id : Nat} {a0 : Act} {w0 : World} (hm : P.follows .mixedOrders = true) (hok : ordersOk ops = true) (haw : eachAwaited ops = true) (kx : Nat) (early keep : List Nat) (hmid : midOkB ops kx early keep = true) (hkx : Nat.blt kx (ops.size - 1) = true)
    (Rx : World → World → Prop) (Post : World → Prop) (hPost : ∀ w w', Post w → RB w w' → Post w') (l : List (Value → World → Prop)) (hPr : allMono RB l) (hll : l.length = ops.size - 1)
    (hkeep : ∀ i, i ∈ keep → ∀ v w w', prAt l i v w → Rx w w' → prAt l i v w')
    (hearly : ∀ i, i ∈ early → ∀ o, ops[i]? = some o → OpOk P ops a0 w0.drew RB (prAt l) i o) (hlate : ∀ i, i + 1 < ops.size → i ≠ kx → i ∉ early → ∀ o, ops[i]? = some o → LateOk P ops a0 w0.drew Post (prAt l) (kx :: keep) i o)
    (hx : ∀ o, ops[kx]? = some o → MidOk P ops a0 w0.drew Rx Post (prAt l) kx o)
    (o9 : Oper) (ho9 : ops[ops.size - 1]? = some o9) (hg9 : o9.guard = none) (hd9 : o9.dst = none)
    (Fin : (Nat → Value) → World → Prop)
    (hstore : ∀ (ev : Operand → Value) (w' : World) (v : Nat → Value), Post w' → EvOk ops a0 o9 v ev → (∀ i, i ∈ kx :: keep → prAt l i (v i) w') → ∃ w'', (execOp ev o9).run P w' = .ok .skip w'' ∧ ∀ v', (∀ i, i + 1 < ops.size → v' i = v i) → Fin v' w'')
    (hend : ∀ v w'', Fin v w'' → Q .normal (putL v 0 ops.toList a0) w'') : (Code.region id ops true).wp P Q a0 w0 := by
  have hkx' : kx < ops.size - 1 := Nat.le_of_ble_eq_true hkx
  have h9 : ops.size - 1 < ops.size := (Array.getElem?_eq_some_iff.1 ho9).1
  simp only [midOkB, Bool.and_eq_true, List.all_eq_true, List.mem_range, decide_eq_true_eq] at hmid
  obtain ⟨keepB, hmid⟩ := hmid
  have guardN : ∀ (i : Nat) (o : Oper), ops[i]? = some o → o.guard = none := fun i o ho => by
    have hil : i < ops.size := (Array.getElem?_eq_some_iff.1 ho).1
    by_cases hi9 : i = ops.size - 1
    · rw [hi9, ho9] at ho
      cases ho
      exact hg9
    · have := hmid i (by omega)
      rw [ho] at this
      simp only [Bool.and_eq_true, Option.isNone_iff_eq_none] at this
      exact this.1
  have lateIs : ∀ (i : Nat) (o : Oper), ops[i]? = some o → i + 1 < ops.size → i ≠ kx → i ∉ early → i ∈ keep := fun i o ho hi hne hE => by
    have := hmid i (by omega)
    rw [ho] at this
    simp only [Bool.and_eq_true, Bool.or_eq_true, beq_iff_eq, hne, false_or] at this
    have h2 := this.2
    rw [if_neg (by simpa using hE)] at h2
    simpa using h2
  have earlyIs : ∀ i, i ∈ early → i < ops.size - 1 → i ≠ kx → i < kx ∧ ∃ j p, i < j ∧ j ≤ kx ∧ (j = kx ∨ j ∈ early) ∧ ops[j]? = some p ∧ waitsFor p i := fun i hE hi hne => by
    have hoi : ops[i]? = some ops[i] := by simp
    have := hmid i hi
    rw [hoi] at this
    simp only [Bool.and_eq_true, Bool.or_eq_true, beq_iff_eq, hne, false_or] at this
    have h2 := this.2
    rw [if_pos (by simpa using hE)] at h2
    simp only [Bool.and_eq_true, decide_eq_true_eq, List.any_eq_true, List.mem_range, Bool.or_eq_true, beq_iff_eq] at h2
    obtain ⟨h3, j, hj, hij, hjk, hwj⟩ := h2
    refine ⟨h3, j, ?_⟩
    cases hp : ops[j]? with
    | none => rw [hp] at hwj; cases hwj
    | some p =>
      rw [hp] at hwj
      exact ⟨p, hij, by omega, hjk.imp (fun q => q) (by simp), rfl, waitsB_for hwj⟩
  have earlyD : ∀ (D : Nat → Bool), (∀ i o j, ops[i]? = some o → D i = true → waitsFor o j → D j = true) → D kx = true → ∀ n i, i + n = kx → i ∈ early → i < ops.size - 1 → D i = true := by
    intro D hC hDx n
    induction n using Nat.strongRecOn with
    | ind n ih =>
      intro i hin hE hi
      by_cases hne : i = kx
      · rw [hne]; exact hDx
      obtain ⟨_, j, p, hij, hjk, hjE, hp, hwj⟩ := earlyIs i hE hi hne
      refine hC j p i hp ?_ hwj
      rcases hjE with rfl | hjE
      · exact hDx
      · exact ih (kx - j) (by omega) j (by omega) hjE (by omega)
  -- the last one is awaited by none, and waits for all, step by step
  have allD : ∀ (D : Nat → Bool), (∀ i o j, ops[i]? = some o → D i = true → waitsFor o j → D j = true) → (∀ j, waitsFor o9 j → D j = true) → ∀ n j, j + 1 + n = ops.size - 1 → D j = true := by
    intro D hC h9w n
    induction n using Nat.strongRecOn with
    | ind n ih =>
      intro j hj
      obtain ⟨i, o, ho, hji, hwj⟩ := eachAwaited_spec haw (j := j) (by omega)
      have hil : i < ops.size := (Array.getElem?_eq_some_iff.1 ho).1
      by_cases hi9 : i = ops.size - 1
      · rw [hi9, ho9] at ho
        cases ho
        exact h9w j hwj
      · exact hC i o j ho (ih (ops.size - 1 - 1 - i) (by omega) i (by omega)) hwj
  let Inv : (Nat → Bool) → (Nat → Value) → World → Prop := fun D v w =>
    (∀ i o j, ops[i]? = some o → D i = true → waitsFor o j → D j = true) ∧
    (if D (ops.size - 1) = true then Fin v w else if D kx = true then Post w ∧ ∀ i, i ∈ kx :: keep → D i = true → prAt l i (v i) w else RB w0.drew w ∧ ∀ i, i + 1 < ops.size → D i = true → prAt l i (v i) w)
  refine region_inv hm hok Inv ⟨fun _ _ _ _ h => (Bool.noConfusion h), ?_⟩ ?_ ?_
  · simp only [Bool.false_eq_true, if_false]
    exact ⟨RB.refl _, fun _ _ h => h.elim⟩
  · intro i o ho a D v w hDi hDw hI hE
    obtain ⟨hC, hI⟩ := hI
    have hil : i < ops.size := (Array.getElem?_eq_some_iff.1 ho).1
    rw [if_pos (by unfold Region.wanted; rw [guardN i o ho])]
    have hC' : ∀ i' o' j, ops[i']? = some o' → (if i' = i then true else D i') = true → waitsFor o' j → (if j = i then true else D j) = true := fun i' o' j ho' hd hw => by
      by_cases hji : j = i
      · simp [hji]
      · simp only [hji, if_false]
        by_cases hii : i' = i
        · subst hii
          rw [ho] at ho'
          cases ho'
          exact hDw j hw
        · simp only [hii, if_false] at hd
          exact hC i' o' j ho' hd hw
    have hnl : i ≠ ops.size - 1 → D (ops.size - 1) = false := fun hne => by
      rcases Bool.eq_false_or_eq_true (D (ops.size - 1)) with q | q
      · exfalso
        have := allD D hC (fun j hj => hC _ _ j ho9 q hj) (ops.size - 1 - 1 - i) i (by omega)
        rw [hDi] at this
        cases this
      · exact q
    by_cases hi9 : i = ops.size - 1
    · have ho' : o = o9 := by rw [hi9, ho9] at ho; exact (Option.some.inj ho).symm
      subst ho'
      have hall := allD D hC hDw
      have hDx : D kx = true := hall (ops.size - 1 - 1 - kx) kx (by omega)
      rw [if_neg (by rw [← hi9, hDi]; simp), if_pos hDx] at hI
      obtain ⟨w'', hr, hF⟩ := hstore a.eval w v hI.1 hE (fun k hk => hI.2 k hk (by
        by_cases hk9 : k + 1 < ops.size
        · exact hall (ops.size - 1 - 1 - k) k (by omega)
        · exfalso
          rcases List.mem_cons.1 hk with rfl | hk
          · omega
          · exact absurd (keepB k hk) hk9))
      unfold Oper.wp
      rw [hr]
      simp only [Oper.upon, hd9]
      refine ⟨undef, by simp [Act.put], hC', ?_⟩
      rw [if_pos (by simp [hi9])]
      exact hF _ (fun k hk => by rw [if_neg (by omega)])
    · have hD9 := hnl hi9
      have hD9' : (if ops.size - 1 = i then true else D (ops.size - 1)) = false := by rw [if_neg (fun q => hi9 q.symm), hD9]
      rw [if_neg (by rw [hD9]; simp)] at hI
      by_cases hix : i = kx
      · subst hix
        rw [if_neg (by rw [hDi]; simp)] at hI
        refine Oper.wp_mono ?_ (hx o ho a w v Q hI.1 hE (fun j hj hw => hI.2 j (by have := (ordersOk_spec hok ho).1 j (waitsB_for hw); omega) (hDw j (waitsB_for hw))))
        rintro a' w' ⟨u, e, h1, h2, h3⟩
        refine ⟨u, e, hC', ?_⟩
        dsimp only
        rw [if_neg (by rw [hD9']; simp), if_pos (by simp)]
        refine ⟨h2, fun k hk hdk => ?_⟩
        by_cases hki : k = i
        · subst hki; simp only [if_true]; exact h3
        · simp only [hki, if_false] at hdk ⊢
          rcases List.mem_cons.1 hk with q | hk
          · exact absurd q hki
          · have hk1 : k + 1 < ops.size := keepB k hk
            exact hkeep k hk _ _ _ (hI.2 k hk1 hdk) h1
      · have hxe : (if kx = i then true else D kx) = D kx := if_neg (fun q => hix q.symm)
        by_cases hE' : i ∈ early
        · have hDx : D kx = false := by
            rcases Bool.eq_false_or_eq_true (D kx) with q | q
            · exfalso
              have h1 := (earlyIs i hE' (by omega) hix).1
              have := earlyD D hC q (kx - i) i (by omega) hE' (by omega)
              rw [hDi] at this
              cases this
            · exact q
          rw [if_neg (by rw [hDx]; simp)] at hI
          have hO := hearly i hE' o ho a w v Q hI.1 (fun j p d hj hd hlt hwj => hE.at_ j d (by rw [hj]; exact hd) (waitsB_iff.2 hwj) hlt) (fun j hj hwj => hI.2 j (by have := (ordersOk_spec hok ho).1 j hwj; omega) (hDw j hwj)) (fun d hno => by
            have : noDstB ops d = true := by
              unfold noDstB
              rw [Array.all_eq_true']
              intro p hp
              obtain ⟨j, hj⟩ := Array.mem_iff_getElem?.1 hp
              simpa using hno j p hj
            exact hE.old d this)
          rw [if_pos (by unfold Region.wanted; rw [guardN i o ho])] at hO
          refine Oper.wp_mono ?_ hO
          rintro a' w' ⟨u, e, h1, h2⟩
          refine ⟨u, e, hC', ?_⟩
          dsimp only
          rw [if_neg (by rw [hD9']; simp), if_neg (by rw [hxe, hDx]; simp)]
          refine ⟨RB.trans _ _ _ hI.1 h1, fun k hk hdk => ?_⟩
          by_cases hki : k = i
          · subst hki; simp only [if_true]; exact h2
          · simp only [hki, if_false] at hdk ⊢
            exact allMono_at hPr k _ _ _ (hI.2 k hk hdk) h1
        · have hkp := lateIs i o ho (by omega) hix hE'
          have hpr : ∀ j, j ∈ kx :: keep → waitsB o j = true → prAt l j (v j) w := fun j hj hw => by
            have hw' := waitsB_for hw
            have hd := hDw j hw'
            split at hI
            · exact hI.2 j hj hd
            · exact hI.2 j (by have := (ordersOk_spec hok ho).1 j hw'; omega) hd
          obtain ⟨u, w', hr, h1, h2⟩ := hlate i (by omega) hix hE' o ho a.eval w v (by
            split at hI
            · exact .inr hI.1
            · exact .inl hI.1) hE hpr
          unfold Oper.wp
          rw [hr]
          refine ⟨u, rfl, hC', ?_⟩
          dsimp only
          rw [if_neg (by rw [hD9']; simp)]
          split at hI
          · next hDx =>
            rw [if_pos (by rw [hxe]; exact hDx)]
            refine ⟨hPost _ _ hI.1 h1, fun k hk hdk => ?_⟩
            by_cases hki : k = i
            · subst hki; simp only [if_true]; exact h2
            · simp only [hki, if_false] at hdk ⊢
              exact allMono_at hPr k _ _ _ (hI.2 k hk hdk) h1
          · next hDx =>
            rw [if_neg (by rw [hxe]; exact hDx)]
            refine ⟨RB.trans _ _ _ hI.1 h1, fun k hk hdk => ?_⟩
            by_cases hki : k = i
            · subst hki; simp only [if_true]; exact h2
            · simp only [hki, if_false] at hdk ⊢
              exact allMono_at hPr k _ _ _ (hI.2 k hk hdk) h1
  · intro D v w hall hI
    obtain ⟨_, hI⟩ := hI
    rw [if_pos (hall _ h9)] at hI
    exact hend v w hI
end

end Go.Proofs.YticckgmkhgnmfaaDoor
