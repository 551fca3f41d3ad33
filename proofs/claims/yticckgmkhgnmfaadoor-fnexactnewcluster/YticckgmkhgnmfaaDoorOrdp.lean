/-
  A region that draws its order, one operation of which stores: what comes behind it reads alone.
-/
import Derived.Test.YticckgmkhgnmfaaDoorOrdi
set_option linter.unusedVariables false
set_option linter.unusedSimpArgs false
namespace Go.Proofs.YticckgmkhgnmfaaDoor
open Go

section
variable {P : Program} {ops : Array Oper} {Q : Exit → Act → World → Prop}
/-- Of every operation: number kx, one that is awaited by it (early), or one that is kept. -/
def putOkB (ops : Array Oper) (kx : Nat) (early keep : List Nat) : Bool :=
  !keep.contains kx && (List.range ops.size).all fun i => match ops[i]? with
    | none => true
    | some o => o.guard.isNone && (i == kx || (if early.contains i then (decide (i < kx) && (List.range (kx + 1)).any fun j => decide (i < j) && ((j == kx || early.contains j) && match ops[j]? with | none => false | some p => waitsB p i)) else keep.contains i))
set_option maxHeartbeats 1000000 in
theorem region_put {id : Nat} {a0 : Act} {w0 : World} (hm : P.follows .mixedOrders = true) (hok : ordersOk ops = true) (kx : Nat) (early keep : List Nat) (hmid : putOkB ops kx early keep = true) (hkx : Nat.blt kx ops.size = true)
    (Rx : World → World → Prop) (Post : World → Prop) (hPost : ∀ w w', Post w → RB w w' → Post w') (l : List (Value → World → Prop)) (hPr : allMono RB l)
    (hkeep : ∀ i, i ∈ keep → ∀ v w w', prAt l i v w → Rx w w' → prAt l i v w')
    (hearly : ∀ i, i ∈ early → ∀ o, ops[i]? = some o → OpOk P ops a0 w0.drew RB (prAt l) i o) (hlate : ∀ i, i < ops.size → i ≠ kx → i ∉ early → ∀ o, ops[i]? = some o → LateOk P ops a0 w0.drew Post (prAt l) keep i o)
    (o9 : Oper) (ho9 : ops[kx]? = some o9) (hd9 : o9.dst = none)
    (hstore : ∀ (ev : Operand → Value) (w' : World) (v : Nat → Value), RB w0.drew w' → EvOk ops a0 o9 v ev → (∀ j, j < ops.size → waitsB o9 j = true → prAt l j (v j) w') → ∃ w'', (execOp ev o9).run P w' = .ok .skip w'' ∧ Rx w' w'' ∧ Post w'')
    (hend : ∀ v w'', Post w'' → (∀ i, i ∈ keep → i < ops.size → i ≠ kx → prAt l i (v i) w'') → Q .normal (putL v 0 ops.toList a0) w'') : (Code.region id ops true).wp P Q a0 w0 := by
  have hkx' : kx < ops.size := Nat.le_of_ble_eq_true hkx
  simp only [putOkB, Bool.and_eq_true, List.all_eq_true, List.mem_range] at hmid
  obtain ⟨hkk, hmid⟩ := hmid
  have hkk' : kx ∉ keep := by simpa using hkk
  have guardN : ∀ (i : Nat) (o : Oper), ops[i]? = some o → o.guard = none := fun i o ho => by
    have hil : i < ops.size := (Array.getElem?_eq_some_iff.1 ho).1
    have := hmid i hil
    rw [ho] at this
    simp only [Bool.and_eq_true, Option.isNone_iff_eq_none] at this
    exact this.1
  have earlyIs : ∀ i, i ∈ early → i < ops.size → i ≠ kx → i < kx ∧ ∃ j p, i < j ∧ j ≤ kx ∧ (j = kx ∨ j ∈ early) ∧ ops[j]? = some p ∧ waitsFor p i := fun i hE hi hne => by
    have hoi : ops[i]? = some ops[i] := by simp
    have := hmid i hi
    rw [hoi] at this
    simp only [Bool.and_eq_true, Bool.or_eq_true, beq_iff_eq, hne, false_or] at this
    have h2 := this.2
    rw [if_pos (by simpa using hE)] at h2
    simp only [Bool.and_eq_true, decide_eq_true_eq, List.any_eq_true, List.mem_range, Bool.or_eq_true, beq_iff_eq] at h2
    obtain ⟨h3, j, hj, hij, hjk, hwj⟩ := h2
    refine ⟨h3, j, ?_⟩
    cases hp : ops[j]? with
    | none => rw [hp] at hwj; cases hwj
    | some p =>
      rw [hp] at hwj
      exact ⟨p, hij, by omega, hjk.imp (fun q => q) (by simp), rfl, waitsB_for hwj⟩
  have earlyD : ∀ (D : Nat → Bool), (∀ i o j, ops[i]? = some o → D i = true → waitsFor o j → D j = true) → D kx = true → ∀ n i, i + n = kx → i ∈ early → i < ops.size → D i = true := by
    intro D hC hDx n
    induction n using Nat.strongRecOn with
    | ind n ih =>
      intro i hin hE hi
      by_cases hne : i = kx
      · rw [hne]; exact hDx
      obtain ⟨_, j, p, hij, hjk, hjE, hp, hwj⟩ := earlyIs i hE hi hne
      refine hC j p i hp ?_ hwj
      rcases hjE with rfl | hjE
      · exact hDx
      · exact ih (kx - j) (by omega) j (by omega) hjE (by omega)
  let Inv : (Nat → Bool) → (Nat → Value) → World → Prop := fun D v w =>
    (∀ i o j, ops[i]? = some o → D i = true → waitsFor o j → D j = true) ∧
    (if D kx = true then Post w ∧ ∀ i, i ∈ keep → i ≠ kx → D i = true → prAt l i (v i) w else RB w0.drew w ∧ ∀ i, i ≠ kx → D i = true → prAt l i (v i) w)
  refine region_inv hm hok Inv ⟨fun _ _ _ _ h => (Bool.noConfusion h), ?_⟩ ?_ ?_
  · simp only [Bool.false_eq_true, if_false]
    exact ⟨RB.refl _, fun _ _ h => h.elim⟩
  · intro i o ho a D v w hDi hDw hI hE
    obtain ⟨hC, hI⟩ := hI
    have hil : i < ops.size := (Array.getElem?_eq_some_iff.1 ho).1
    rw [if_pos (by unfold Region.wanted; rw [guardN i o ho])]
    have hC' : ∀ i' o' j, ops[i']? = some o' → (if i' = i then true else D i') = true → waitsFor o' j → (if j = i then true else D j) = true := fun i' o' j ho' hd hw => by
      by_cases hji : j = i
      · simp [hji]
      · simp only [hji, if_false]
        by_cases hii : i' = i
        · subst hii
          rw [ho] at ho'
          cases ho'
          exact hDw j hw
        · simp only [hii, if_false] at hd
          exact hC i' o' j ho' hd hw
    by_cases hix : i = kx
    · subst hix
      have ho' : o = o9 := by rw [ho9] at ho; exact (Option.some.inj ho).symm
      subst ho'
      rw [if_neg (by rw [hDi]; simp)] at hI
      obtain ⟨w'', hr, h1, h2⟩ := hstore a.eval w v hI.1 hE (fun j hj hw => hI.2 j (fun q => by have := (ordersOk_spec hok ho).1 j (waitsB_for hw); omega) (hDw j (waitsB_for hw)))
      unfold Oper.wp
      rw [hr]
      simp only [Oper.upon, hd9]
      refine ⟨undef, by simp [Act.put], hC', ?_⟩
      dsimp only
      rw [if_pos (by simp)]
      refine ⟨h2, fun k hk hki hdk => ?_⟩
      simp only [hki, if_false] at hdk ⊢
      exact hkeep k hk _ _ _ (hI.2 k hki hdk) h1
    · have hxe : (if kx = i then true else D kx) = D kx := if_neg (fun q => hix q.symm)
      by_cases hE' : i ∈ early
      · have hDx : D kx = false := by
          rcases Bool.eq_false_or_eq_true (D kx) with q | q
          · exfalso
            have h1 := (earlyIs i hE' hil hix).1
            have := earlyD D hC q (kx - i) i (by omega) hE' hil
            rw [hDi] at this
            cases this
          · exact q
        rw [if_neg (by rw [hDx]; simp)] at hI
        have hO := hearly i hE' o ho a w v Q hI.1 (fun j p d hj hd hlt hwj => hE.at_ j d (by rw [hj]; exact hd) (waitsB_iff.2 hwj) hlt) (fun j hj hwj => hI.2 j (fun q => by have h1 := (ordersOk_spec hok ho).1 j hwj; have h2 := (earlyIs i hE' hil hix).1; omega) (hDw j hwj)) (fun d hno => by
          have : noDstB ops d = true := by
            unfold noDstB
            rw [Array.all_eq_true']
            intro p hp
            obtain ⟨j, hj⟩ := Array.mem_iff_getElem?.1 hp
            simpa using hno j p hj
          exact hE.old d this)
        rw [if_pos (by unfold Region.wanted; rw [guardN i o ho])] at hO
        refine Oper.wp_mono ?_ hO
        rintro a' w' ⟨u, e, h1, h2⟩
        refine ⟨u, e, hC', ?_⟩
        dsimp only
        rw [if_neg (by rw [hxe, hDx]; simp)]
        refine ⟨RB.trans _ _ _ hI.1 h1, fun k hk hdk => ?_⟩
        by_cases hki : k = i
        · subst hki; simp only [if_true]; exact h2
        · simp only [hki, if_false] at hdk ⊢
          exact allMono_at hPr k _ _ _ (hI.2 k hk hdk) h1
      · have hkp : i ∈ keep := by
          have := hmid i hil
          rw [ho] at this
          simp only [Bool.and_eq_true, Bool.or_eq_true, beq_iff_eq, hix, false_or] at this
          have h2 := this.2
          rw [if_neg (by simpa using hE')] at h2
          simpa using h2
        have hpr : ∀ j, j ∈ keep → waitsB o j = true → (j ≠ kx → prAt l j (v j) w) := fun j hj hw hjk => by
          have hd := hDw j (waitsB_for hw)
          split at hI
          · exact hI.2 j hj hjk hd
          · exact hI.2 j hjk hd
        obtain ⟨u, w', hr, h1, h2⟩ := hlate i hil hix hE' o ho a.eval w v (by
          split at hI
          · exact .inr hI.1
          · exact .inl hI.1) hE (fun j hj hw => by
            by_cases hjk : j = kx
            · exact absurd (hjk ▸ hj) hkk'
            · exact hpr j hj hw hjk)
        unfold Oper.wp
        rw [hr]
        refine ⟨u, rfl, hC', ?_⟩
        dsimp only
        split at hI
        · next hDx =>
          rw [if_pos (by rw [hxe]; exact hDx)]
          refine ⟨hPost _ _ hI.1 h1, fun k hk hkk hdk => ?_⟩
          by_cases hki : k = i
          · subst hki; simp only [if_true]; exact h2
          · simp only [hki, if_false] at hdk ⊢
            exact allMono_at hPr k _ _ _ (hI.2 k hk hkk hdk) h1
        · next hDx =>
          rw [if_neg (by rw [hxe]; exact hDx)]
          refine ⟨RB.trans _ _ _ hI.1 h1, fun k hkk hdk => ?_⟩
          by_cases hki : k = i
          · subst hki; simp only [if_true]; exact h2
          · simp only [hki, if_false] at hdk ⊢
            exact allMono_at hPr k _ _ _ (hI.2 k hkk hdk) h1
  · intro D v w hall hI
    obtain ⟨_, hI⟩ := hI
    rw [if_pos (hall _ hkx')] at hI
    exact hend v w hI.1 (fun i hi hlt hne => hI.2 i hi hne (hall i hlt))
end

end Go.Proofs.YticckgmkhgnmfaaDoor
