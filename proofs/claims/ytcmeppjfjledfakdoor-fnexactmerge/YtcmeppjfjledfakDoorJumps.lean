/-
  A scope in which the run jumps to several labels: what holds at each label's jumps, and a measure that each pass from a label lowers.
-/
import Derived.Test.YtcmeppjfjledfakDoorRows
import Derived.Scope
set_option linter.unusedVariables false
set_option linter.unusedSimpArgs false
namespace Go.Proofs.YtcmeppjfjledfakDoor
open Go

/-- As Q; by a goto to label l: J l. -/
def jumps (J : Nat → Act → World → Prop) (Q : Exit → Act → World → Prop) : Exit → Act → World → Prop
  | .goto l, a, w => J l a w
  | e, a, w => Q e a w
section
variable {P : Program} {a : Act} {w : World} {Q : Exit → Act → World → Prop}
theorem jumps_normal (J : Nat → Act → World → Prop) : jumps J Q .normal a w = Q .normal a w := rfl
theorem jumps_exit (J : Nat → Act → World → Prop) (id : Nat) : jumps J Q (.exit id) a w = Q (.exit id) a w := rfl
theorem jumps_ret (J : Nat → Act → World → Prop) : jumps J Q .ret a w = Q .ret a w := rfl
theorem jumps_goto (J : Nat → Act → World → Prop) (l : Nat) : jumps J Q (.goto l) a w = J l a w := rfl
theorem wp_mono' {c : Code} {Q' : Exit → Act → World → Prop} (h : ∀ e a w, Q e a w → Q' e a w) (hc : c.wp P Q a w) : c.wp P Q' a w := fun b k cs =>
  let ⟨e, a₁, w₁, hq, harr⟩ := hc b k cs
  ⟨e, a₁, w₁, h _ _ _ hq, harr⟩
theorem jumps_mono {J J' : Nat → Act → World → Prop} (h : ∀ l a w, J l a w → J' l a w) : ∀ e a w, jumps J Q e a w → jumps J' Q e a w
  | .goto l, a, w, hq => h l a w hq
  | .normal, _, _, hq => hq
  | .exit _, _, _, hq => hq
  | .ret, _, _, hq => hq
  | .panic _, _, _, hq => hq
  | .outgrown, _, _, hq => hq
theorem wp_scope_many {c : Code} (J : Nat → Act → World → Prop) (μ : Nat → Act → World → Nat) (R : Nat → Code) (hf : ∀ l a w, J l a w → findLabel c l = some (R l))
    (first : c.wp P (jumps J Q) a w)
    (pass : ∀ l a w, J l a w → (R l).wp P (jumps (fun l' a' w' => J l' a' w' ∧ μ l' a' w' < μ l a w) Q) a w) : (Code.scope c).wp P Q a w := by
  intro b k cs
  have hg : ∀ l, findLabel c l = some (R l) → gotoIn l (.inScope c :: k) = some (.code (R l) :: .inScope c :: k) := fun l hf => by simp [gotoIn, hf]
  have key : ∀ n l a w, μ l a w = n → J l a w → ∃ e a' w', Q e a' w' ∧ Arrives P (lone (b.at a (.code (R l) :: .inScope c :: k)) cs w) b k cs e a' w' := by
    intro n
    induction n using Nat.strongRecOn with
    | _ n ih =>
      intro l a w hn hJ
      obtain ⟨e, a₁, w₁, hq, harr⟩ := pass l a w hJ b (.inScope c :: k) cs
      cases e with
      | normal => exact ⟨.normal, a₁, w₁, hq, Steps.trans harr (.one step_inScope)⟩
      | exit id => exact ⟨.exit id, a₁, w₁, hq, fun k' hk => harr k' (by simp [exitTo, hk])⟩
      | goto l' =>
        obtain ⟨hJ', hlt⟩ := hq
        obtain ⟨e₂, a₂, w₂, hq₂, harr₂⟩ := ih _ (by omega) l' a₁ w₁ rfl hJ'
        exact ⟨e₂, a₂, w₂, hq₂, .of_steps (harr _ (hg l' (hf l' a₁ w₁ hJ'))) harr₂⟩
      | ret => exact ⟨_, a₁, w₁, hq, harr⟩
      | panic ch => exact ⟨_, a₁, w₁, hq, harr⟩
      | outgrown => exact ⟨_, a₁, w₁, hq, harr⟩
  obtain ⟨e, a₁, w₁, hq, harr⟩ := first b (.inScope c :: k) cs
  cases e with
  | normal => exact ⟨.normal, a₁, w₁, hq, .head step_scope (Steps.trans harr (.one step_inScope))⟩
  | exit id => exact ⟨.exit id, a₁, w₁, hq, fun k' hk => .head step_scope (harr k' (by simp [exitTo, hk]))⟩
  | goto l' =>
    have hJ' : J l' a₁ w₁ := hq
    obtain ⟨e₂, a₂, w₂, hq₂, harr₂⟩ := key _ l' a₁ w₁ rfl hJ'
    exact ⟨e₂, a₂, w₂, hq₂, .of_steps (.head step_scope (harr _ (hg l' (hf l' a₁ w₁ hJ')))) harr₂⟩
  | ret => exact ⟨_, a₁, w₁, hq, .of_steps (.one step_scope) harr⟩
  | panic ch => exact ⟨_, a₁, w₁, hq, .of_steps (.one step_scope) harr⟩
  | outgrown => exact ⟨_, a₁, w₁, hq, .of_steps (.one step_scope) harr⟩
/-- Five labels' facts in one. -/
def lab5 (J0 J1 J2 J3 J4 : Act → World → Prop) : Nat → Act → World → Prop
  | 0 => J0
  | 1 => J1
  | 2 => J2
  | 3 => J3
  | 4 => J4
  | _ => fun _ _ => False
def cod5 (R0 R1 R2 R3 R4 : Code) : Nat → Code
  | 0 => R0
  | 1 => R1
  | 2 => R2
  | 3 => R3
  | _ => R4
/-- What a pass from a label owes: a fact at each jump, and a lower measure. -/
def owes (J : Nat → Act → World → Prop) (μ : Nat → Act → World → Nat) (n : Nat) (l' : Nat) (a' : Act) (w' : World) : Prop := J l' a' w' ∧ μ l' a' w' < n
theorem owes_mono {J : Nat → Act → World → Prop} {μ : Nat → Act → World → Nat} {n m : Nat} (h : n ≤ m) : ∀ l a w, owes J μ n l a w → owes J μ m l a w := fun _ _ _ ⟨h1, h2⟩ => ⟨h1, Nat.lt_of_lt_of_le h2 h⟩
theorem pass_on {c : Code} {J : Nat → Act → World → Prop} {μ : Nat → Act → World → Nat} {n m : Nat} (h : n ≤ m) (hc : c.wp P (jumps (owes J μ n) Q) a w) : c.wp P (jumps (owes J μ m) Q) a w := wp_mono' (jumps_mono (owes_mono h)) hc
theorem pass_in {c : Code} {J : Nat → Act → World → Prop} {μ : Nat → Act → World → Nat} {n : Nat} (hc : c.wp P (jumps (owes J μ n) Q) a w) : c.wp P (jumps J Q) a w := wp_mono' (jumps_mono (fun _ _ _ h => h.1)) hc
/-- A scope of five labels: 2 is the last in the text, ahead of it 3, 4, 1, 0: each pass may go on into the next one's text. -/
theorem wp_scope5 {c R0 R1 R2 R3 R4 : Code} (f0 : findLabel c 0 = some (Code.skip.seq R0)) (f1 : findLabel c 1 = some (Code.skip.seq R1)) (f2 : findLabel c 2 = some (Code.skip.seq R2)) (f3 : findLabel c 3 = some (Code.skip.seq R3)) (f4 : findLabel c 4 = some (Code.skip.seq R4))
    (J0 J1 J2 J3 J4 : Act → World → Prop) (μ : Nat → Act → World → Nat)
    (p2 : ∀ a w, J2 a w → R2.wp P (jumps (owes (lab5 J0 J1 J2 J3 J4) μ (μ 2 a w)) Q) a w)
    (p3 : (∀ a w, J2 a w → R2.wp P (jumps (owes (lab5 J0 J1 J2 J3 J4) μ (μ 2 a w)) Q) a w) → ∀ a w, J3 a w → R3.wp P (jumps (owes (lab5 J0 J1 J2 J3 J4) μ (μ 3 a w)) Q) a w)
    (p4 : (∀ a w, J3 a w → R3.wp P (jumps (owes (lab5 J0 J1 J2 J3 J4) μ (μ 3 a w)) Q) a w) → ∀ a w, J4 a w → R4.wp P (jumps (owes (lab5 J0 J1 J2 J3 J4) μ (μ 4 a w)) Q) a w)
    (p1 : (∀ a w, J4 a w → R4.wp P (jumps (owes (lab5 J0 J1 J2 J3 J4) μ (μ 4 a w)) Q) a w) → ∀ a w, J1 a w → R1.wp P (jumps (owes (lab5 J0 J1 J2 J3 J4) μ (μ 1 a w)) Q) a w)
    (p0 : ∀ a w, J0 a w → R0.wp P (jumps (owes (lab5 J0 J1 J2 J3 J4) μ (μ 0 a w)) Q) a w)
    (first : (∀ a w, J0 a w → R0.wp P (jumps (owes (lab5 J0 J1 J2 J3 J4) μ (μ 0 a w)) Q) a w) → c.wp P (jumps (lab5 J0 J1 J2 J3 J4) Q) a w) : (Code.scope c).wp P Q a w := by
  refine wp_scope_many (lab5 J0 J1 J2 J3 J4) μ (cod5 (Code.skip.seq R0) (Code.skip.seq R1) (Code.skip.seq R2) (Code.skip.seq R3) (Code.skip.seq R4)) (fun l a w h => ?_) (first p0) (fun l a w h => ?_)
  · match l, h with
    | 0, _ => exact f0
    | 1, _ => exact f1
    | 2, _ => exact f2
    | 3, _ => exact f3
    | 4, _ => exact f4
    | _ + 5, h => exact h.elim
  · match l, h with
    | 0, h => exact wp_seq (wp_skip (p0 a w h))
    | 1, h => exact wp_seq (wp_skip (p1 (p4 (p3 p2)) a w h))
    | 2, h => exact wp_seq (wp_skip (p2 a w h))
    | 3, h => exact wp_seq (wp_skip (p3 p2 a w h))
    | 4, h => exact wp_seq (wp_skip (p4 (p3 p2) a w h))
    | _ + 5, h => exact h.elim
end

end Go.Proofs.YtcmeppjfjledfakDoor
