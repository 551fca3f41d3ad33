/-
  Which commands are right: a plain function.
-/
import Derived.Test.YtcmeppjfjledfakDoorOk
set_option linter.unusedVariables false
set_option linter.unusedSimpArgs false
namespace Go.Proofs.YtcmeppjfjledfakDoor

def batB (F T G : Nat → Int) : Nat → Bool
  | 0 => true
  | k + 1 => batB F T G k && arcB (F k) (T k) (G k) 24
def batchB (F T G : Nat → Int) (n : Nat) : Bool := decide (1 ≤ n) && (decide (n ≤ 10) && batB F T G n)
/-- Whether a command is right. -/
def cmdB (K : Int) (n : Nat) (F T G : Nat → Int) (a b : Int) : Bool :=
  if K = 1 then decide (n = 0) && (decide (a = 0) && decide (b = 0))
  else if K = 2 then batchB F T G n && (decide (a = 0) && decide (b = 0))
  else if K = 3 then decide (n = 0) && (inB a 0 23 && inB b 0 23)
  else false
theorem batB_no {F T G : Nat → Int} : ∀ {n k : Nat}, k < n → arcB (F k) (T k) (G k) 24 = false → batB F T G n = false
  | 0, k, h, _ => by omega
  | n + 1, k, h, hb => by
    unfold batB
    by_cases e : k = n
    · subst e; rw [hb]; simp
    · rw [batB_no (n := n) (k := k) (by omega) hb]; simp


end Go.Proofs.YtcmeppjfjledfakDoor
