/-
  A map that is weighed anew is as right as it was; what Recustomize answers: the plain part.
-/
import Derived.Test.YtmnohgcjdhokdahPack2
import Derived.Test.YtmnohgcjdhokdahCusEP
import Derived.Test.YtmnohgcjdhokdahPack7
set_option linter.unusedVariables false
set_option linter.unusedSimpArgs false
namespace Go.Proofs.Ytmnohgcjdhokdah

theorem ord_w {p : Int} {n : Nat} {F T G H : Nat → Int} {k : Nat} {P : Nat → Int} (h : ordB p n F T G k P = true) (hg : graphB p n F T H = true) : ordB p n F T H k P = true := by
  have h1 := ordB_parts h
  unfold ordB at h ⊢
  simp [h1.2.1, hg] at h ⊢
  exact h

/-- Recustomize goes through. -/
def RcOk (p : Int) (n : Nat) (F T G : Nat → Int) (k : Nat) (P : Nat → Int) (m : Nat) (L H : Nat → Int) (u : Nat) (U : Nat → Int) (v : Nat) (V : Nat → Int) (ok : Bool) : Prop :=
  ok = true ∧ HOk p n F T G k P m L H ∧ SameI m u (cusT p n F T G P).1 U ∧ SameI m v (cusT p n F T G P).2 V

end Go.Proofs.Ytmnohgcjdhokdah
