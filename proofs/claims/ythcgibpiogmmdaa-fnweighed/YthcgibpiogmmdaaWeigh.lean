/-
  WeightOf: the document's and the program's, each held against one plain function of the arcs.
-/
import Derived.Test.YthcgibpiogmmdaaNums
import Derived.Test.YthcgibpiogmmdaaOkP
import Derived.Test.YthcgibpiogmmdaaLWeigh
set_option linter.unusedVariables false
set_option linter.unusedSimpArgs false
namespace Go.Proofs.Ythcgibpiogmmdaa
open Go.RowKit Go.Maps

def wOf (p : Int) (n : Nat) (F T G : Nat → Int) (a b : Int) : Int := if graphB p n F T G then lastW F T G a b n else 1000000000000
theorem wf_small {p : Int} {F T G : Nat → Int} {n : Nat} (hp : inB p 1 24 = true) (h : arcsB p F T G n = true) : WfTo F T n := fun k hk => by
  have := (arcsB_each n h k hk).1
  simp [arcB, inB] at this hp
  exact ⟨WalkArith.wf_i64 (by omega), WalkArith.wf_i64 (by omega)⟩

end Go.Proofs.Ythcgibpiogmmdaa
