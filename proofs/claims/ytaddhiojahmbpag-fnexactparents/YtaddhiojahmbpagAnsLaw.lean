/-
  What stands between the calls of a law whose answer is a list of numbers.
-/
import Derived.Test.YtaddhiojahmbpagAns
import Derived.Test.YtaddhiojahmbpagIntsLaw
set_option linter.unusedVariables false
set_option linter.unusedSimpArgs false
namespace Go.Proofs.Ytaddhiojahmbpag
open Go.ChangeShapes Go.WideShapes Go.ChangeAt Go.RowKit Go.Deep Go.Joins

theorem irow_of {W : World} {ao : Option Addr} {m b : Nat} {D : Nat → Int} (ha : 0 < m → ao = some ⟨b, 0, none⟩) (h : 0 < m → IHas W b m D) : IRow W ao m D := fun k hk => by
  rw [ha (by omega)]
  exact (h (by omega)).row k hk

/-- What stands between the law's calls: the law's argument, the list that the document answers, the list that the program answers. -/
structure SD (B : Nat) (W0 W : World) (m : Nat) (D f : Nat → Int) (gw bg : Nat) : Prop where
  hA : Below B W0 W
  doc : 0 < m → IHas W gw m D
  own : 0 < m → IHas W bg m f
theorem SD.next {B : Nat} {W0 W W' : World} {m : Nat} {D f : Nat → Int} {gw bg : Nat} (h : SD B W0 W m D f gw bg) (hB : B ≤ W0.heap.size) (hb : Below W.heap.size W W') : SD B W0 W' m D f gw bg :=
  ⟨below_next h.hA hB hb, fun hm => (h.doc hm).below hb (h.doc hm).lt, fun hm => (h.own hm).below hb (h.own hm).lt⟩
theorem SD.aside {B : Nat} {W0 W W' : World} {m b : Nat} {D f : Nat → Int} {gw bg : Nat} (h : SD B W0 W m D f gw bg) (hB : B ≤ W0.heap.size) (hg : W.grownBy W' (some b)) (hb : B ≤ b) (h1 : gw ≠ b) (h2 : bg ≠ b) : SD B W0 W' m D f gw bg :=
  ⟨h.hA.trans (gr_below hg hb (Nat.le_trans hB h.hA.size)), fun hm => (h.doc hm).grown hg (by simp; exact h1), fun hm => (h.own hm).grown hg (by simp; exact h2)⟩
theorem SD.marked {B : Nat} {W0 W W' : World} {m : Nat} {D f f' : Nat → Int} {gw bg : Nat} (h : SD B W0 W m D f gw bg) (hB : B ≤ W0.heap.size) (hg : W.grownBy W' (some bg)) (hn : 0 < m → IHas W' bg m f') (hb : B ≤ bg) (h1 : gw ≠ bg) : SD B W0 W' m D f' gw bg :=
  ⟨h.hA.trans (gr_below hg hb (Nat.le_trans hB h.hA.size)), fun hm => (h.doc hm).grown hg (by simp; exact h1), hn⟩

end Go.Proofs.Ytaddhiojahmbpag
