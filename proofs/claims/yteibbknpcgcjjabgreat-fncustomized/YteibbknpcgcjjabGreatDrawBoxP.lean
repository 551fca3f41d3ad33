/-
  What stands while something is drawn beside a map.
-/
import Derived.Test.YteibbknpcgcjjabGreatDrawOneP
set_option linter.unusedVariables false
set_option linter.unusedSimpArgs false
namespace Go.Proofs.YteibbknpcgcjjabGreat
open Go.RowKit Go.Maps
attribute [local go_sem ↓] Go.wp_at_zero Go.wp_at_succ

theorem Row.otherB {w w' : World} {ao : Option Addr} {n : Nat} {F T G : Nat → Int} {row : Option Nat} (h : Row w ao n F T G) (hg : w.grownBy w' row) (hB : ∀ a, ao = some a → 0 < n → some a.block ≠ row) : Row w' ao n F T G := fun k hk => by
  obtain ⟨b', o, e, c0, c1, c2⟩ := h k hk
  have hne := hB _ e (by omega)
  exact ⟨b', o, e, hg.cell c0 hne, hg.cell c1 hne, hg.cell c2 hne⟩
theorem IRow.other {w w' : World} {ao : Option Addr} {n : Nat} {f : Nat → Int} {row : Option Nat} (h : IRow w ao n f) (hg : w.grownBy w' row) (hB : ∀ a, ao = some a → 0 < n → some a.block ≠ row) : IRow w' ao n f := fun k hk => by
  obtain ⟨b', o, e, c0⟩ := h k hk
  have hne := hB _ e (by omega)
  exact ⟨b', o, e, hg.cell c0 hne⟩
/-- A map that was drawn: its arcs in new memory. -/
def Drawn (w w' : World) (ao : Option Addr) (n : Nat) : Prop := ∃ F T G : Nat → Int, Row w' ao n F T G ∧ ∀ a, ao = some a → 0 < n → w.heap.size ≤ a.block
theorem drawn_of {w w' : World} {base n cap : Nat} {ao : Option Addr} (h : AOwnE w' base ao n cap) (hb : w.heap.size ≤ base) : Drawn w w' ao n := by
  obtain ⟨F, T, G, hr, hg⟩ := h.row
  refine ⟨F, T, G, hr, fun a e hn => ?_⟩
  obtain ⟨g, e', hg'⟩ := hg hn
  rw [e] at e'
  cases e'
  exact Nat.le_trans hb hg'
theorem below_fard {w W : World} {c : Nat} (h : w.grownBy W (some c)) (hc : w.heap.size ≤ c) : Below w.heap.size w W := gr_below h hc (Nat.le_refl _)

/-- What stands while something is drawn beside a map: the cursor, the box of a result, the map's box, its arcs. -/
structure DW (w : World) (base c : Nat) (ao : Option Addr) (n cap : Nat) (rb gb ob : Nat) (p : Int) (go : Option Addr) (k gc : Nat) (W : World) : Prop where
  cur : CurAt W base c ao n cap
  res : VHas W rb 26 2 (grV 0 (.slice none 0 0))
  box : VHas W gb 26 2 (grV p (.slice go k gc))
  own : AOwnE W ob go k gc
  bel : Below w.heap.size w W
theorem DW.step {w : World} {base c : Nat} {ao : Option Addr} {n cap rb gb ob : Nat} {p : Int} {go : Option Addr} {k gc : Nat} {W W' : World} (h : DW w base c ao n cap rb gb ob p go k gc W) (hc : (rb < c ∧ c < ob ∧ c < gb) ∧ w.heap.size ≤ c) (hC : CurAt W' base c ao n cap) (hg : W.grownBy W' (some c)) : DW w base c ao n cap rb gb ob p go k gc W' :=
  ⟨hC, h.res.grown hg (by simp; omega), h.box.grown hg (by simp; omega), h.own.grown hg (by omega), h.bel.trans (gr_below hg hc.2 h.bel.size)⟩
theorem DW.next {w : World} {base c : Nat} {ao : Option Addr} {n cap rb gb ob : Nat} {p : Int} {go : Option Addr} {k gc : Nat} {W W' : World} (h : DW w base c ao n cap rb gb ob p go k gc W) (hb : Below W.heap.size W W') : DW w base c ao n cap rb gb ob p go k gc W' :=
  ⟨h.cur.next hb, h.res.next hb, h.box.next hb, h.own.next hb, below_next h.bel (Nat.le_refl _) hb⟩
theorem DW.out {w : World} {base c : Nat} {ao : Option Addr} {n cap rb gb ob : Nat} {p : Int} {go : Option Addr} {k gc : Nat} {W : World} (h : DW w base c ao n cap rb gb ob p go k gc W) (hc : (rb < c ∧ c < ob ∧ c < gb) ∧ w.heap.size ≤ rb) (v0 v1 : Value) :
    Drawn w ((W.setCell ⟨rb, 0, none⟩ v0).setCell ⟨rb, 1, none⟩ v1) go k ∧ Below w.heap.size w ((W.setCell ⟨rb, 0, none⟩ v0).setCell ⟨rb, 1, none⟩ v1) := by
  have h1 := gr_setCell W rb 0 v0
  have h2 := gr_setCell (W.setCell ⟨rb, 0, none⟩ v0) rb 1 v1
  exact ⟨drawn_of ((h.own.grown h1 (by omega)).grown h2 (by omega)) (by omega), (h.bel.setCell (p := ⟨rb, 0, none⟩) hc.2 v0).setCell (p := ⟨rb, 1, none⟩) hc.2 v1⟩

end Go.Proofs.YteibbknpcgcjjabGreat
