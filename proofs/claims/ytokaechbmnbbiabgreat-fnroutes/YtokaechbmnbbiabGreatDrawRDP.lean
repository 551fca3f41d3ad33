/-
  A map, a hierarchy and a metric that are drawn: rows alone, from a block on.
-/
import Derived.Test.YtokaechbmnbbiabGreatDrawM5P
import Derived.Test.YtokaechbmnbbiabGreatPack10
import Derived.Test.YtokaechbmnbbiabGreatPack11
set_option linter.unusedVariables false
set_option linter.unusedSimpArgs false
namespace Go.Proofs.YtokaechbmnbbiabGreat
open Go.RowKit Go.Maps Go.Deep Go.Joins
attribute [local go_sem ↓] Go.wp_at_zero Go.wp_at_succ

structure RD (B : Nat) (go : Option Addr) (k gc : Nat) (po : Option Addr) (m : Nat) (P : Nat → Int) (eo : Option Addr) (q : Nat) (L H : Nat → Int) (uo : Option Addr) (u : Nat) (U : Nat → Int) (vo : Option Addr) (v : Nat) (V : Nat → Int) (W : World) : Prop where
  arcs : AOwnE W B go k gc
  ord : IRow W po m P
  ordb : ∀ a, po = some a → 0 < m → B ≤ a.block
  edg : ERow W eo q L H
  edgb : ∀ a, eo = some a → 0 < q → B ≤ a.block
  ewf : ∀ j, j < q → (Lit.int .i64 (L j)).wf = true ∧ (Lit.int .i64 (H j)).wf = true
  up : IRow W uo u U
  upb : ∀ a, uo = some a → 0 < u → B ≤ a.block
  dn : IRow W vo v V
  dnb : ∀ a, vo = some a → 0 < v → B ≤ a.block
theorem ERow.otherR {w w' : World} {ao : Option Addr} {n : Nat} {L H : Nat → Int} {x : Nat} (h : ERow w ao n L H) (hg : w.grownBy w' (some x)) (hB : ∀ a, ao = some a → 0 < n → a.block ≠ x) : ERow w' ao n L H := fun k hk => by
  obtain ⟨b, o, e, c0, c1⟩ := h k hk
  have hne : some b ≠ some x := fun q => hB _ e (by omega) (by simpa using q)
  exact ⟨b, o, e, hg.cell c0 hne, hg.cell c1 hne⟩
section
variable {w W W' : World} {B base c : Nat} {ao : Option Addr} {n cap : Nat} {go : Option Addr} {k gc : Nat} {po : Option Addr} {m : Nat} {P : Nat → Int} {eo : Option Addr} {q : Nat} {L H : Nat → Int} {uo : Option Addr} {u : Nat} {U : Nat → Int} {vo : Option Addr} {v : Nat} {V : Nat → Int}
theorem RD.other {x : Nat} (h : RD B go k gc po m P eo q L H uo u U vo v V W) (hg : W.grownBy W' (some x)) (hx : x < B) : RD B go k gc po m P eo q L H uo u U vo v V W' :=
  ⟨h.arcs.grown hg hx, h.ord.otherE hg (fun a e h0 => by have := h.ordb a e h0; omega), h.ordb, h.edg.otherR hg (fun a e h0 => by have := h.edgb a e h0; omega), h.edgb, h.ewf, h.up.otherE hg (fun a e h0 => by have := h.upb a e h0; omega), h.upb, h.dn.otherE hg (fun a e h0 => by have := h.dnb a e h0; omega), h.dnb⟩
theorem RD.next (h : RD B go k gc po m P eo q L H uo u U vo v V W) (hb : Below W.heap.size W W') : RD B go k gc po m P eo q L H uo u U vo v V W' :=
  ⟨h.arcs.next hb, h.ord.below hb (Nat.le_refl _), h.ordb, h.edg.below hb (Nat.le_refl _), h.edgb, h.ewf, h.up.below hb (Nat.le_refl _), h.upb, h.dn.below hb (Nat.le_refl _), h.dnb⟩
theorem RD.from {B' : Nat} (h : RD B go k gc po m P eo q L H uo u U vo v V W) (hB : B' ≤ B) : RD B' go k gc po m P eo q L H uo u U vo v V W :=
  ⟨h.arcs.from hB, h.ord, fun a e h0 => by have := h.ordb a e h0; omega, h.edg, fun a e h0 => by have := h.edgb a e h0; omega, h.ewf, h.up, fun a e h0 => by have := h.upb a e h0; omega, h.dn, fun a e h0 => by have := h.dnb a e h0; omega⟩
theorem HR.rd (h : HR w base c ao n cap go k gc po m P eo q L H W) : RD w.heap.size go k gc po m P eo q L H none 0 (fun _ => 0) none 0 (fun _ => 0) W :=
  ⟨h.arcs, h.ord, h.ordb, h.edg, h.edgb, h.ewf, fun k hk => (by omega), fun a e => (by cases e), fun k hk => (by omega), fun a e => (by cases e)⟩
theorem RD.met (h : RD B go k gc po m P eo q L H none 0 (fun _ => 0) none 0 (fun _ => 0) W) (hM : HM W base c ao n cap uo u U vo v V W') (hc : c < B) (hB : B ≤ W.heap.size) : RD B go k gc po m P eo q L H uo u U vo v V W' := by
  have h2 := h.other hM.gr hc
  exact ⟨h2.arcs, h2.ord, h2.ordb, h2.edg, h2.edgb, h2.ewf, hM.up, fun a e h0 => by have := hM.upb a e h0; omega, hM.dn, fun a e h0 => by have := hM.dnb a e h0; omega⟩
def RDA (x : Nat) (go : Option Addr) (k gc : Nat) (po : Option Addr) (m : Nat) (eo : Option Addr) (q : Nat) (uo : Option Addr) (u : Nat) (vo : Option Addr) (v : Nat) : Prop :=
  (∀ y, (Value.slice go k gc).ownBlock = some y → y ≠ x) ∧ (∀ a, po = some a → 0 < m → a.block ≠ x) ∧ (∀ a, eo = some a → 0 < q → a.block ≠ x) ∧ (∀ a, uo = some a → 0 < u → a.block ≠ x) ∧ (∀ a, vo = some a → 0 < v → a.block ≠ x)
theorem irow_ne {W : World} {po : Option Addr} {m x : Nat} {P : Nat → Int} (h : IRow W po m P) (hx : W.heap.size ≤ x) : ∀ a, po = some a → 0 < m → a.block ≠ x := fun a e h0 => by
  obtain ⟨b, o, e2, c0⟩ := h 0 h0
  rw [e] at e2
  cases e2
  have := lt_of_cell c0
  simp only
  omega
theorem erow_ne {W : World} {po : Option Addr} {m x : Nat} {L H : Nat → Int} (h : ERow W po m L H) (hx : W.heap.size ≤ x) : ∀ a, po = some a → 0 < m → a.block ≠ x := fun a e h0 => by
  obtain ⟨b, o, e2, c0, _⟩ := h 0 h0
  rw [e] at e2
  cases e2
  have := lt_of_cell c0
  simp only
  omega
theorem RD.apart {x : Nat} (h : RD B go k gc po m P eo q L H uo u U vo v V W) (hx : W.heap.size ≤ x) : RDA x go k gc po m eo q uo u vo v :=
  ⟨fun y e => by have := (h.arcs.at e).2; omega, irow_ne h.ord hx, erow_ne h.edg hx, irow_ne h.up hx, irow_ne h.dn hx⟩
end

end Go.Proofs.YtokaechbmnbbiabGreat
