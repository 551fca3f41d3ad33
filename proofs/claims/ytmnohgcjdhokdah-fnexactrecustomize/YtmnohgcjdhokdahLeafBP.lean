/-
  The box of an answer that is made while its arguments are copied.
-/
import Derived.Test.YtmnohgcjdhokdahPack7
import Derived.Test.YtmnohgcjdhokdahRoomOP
set_option linter.unusedVariables false
set_option linter.unusedSimpArgs false
namespace Go.Proofs.Ytmnohgcjdhokdah
open Go.RowKit

theorem cell_ret {W : World} {s x o : Nat} {a c v : Value} (h : W.cell? ⟨x, o, none⟩ = some v) (hne : x ≠ s) : ((W.setCell ⟨s, 0, none⟩ a).setCell ⟨s, 1, none⟩ c).cell? ⟨x, o, none⟩ = some v :=
  cell_turn (cell_turn h (gr_setCell _ _ _ _) hne) (gr_setCell _ _ _ _) hne
theorem hid_ret {w W : World} {s : Nat} {a c : Value} (h : Hid (Below w.heap.size w W)) (hs : w.heap.size ≤ s) : Hid (Below w.heap.size w ((W.setCell ⟨s, 0, none⟩ a).setCell ⟨s, 1, none⟩ c)) := ret_below h.out hs a c
theorem cell_re {X : World} {o o' : Obj} {x q : Nat} {v : Value} (h : (X.alloc o).cell? ⟨x, q, none⟩ = some v) (hx : x < X.heap.size) : (X.alloc o').cell? ⟨x, q, none⟩ = some v := by
  have h1 := Below.heap_alloc X o x hx
  have h2 := Below.heap_alloc X o' x hx
  simpa [World.cell?, h1, h2] using h
theorem hid_re {w X : World} {o o' : Obj} (h : Hid (Below w.heap.size w (X.alloc o))) (hx : w.heap.size ≤ X.heap.size) : Hid (Below w.heap.size w (X.alloc o')) :=
  ⟨h.out.os, h.out.tape, h.out.output, by simp; omega, fun k hk => (Below.heap_alloc X o' k (by omega)).trans ((Below.heap_alloc X o k (by omega)).symm.trans (h.out.block k hk))⟩
theorem nbx0 (Z : World) : (Z.alloc (.cells #[.slice none 0 0, .slice none 0 0] 35)).cell? ⟨Z.heap.size, 0, none⟩ = some (.slice none 0 0) := by simp [go_sem]
theorem nbx1 (Z : World) : (Z.alloc (.cells #[.slice none 0 0, .slice none 0 0] 35)).cell? ⟨Z.heap.size, 1, none⟩ = some (.slice none 0 0) := by simp [go_sem]
theorem nbz (Z : World) (o : Nat) : (Z.alloc (.cells #[.slice none 0 0, .slice none 0 0] 35)).frozen? ⟨Z.heap.size, o, none⟩ = false := by simp [go_sem]
theorem keep_fz {W W' : World} {b : Nat} {v : Value} (hb : Below W.heap.size W W') (hc : W.cell? ⟨b, 0, none⟩ = some v) (h : ∀ o, W.frozen? ⟨b, o, none⟩ = false) (o : Nat) : W'.frozen? ⟨b, o, none⟩ = false := by
  rw [(bcell hb).2 b o (lt_of_cell hc)]; exact h o
/-- The box of the answer, wherever it was made; all else is as it was behind the call. -/
structure LB (V : World) (s1 s2 : Value) (b : Nat) (X : World) : Prop where
  c0 : X.cell? ⟨b, 0, none⟩ = some s1
  c1 : X.cell? ⟨b, 1, none⟩ = some s2
  nx : ∀ q, q < V.heap.size → q ≠ b → X.heap[q]? = V.heap[q]?
  sz : V.heap.size ≤ X.heap.size
  lt : b < X.heap.size
theorem lb_new (V : World) (s1 s2 : Value) : LB V s1 s2 V.heap.size (V.alloc (.cells #[s1, s2] 35)) :=
  ⟨by simp [go_sem], by simp [go_sem], fun q hq _ => Below.heap_alloc V _ q hq, by simp, by simp⟩
theorem lb_set {V : World} {s1 s2 : Value} {b : Nat} {v0 v1 : Value} (h0 : V.cell? ⟨b, 0, none⟩ = some v0) (h1 : V.cell? ⟨b, 1, none⟩ = some v1) : LB V s1 s2 b ((V.setCell ⟨b, 0, none⟩ s1).setCell ⟨b, 1, none⟩ s2) :=
  ⟨by simp [go_sem, h0, h1], by simp [go_sem, h0, h1], fun q hq hne => ret_block s1 s2 hne, by simp [World.setCell], by have := lt_of_cell h0; simpa [World.setCell] using this⟩

end Go.Proofs.Ytmnohgcjdhokdah
