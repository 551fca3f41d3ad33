/-
  Words in a list of the call's own, and their join.
-/
import Derived.Test.YtmnohgcjdhokdajDoorShowB
set_option linter.unusedVariables false
set_option linter.unusedSimpArgs false
namespace Go.Proofs.YtmnohgcjdhokdajDoor
open Go.RowKit
attribute [local go_sem ↓] Go.wp_at_zero Go.wp_at_succ

theorem boxed1 {w W : World} {o : Obj} (h : Below (w.alloc o).heap.size (w.alloc o) W) : Below (w.heap.size + 1) (w.alloc o) W := h.mono (by simp)
def scells (W : List (List UInt8)) : List Value := W.map txt
theorem join_any (g c : Nat) (W : List (List UInt8)) (w : World) (hc : ∀ j u, (scells W)[j]? = some u → w.cell? ⟨g, j, none⟩ = some u) (hg : g < w.heap.size) (hN : W.length ≤ 1000) (hcap : W.length ≤ c) (hlen : (Lib.join W [32]).length ≤ 1000000000000) :
    Calls Tryd.prog 15 #[.slice (some ⟨g, 0, none⟩) W.length c, .string ⟨#[32]⟩] w fun e w' => e = .returned (txt (Lib.join W [32])) ∧ Below w.heap.size w w' := by
  have e1 : (W.map fun l => (⟨l.toArray⟩ : ByteArray)).length = W.length := List.length_map _
  have e2 : (W.map fun l => (⟨l.toArray⟩ : ByteArray)).map (·.data.toList) = W := by simp [Function.comp_def]
  have h := Tryd.strings_Join g 0 c (W.map fun l => (⟨l.toArray⟩ : ByteArray)) ⟨#[32]⟩ w (fun j x hx => by
    rw [Nat.zero_add]
    refine hc j _ ?_
    simp [scells] at hx ⊢
    obtain ⟨l, hl, rfl⟩ := hx
    exact ⟨l, hl, rfl⟩) hg (by rw [e1]; omega) (by rw [e1]; exact hcap) (by rw [e2]; show (Lib.join W [32]).length ≤ _; omega)
  rw [e1, e2] at h
  exact h
theorem Tryd.infoStr : (Tryd.prog.info? 9).map (fun i => (i.zero, i.size, i.bytes)) = some (some (.string ByteArray.empty), 1, 16) := by kernel_rfl
theorem scells_one (W : List (List UInt8)) : ∀ u ∈ scells W, u.oneCell' = true := fun u hu => by
  simp [scells] at hu
  obtain ⟨_, _, rfl⟩ := hu
  rfl
theorem news3 (w : World) (a b c : List UInt8) : ∀ j u, (scells [a, b, c])[j]? = some u → (w.alloc (.cells #[txt a, txt b, txt c] 9)).cell? ((⟨w.heap.size, 0, none⟩ : Addr).add j) = some u := fun j u hu => by
  match j, hu with
  | 0, hu => simp [scells] at hu; subst hu; simp [Addr.add, go_sem]
  | 1, hu => simp [scells] at hu; subst hu; simp [Addr.add, go_sem]
  | 2, hu => simp [scells] at hu; subst hu; simp [Addr.add, go_sem]
/-- The box of an argument of two cells, in a later world. -/
theorem boxd {w W : World} {a0 a1 : Value} {t : TypeId} (h : Below (w.heap.size + 1) (w.alloc (.cells #[a0, a1] t)) W) :
    W.cell? ⟨w.heap.size, 0, none⟩ = some a0 ∧ W.cell? ⟨w.heap.size, 1, none⟩ = some a1 ∧ w.heap.size < W.heap.size := by
  refine ⟨by rw [h.cell (by simp)]; simp [go_sem], by rw [h.cell (by simp)]; simp [go_sem], by have := h.size; simp at this; omega⟩
theorem owns_below {w w' : World} {base e size n : Nat} {v : Value} {xs : List Value} (h : w.ownsRow base e size v n xs) (hb : Below w.heap.size w w') : w'.ownsRow base e size v n xs :=
  h.kept (row := none) ⟨hb.os, hb.tape, hb.output, hb.size, fun k hk _ => hb.block k hk⟩ (by cases v.ownBlock <;> simp)
theorem owns_lt {w : World} {base e n cap g : Nat} {xs : List Value} (h : w.ownsRow base e 1 (.slice (some ⟨g, 0, none⟩) n cap) n xs) : g < w.heap.size := by
  obtain ⟨_, h0 | ⟨g', cap', cur, hv, _, hh, _⟩⟩ := h
  · simp at h0
  · simp at hv
    obtain ⟨rfl, rfl⟩ := hv
    exact (Array.getElem?_eq_some_iff.1 hh).1
theorem owns_cells {w : World} {base e n cap g : Nat} {xs : List Value} (h : w.ownsRow base e 1 (.slice (some ⟨g, 0, none⟩) n cap) n xs) : ∀ j u, xs[j]? = some u → w.cell? ⟨g, j, none⟩ = some u := fun j u hu => by
  have hl := h.1
  have hj : j < xs.length := (List.getElem?_eq_some_iff.1 hu).1
  rw [World.ownsRow.cellAt h j (by omega)]
  exact hu

end Go.Proofs.YtmnohgcjdhokdajDoor
