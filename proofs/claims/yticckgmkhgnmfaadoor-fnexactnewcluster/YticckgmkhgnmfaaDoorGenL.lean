/-
  Rows of cells behind a slice, told by a function from numbers to values; lists of one's own told so.
-/
import Derived.Test.YticckgmkhgnmfaaDoorVh
import Derived.Test.YticckgmkhgnmfaaDoorBase
import Derived.Deep.AppendLies
import Derived.Laws.OwnMore
set_option linter.unusedVariables false
set_option linter.unusedSimpArgs false
namespace Go.Proofs.YticckgmkhgnmfaaDoor
open Go.RowKit

def gCells (f : Nat → Value) (m : Nat) : List Value := (List.range m).map f
theorem gCells_len (f : Nat → Value) (m : Nat) : (gCells f m).length = m := by simp [gCells]
theorem gCells_at {f : Nat → Value} {m j : Nat} (h : j < m) : (gCells f m)[j]? = some (f j) := by simp [gCells, h]
theorem gCells_congr {f g : Nat → Value} {m : Nat} (h : ∀ j, j < m → f j = g j) : gCells f m = gCells g m := by
  apply List.ext_getElem?
  intro j
  by_cases hj : j < m
  · rw [gCells_at hj, gCells_at hj, h j hj]
  · rw [List.getElem?_eq_none (by rw [gCells_len]; omega), List.getElem?_eq_none (by rw [gCells_len]; omega)]
theorem gCells_app {f g h : Nat → Value} {a b : Nat} (h1 : ∀ j, j < a → h j = f j) (h2 : ∀ j, j < b → h (a + j) = g j) : gCells f a ++ gCells g b = gCells h (a + b) := by
  apply List.ext_getElem?
  intro j
  by_cases hj : j < a
  · rw [List.getElem?_append_left (by rw [gCells_len]; exact hj), gCells_at hj, gCells_at (by omega), h1 j hj]
  · rw [List.getElem?_append_right (by rw [gCells_len]; omega), gCells_len]
    by_cases hj2 : j < a + b
    · rw [gCells_at (by omega), gCells_at hj2, ← h2 (j - a) (by omega)]
      congr 2
      omega
    · rw [List.getElem?_eq_none (by rw [gCells_len]; omega), List.getElem?_eq_none (by rw [gCells_len]; omega)]
/-- m cells behind a slice. -/
def GRow (w : World) (ao : Option Addr) (m : Nat) (f : Nat → Value) : Prop := 0 < m → ∃ b o, ao = some ⟨b, o, none⟩ ∧ ∀ j, j < m → w.cell? ⟨b, o + j, none⟩ = some (f j)
theorem GRow.below {w w' : World} {B : Nat} {ao : Option Addr} {m : Nat} {f : Nat → Value} (h : GRow w ao m f) (hb : Below B w w') (hB : w.heap.size ≤ B) : GRow w' ao m f := fun hm => by
  obtain ⟨b, o, e, hc⟩ := h hm
  refine ⟨b, o, e, fun j hj => ?_⟩
  have h0 := hc j hj
  have hlt := lt_of_cell h0
  rw [hb.cell (by simp; omega)]
  exact h0
theorem GRow.next {w w' : World} {ao : Option Addr} {m : Nat} {f : Nat → Value} (h : GRow w ao m f) (hb : Below w.heap.size w w') : GRow w' ao m f := h.below hb (Nat.le_refl _)
theorem GRow.news {w : World} {b o m : Nat} {f : Nat → Value} (h : GRow w (some ⟨b, o, none⟩) m f) : ∀ j u, (gCells f m)[j]? = some u → w.cell? ((⟨b, o, none⟩ : Addr).add j) = some u := fun j u hu => by
  have hj : j < m := by
    rcases Nat.lt_or_ge j m with q | q
    · exact q
    · rw [List.getElem?_eq_none (by rw [gCells_len]; exact q)] at hu; cases hu
  rw [gCells_at hj] at hu
  obtain rfl := Option.some.inj hu
  obtain ⟨b', o', e, hc⟩ := h (by omega)
  cases e
  rw [Addr.add_mid]
  exact hc j hj
/-- n elements of size cells each, of the call's own. -/
def GOwn (w : World) (base : Nat) (t : TypeId) (size : Nat) (ao : Option Addr) (n cap : Nat) (f : Nat → Value) : Prop := w.ownsRow base t size (.slice ao n cap) n (gCells f (n * size))
theorem GOwn.nil (w : World) (base : Nat) (t : TypeId) (size : Nat) (f : Nat → Value) : GOwn w base t size none 0 0 f := ⟨by simp [gCells], .inl ⟨rfl, rfl⟩⟩
theorem empty_ownsG (w : World) (t : TypeId) (size : Nat) : (w.alloc (.cells #[] t)).ownsRow w.heap.size t size (.slice (some ⟨w.heap.size, 0, none⟩) 0 0) 0 [] := by
  have := World.ownsRow_lit (base := w.heap.size) (e := t) (size := size) w #[] 0 (by simp) (by simp) (by simp)
  simpa using this
theorem GOwn.empty (w : World) (t : TypeId) (size : Nat) (f : Nat → Value) : GOwn (w.alloc (.cells #[] t)) w.heap.size t size (some ⟨w.heap.size, 0, none⟩) 0 0 f := by
  unfold GOwn
  have e : gCells f (0 * size) = [] := by simp [gCells]
  rw [e]
  exact empty_ownsG w t size
theorem GOwn.congr {w : World} {base : Nat} {t : TypeId} {size : Nat} {ao : Option Addr} {n cap : Nat} {f g : Nat → Value} (h : GOwn w base t size ao n cap f) (e : ∀ j, j < n * size → f j = g j) : GOwn w base t size ao n cap g := by
  unfold GOwn at h ⊢
  rw [← gCells_congr e]
  exact h
theorem GOwn.at {w : World} {base : Nat} {t : TypeId} {size : Nat} {ao : Option Addr} {n cap x : Nat} {f : Nat → Value} (h : GOwn w base t size ao n cap f) (e : (Value.slice ao n cap).ownBlock = some x) : base ≤ x ∧ x < w.heap.size := World.ownsRow.lt h x e
theorem GOwn.of_block {w w' : World} {base : Nat} {t : TypeId} {size : Nat} {ao : Option Addr} {n cap : Nat} {f : Nat → Value} (h : GOwn w base t size ao n cap f) (e : ∀ x, (Value.slice ao n cap).ownBlock = some x → w'.heap[x]? = w.heap[x]?) : GOwn w' base t size ao n cap f := by
  obtain ⟨hl, ho⟩ := h
  refine ⟨hl, ?_⟩
  rcases ho with h1 | ⟨g, cap', cur, e1, hb, hblk, r⟩
  · exact .inl h1
  · refine .inr ⟨g, cap', cur, e1, hb, ?_, r⟩
    rw [e g (by rw [e1]; rfl)]
    exact hblk
theorem GOwn.next {w w' : World} {base : Nat} {t : TypeId} {size : Nat} {ao : Option Addr} {n cap : Nat} {f : Nat → Value} (h : GOwn w base t size ao n cap f) (hb : Below w.heap.size w w') : GOwn w' base t size ao n cap f := h.of_block (fun x e => hb.block x (h.at e).2)
theorem GOwn.grown {w w' : World} {base : Nat} {t : TypeId} {size : Nat} {ao : Option Addr} {n cap : Nat} {f : Nat → Value} {row : Option Nat} (h : GOwn w base t size ao n cap f) (hg : w.grownBy w' row) (hne : ∀ x, (Value.slice ao n cap).ownBlock = some x → row ≠ some x) : GOwn w' base t size ao n cap f := h.of_block (fun x e => hg.block x (h.at e).2 (fun q => hne x e q.symm))
theorem GOwn.from {w : World} {base base' : Nat} {t : TypeId} {size : Nat} {ao : Option Addr} {n cap : Nat} {f : Nat → Value} (h : GOwn w base t size ao n cap f) (hb : base' ≤ base) : GOwn w base' t size ao n cap f := by
  obtain ⟨hl, ho⟩ := h
  refine ⟨hl, ?_⟩
  rcases ho with h1 | ⟨g, cap', cur, e1, hb1, r⟩
  · exact .inl h1
  · exact .inr ⟨g, cap', cur, e1, Nat.le_trans hb hb1, r⟩
theorem GOwn.vhas {w : World} {base : Nat} {t : TypeId} {size : Nat} {ao : Option Addr} {n cap : Nat} {f : Nat → Value} (h : GOwn w base t size ao n cap f) (hn : 0 < n) : ∃ g, ao = some ⟨g, 0, none⟩ ∧ base ≤ g ∧ VHas w g t (n * size) f := by
  obtain ⟨hl, h⟩ := h
  rcases h with ⟨e, e0⟩ | ⟨g, cap', cur, e, hb, hblk, hnc, hcm, hsz, ht⟩
  · cases e; omega
  · cases e
    refine ⟨g, rfl, hb, cur, hblk, ?_, fun j hj => ?_⟩
    · have := congrArg List.length ht
      rw [gCells_len] at this
      simp at this
      omega
    · have h3 : (cur.toList.take (n * size))[j]? = some (f j) := by rw [ht, gCells_at hj]
      rw [List.getElem?_take, if_pos hj] at h3
      simpa using h3
theorem GOwn.row {w : World} {base : Nat} {t : TypeId} {size : Nat} {ao : Option Addr} {n cap : Nat} {f : Nat → Value} (h : GOwn w base t size ao n cap f) : GRow w ao (n * size) f := fun hm => by
  obtain ⟨g, e, _, hv⟩ := h.vhas (by rcases Nat.eq_zero_or_pos n with q | q; · rw [q] at hm; simp at hm
                                     · exact q)
  exact ⟨g, 0, e, fun j hj => by rw [Nat.zero_add]; exact hv.cell hj⟩
/-- m cells in a block of a type, behind a slice that begins there. -/
def TRow (w : World) (t : TypeId) (ao : Option Addr) (m : Nat) (f : Nat → Value) : Prop := 0 < m → ∃ g, ao = some ⟨g, 0, none⟩ ∧ VHas w g t m f
/-- A block of a type. -/
def Typed (w : World) (b : Nat) (t : TypeId) : Prop := ∃ cs z, w.heap[b]? = some (.cells cs t z)
theorem VHas.typed {w : World} {b n : Nat} {t : TypeId} {f : Nat → Value} (h : VHas w b t n f) : Typed w b t := by
  obtain ⟨cs, h1, _⟩ := h
  exact ⟨cs, _, h1⟩
theorem typed_ne {w : World} {b c : Nat} {t u : TypeId} (h : Typed w b t) (k : Typed w c u) (hn : t ≠ u) : b ≠ c := fun e => by
  obtain ⟨c1, z1, h1⟩ := h
  obtain ⟨c2, z2, h2⟩ := k
  rw [e, h2] at h1
  simp at h1
  exact hn h1.2.1.symm
theorem GOwn.typed {w : World} {base : Nat} {t : TypeId} {size : Nat} {ao : Option Addr} {n cap x : Nat} {f : Nat → Value} (h : GOwn w base t size ao n cap f) (e : (Value.slice ao n cap).ownBlock = some x) : Typed w x t := by
  obtain ⟨hl, ho⟩ := h
  rcases ho with ⟨h1, _⟩ | ⟨g, cap', cur, e1, hb, hblk, r⟩
  · rw [h1] at e; cases e
  · rw [e1] at e
    obtain rfl : g = x := by simpa [Value.ownBlock] using e
    exact ⟨cur, _, hblk⟩
theorem GOwn.trow {w : World} {base : Nat} {t : TypeId} {size : Nat} {ao : Option Addr} {n cap : Nat} {f : Nat → Value} (h : GOwn w base t size ao n cap f) : TRow w t ao (n * size) f := fun hm => by
  obtain ⟨g, e, _, hv⟩ := h.vhas (by rcases Nat.eq_zero_or_pos n with q | q; · rw [q] at hm; simp at hm
                                     · exact q)
  exact ⟨g, e, hv⟩
theorem TRow.next {w w' : World} {t : TypeId} {ao : Option Addr} {m : Nat} {f : Nat → Value} (h : TRow w t ao m f) (hb : Below w.heap.size w w') : TRow w' t ao m f := fun hm => by
  obtain ⟨g, e, hv⟩ := h hm
  exact ⟨g, e, hv.next hb⟩
theorem TRow.gr {w w' : World} {t u : TypeId} {ao : Option Addr} {m : Nat} {f : Nat → Value} {row : Option Nat} (h : TRow w t ao m f) (hg : w.grownBy w' row) (hx : ∀ x, row = some x → Typed w x u) (hn : t ≠ u) : TRow w' t ao m f := fun hm => by
  obtain ⟨g, e, hv⟩ := h hm
  refine ⟨g, e, hv.grown hg (fun q => ?_)⟩
  exact typed_ne hv.typed (hx g q.symm) hn rfl
theorem VHas.gr {w w' : World} {b n : Nat} {t u : TypeId} {f : Nat → Value} {row : Option Nat} (h : VHas w b t n f) (hg : w.grownBy w' row) (hx : ∀ x, row = some x → Typed w x u) (hn : t ≠ u) : VHas w' b t n f := h.grown hg (fun q => typed_ne h.typed (hx b q.symm) hn rfl)
theorem TRow.row {w : World} {t : TypeId} {ao : Option Addr} {m : Nat} {f : Nat → Value} (h : TRow w t ao m f) : GRow w ao m f := fun hm => by
  obtain ⟨g, e, hv⟩ := h hm
  exact ⟨g, 0, e, fun j hj => by rw [Nat.zero_add]; exact hv.cell hj⟩
theorem GOwn.gr {w w' : World} {base : Nat} {t u : TypeId} {size : Nat} {ao : Option Addr} {n cap : Nat} {f : Nat → Value} {row : Option Nat} (h : GOwn w base t size ao n cap f) (hg : w.grownBy w' row) (hx : ∀ x, row = some x → Typed w x u) (hn : t ≠ u) : GOwn w' base t size ao n cap f :=
  h.grown hg (fun x e q => typed_ne (h.typed e) (hx x q) hn rfl)

end Go.Proofs.YticckgmkhgnmfaaDoor
