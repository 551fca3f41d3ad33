/-
  Bytes in memory of the call's own, appended to out of texts: one law for the walk, room or none.
-/
import Derived.Test.YtmnohgcjdhokdajDoorNum
import Derived.Deep.Upon
import Derived.Laws.IdiomCopy
set_option linter.unusedVariables false
set_option linter.unusedSimpArgs false
namespace Go.Proofs.YtmnohgcjdhokdajDoor
open Go.RowKit

/-- Block g has room for cap bytes, which may be written, and begins with the bytes l. -/
def BRow (w : World) (g cap : Nat) (l : List UInt8) : Prop :=
  l.length ≤ cap ∧ (∀ j, j < cap → (w.cell? ⟨g, j, none⟩).isSome = true ∧ w.frozen? ⟨g, j, none⟩ = false) ∧ ∀ j c, l[j]? = some c → w.cell? ⟨g, j, none⟩ = some (.int .u8 (c.toNat : Int))

theorem BRow.below {w w' : World} {g cap : Nat} {l : List UInt8} {B : Nat} (h : BRow w g cap l) (hb : Below B w w') (hB : w.heap.size ≤ B) : BRow w' g cap l := by
  by_cases hlt : g < w.heap.size
  · exact ⟨h.1, fun j hj => by rw [hb.cell (by simp; omega), hb.frozen (by simp; omega)]; exact h.2.1 j hj, fun j c hc => by rw [hb.cell (by simp; omega)]; exact h.2.2 j c hc⟩
  · have h0 : cap = 0 := by
      rcases Nat.eq_zero_or_pos cap with h0 | h0
      · exact h0
      · have := (h.2.1 0 h0).1
        simp [World.cell?, Array.getElem?_eq_none (Nat.le_of_not_lt hlt)] at this
    subst h0
    have hl : l = [] := List.eq_nil_of_length_eq_zero (by have := h.1; omega)
    subst hl
    exact ⟨Nat.le_refl _, fun j hj => by omega, fun j c hc => by simp at hc⟩

theorem BRow.lt {w : World} {g cap : Nat} {l : List UInt8} (h : BRow w g cap l) (hl : 0 < l.length) : g < w.heap.size := by
  by_cases hlt : g < w.heap.size
  · exact hlt
  · have := (h.2.1 0 (by have := h.1; omega)).1
    simp [World.cell?, Array.getElem?_eq_none (Nat.le_of_not_lt hlt)] at this

theorem Tryd.infoByte : (Tryd.prog.info? 5).map (fun i => (i.zero, i.size, i.bytes)) = some (some (.int .u8 0), 1, 1) := by kernel_rfl

def bcells (l : List UInt8) : List Value := l.map fun b => .int .u8 (b.toNat : Int)
theorem bcells_at (l : List UInt8) (j : Nat) : (bcells l)[j]? = l[j]?.map fun b => .int .u8 (b.toNat : Int) := by simp [bcells]

theorem setCells_below {w : World} {g o : Nat} (vs : List Value) {B : Nat} (hB : B ≤ g) : Below B w (w.setCells g o vs) := by
  induction vs generalizing w o with
  | nil => exact Below.refl _ _
  | cons v vs ih => exact ((Below.refl B w).setCell (p := ⟨g, o, none⟩) hB v).trans ih

theorem setCells_grown {w : World} {g o : Nat} (vs : List Value) : w.grownBy (w.setCells g o vs) (some g) := by
  induction vs generalizing w o with
  | nil => exact World.grownBy.refl _ _
  | cons v vs ih =>
    have h1 : w.grownBy (w.setCell ⟨g, o, none⟩ v) (some g) := ⟨rfl, rfl, rfl, by simp [World.setCell], fun k _ hne => Below.heap_setCell _ _ _ _ (fun e => hne (by rw [e]))⟩
    have h2 := ih (w := w.setCell ⟨g, o, none⟩ v) (o := o + 1)
    exact ⟨h2.os.trans h1.os, h2.tape.trans h1.tape, h2.output.trans h1.output, Nat.le_trans h1.size h2.size, fun k hk hne => (h2.block k (Nat.lt_of_lt_of_le hk h1.size) hne).trans (h1.block k hk hne)⟩

theorem run_append_txt (w : World) (ty : TypeId) (g cap : Nat) (l s : List UInt8) (h : BRow w g cap l) (hlen : l.length + s.length ≤ 1000000000000) {B : Nat} (hg : B ≤ g) (hB : B ≤ w.heap.size) :
    ∃ g' cap' w', (Builtin.append_ #[44, 9] ty #[.slice (some ⟨g, 0, none⟩) l.length cap, txt s]).run Tryd.prog w = .ok (.slice (some ⟨g', 0, none⟩) (l ++ s).length cap') w' ∧
      B ≤ g' ∧ BRow w' g' cap' (l ++ s) ∧ Below B w w' ∧ w.grownBy w' (some g) := by
  obtain ⟨i, hi, hz0, hz1, hz2⟩ := info_parts Tryd.infoByte
  have hsrc : Src Tryd.prog i.size 9 (txt s) s.length (bcells s) w := by
    rw [hz1]
    have := Src.ofString (P := Tryd.prog) w Tryd.underlying9 (⟨s.toArray⟩ : ByteArray)
    simpa [byteCells, bcells, ByteArray.size] using this
  by_cases hroom : l.length + s.length ≤ cap
  · refine ⟨g, cap, w.setCells g l.length (bcells s), ?_, hg, ?_, setCells_below _ hg, setCells_grown _⟩
    · have hr := run_append_room_src (P := Tryd.prog) w 44 9 ty 5 i Tryd.underlying44 hi g 0 l.length cap (txt s) s.length (bcells s) hsrc hroom
        (fun j hj => by simp [bcells] at hj; rw [hz1]; simpa using (h.2.1 (l.length + j) (by omega)).1) (fun j hj => by simp [bcells] at hj; rw [hz1]; simpa using (h.2.1 (l.length + j) (by omega)).2)
      rw [hz1] at hr
      simpa using hr
    · refine ⟨by simpa using hroom, fun j hj => ⟨World.isSome_setCells g _ _ _ _ (h.2.1 j hj).1, by rw [World.frozen?_setCells]; exact (h.2.1 j hj).2⟩, fun j c hc => ?_⟩
      by_cases hj : j < l.length
      · rw [World.cell?_setCells_out g _ _ _ _ (fun _ _ => Or.inl hj)]
        rw [List.getElem?_append_left hj] at hc
        exact h.2.2 j c hc
      · rw [List.getElem?_append_right (by omega)] at hc
        have hjs : j - l.length < s.length := (List.getElem?_eq_some_iff.1 hc).1
        have := World.cell?_setCells_in g (bcells s) l.length w (fun j hj => (h.2.1 (l.length + j) (by simp [bcells] at hj; omega)).1) (j - l.length) (by simpa [bcells] using hjs)
        rw [show l.length + (j - l.length) = j by omega] at this
        rw [this]
        have e := (List.getElem?_eq_some_iff.1 hc).2
        simp [bcells, e]
  · have holds : (Builtin.firstCells i.size l.length (.slice (some ⟨g, 0, none⟩) l.length cap)).run Tryd.prog w.drew = .ok (bcells l).toArray w.drew := by
      rw [hz1]
      exact run_firstCells_some w.drew 1 l.length ⟨g, 0, none⟩ l.length cap (bcells l) (by simp [bcells]) (fun j u hu => by
        rw [bcells_at] at hu
        simp at hu
        obtain ⟨c, hc, rfl⟩ := hu
        rw [Addr.add_mid]
        simpa using h.2.2 j c hc)
    have hr := run_append_grow_src (P := Tryd.prog) w 44 9 ty 5 i _ Tryd.underlying44 hi hz0 (some ⟨g, 0, none⟩) l.length cap (bcells l) holds (txt s) s.length (bcells s) hsrc (by omega) (by omega)
      (growslice_fits (by omega) (by rw [hz2]; omega))
    have hge := grownCap_ge w (l.length + s.length) cap 5
    have hl2 : (l ++ s).length = l.length + s.length := List.length_append
    rw [← hl2] at hr hge
    refine ⟨w.heap.size, _, _, hr, hB, ?_, (Below.drew (Below.refl _ _)).alloc hB _, ⟨rfl, rfl, rfl, by simp, fun k hk _ => Below.heap_alloc w.drew _ k hk⟩⟩
    have hsz : ((bcells l ++ bcells s).toArray ++ Builtin.zeroCells (Value.int .u8 0).cells (grownCap w (l ++ s).length cap 5 - (l ++ s).length)).size = grownCap w (l ++ s).length cap 5 := by
      rw [Array.size_append, size_zeroCells]
      simp [bcells, Value.cells] at hge ⊢
      omega
    refine ⟨hge, fun j hj => ⟨?_, World.frozen?_alloc_new w.drew _ _ j⟩, fun j c hc => ?_⟩
    · have e1 := World.cell?_alloc_new w.drew ((bcells l ++ bcells s).toArray ++ Builtin.zeroCells (Value.int .u8 0).cells (grownCap w (l ++ s).length cap 5 - (l ++ s).length)) 5 j
      have e2 : w.drew.heap.size = w.heap.size := rfl
      rw [e2] at e1
      rw [e1, Array.getElem?_eq_getElem (by rw [hsz]; exact hj)]
      rfl
    · have e1 := World.cell?_alloc_new w.drew ((bcells l ++ bcells s).toArray ++ Builtin.zeroCells (Value.int .u8 0).cells (grownCap w (l ++ s).length cap 5 - (l ++ s).length)) 5 j
      have e2 : w.drew.heap.size = w.heap.size := rfl
      rw [e2] at e1
      have hjl : j < (l ++ s).length := (List.getElem?_eq_some_iff.1 hc).1
      rw [e1, Array.getElem?_append_left (by simpa [bcells] using hjl), List.getElem?_toArray]
      have : bcells l ++ bcells s = bcells (l ++ s) := by simp [bcells]
      rw [this, bcells_at, hc]
      rfl

/-- At a step of a region that draws its order. -/
theorem step_append_txt {ops : Array Oper} {o : Oper} {a : Act} {w : World} {K : Act → World → Prop} {Q : Exit → Act → World → Prop} {E : Prop} (hgd : o.guard = none) (x y : Operand)
    (ho : o.op = .call { callee := .builtin .append, args := #[x, y], argTypes := #[44, 9] }) (g cap : Nat) (l s : List UInt8) (hx : a.eval x = .slice (some ⟨g, 0, none⟩) l.length cap) (hy : a.eval y = txt s)
    (h : BRow w g cap l) (hlen : l.length + s.length ≤ 1000000000000) (B : Nat) (hg : B ≤ g) (hB : B ≤ w.heap.size)
    (hK : ∀ g' cap' w', B ≤ g' → BRow w' g' cap' (l ++ s) → Below B w w' → w.grownBy w' (some g) → K (a.put o.dst (.slice (some ⟨g', 0, none⟩) (l ++ s).length cap')) w') :
    if Region.wanted o (yielded ops a.tmps) = true then Oper.wp Tryd.prog o a w K Q else E := by
  have hw : Region.wanted o (yielded ops a.tmps) = true := by simp [Region.wanted, hgd]
  rw [if_pos hw]
  obtain ⟨g', cap', w', hr, h2, h3, h4, h5⟩ := run_append_txt w o.type g cap l s h hlen hg hB
  unfold Oper.wp execOp
  simp only [ho, resolve, invoke, builtin, Sem.run_bind, Sem.run_pure, Result.andThen_ok, List.map_toArray, List.map_cons, List.map_nil, hx, hy, hr]
  exact hK g' cap' w' h2 h3 h4 h5

end Go.Proofs.YtmnohgcjdhokdajDoor
