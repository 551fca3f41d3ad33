/-
  Lists of numbers of the call's own that grow by one: the law for the walk.
-/
import Derived.Test.YtcmeppjfjledfakDoorInts
import Derived.Deep.AppendLies
set_option linter.unusedVariables false
set_option linter.unusedSimpArgs false
namespace Go.Proofs.YtcmeppjfjledfakDoor
open Go.RowKit

def icells (f : Nat → Int) (n : Nat) : List Value := (List.range n).map fun j => .int .i64 (f j)
theorem icells_at {f : Nat → Int} {n j : Nat} (hj : j < n) : (icells f n)[j]? = some (.int .i64 (f j)) := by
  rw [icells, List.getElem?_map, List.getElem?_range hj]; rfl
theorem icells_len (f : Nat → Int) (n : Nat) : (icells f n).length = n := by simp [icells]
theorem icells_congr {f g : Nat → Int} {n : Nat} (h : ∀ j, j < n → f j = g j) : icells f n = icells g n := by
  apply List.ext_getElem?
  intro j
  by_cases hj : j < n
  · rw [icells_at hj, icells_at hj, h j hj]
  · rw [List.getElem?_eq_none (by rw [icells_len]; omega), List.getElem?_eq_none (by rw [icells_len]; omega)]
theorem icells_put {f g : Nat → Int} {n : Nat} (v : Int) (h1 : ∀ j, j < n → f j = g j) (h2 : g n = v) : icells f n ++ [.int .i64 v] = icells g (n + 1) := by
  rw [icells_congr h1]
  simp [icells, List.range_succ, h2]

/-- n numbers in a block of the call's own, from block base on, with room for cap of them. -/
def IOwn (w : World) (base g cap n : Nat) (f : Nat → Int) : Prop := w.ownsRow base 2 1 (.slice (some ⟨g, 0, none⟩) n cap) n (icells f n)
theorem IOwn.has {w : World} {base g cap n : Nat} {f : Nat → Int} (h : IOwn w base g cap n f) : IHas w g n f := by
  obtain ⟨hl, h0 | ⟨g', cap', cur, hv, hb, hh, h1, h2, h3, h4⟩⟩ := h
  · simp at h0
  · simp at hv
    obtain ⟨rfl, rfl⟩ := hv
    refine ⟨cur, hh, by omega, fun j hj => ?_⟩
    have : (cur.toList.take (n * 1))[j]? = (icells f n)[j]? := by rw [h4]
    rw [List.getElem?_take_of_lt (by omega), icells_at hj] at this
    simpa using this
theorem IOwn.base {w : World} {base g cap n : Nat} {f : Nat → Int} (h : IOwn w base g cap n f) : base ≤ g := (World.ownsRow.lt h g rfl).1
theorem IOwn.congr {w : World} {base g cap n : Nat} {f f' : Nat → Int} (h : IOwn w base g cap n f) (e : ∀ j, j < n → f j = f' j) : IOwn w base g cap n f' := by
  unfold IOwn at h ⊢
  rw [← icells_congr e]; exact h
theorem IOwn.below {w w' : World} {base g cap n B : Nat} {f : Nat → Int} (h : IOwn w base g cap n f) (hb : Below B w w') (hB : g < B) : IOwn w' base g cap n f := by
  refine ⟨h.1, ?_⟩
  rcases h.2 with hn | ⟨g', cap', cur, hv, hb', hgg, rest⟩
  · exact .inl hn
  · simp at hv
    obtain ⟨rfl, rfl⟩ := hv
    exact .inr ⟨g, cap, cur, rfl, hb', (hb.block g hB).trans hgg, rest⟩
theorem IOwn.lt {w : World} {base g cap n : Nat} {f : Nat → Int} (h : IOwn w base g cap n f) : g < w.heap.size := (World.ownsRow.lt h g rfl).2
theorem IOwn.grown {w w' : World} {base g cap n : Nat} {f : Nat → Int} {b : Nat} (h : IOwn w base g cap n f) (hg : w.grownBy w' (some b)) (hne : g ≠ b) : IOwn w' base g cap n f := by
  refine ⟨h.1, ?_⟩
  rcases h.2 with hn | ⟨g', cap', cur, hv, hb', hgg, rest⟩
  · exact .inl hn
  · simp at hv
    obtain ⟨rfl, rfl⟩ := hv
    exact .inr ⟨g, cap, cur, rfl, hb', (hg.block g h.lt (by simp; exact hne)).trans hgg, rest⟩

theorem IOwn.room {w : World} {base g cap n : Nat} {f : Nat → Int} (h : IOwn w base g cap n f) : n ≤ cap := by
  obtain ⟨hl, h0 | ⟨g', cap', cur, hv, hb, hh, h1, h2, h3, h4⟩⟩ := h
  · simp at h0
  · simp at hv
    omega
/-- A new empty list. -/
theorem IOwn.empty (w : World) {base : Nat} (hb : base ≤ w.heap.size) (f : Nat → Int) : IOwn (w.alloc (.cells #[] 2)) base w.heap.size 0 0 f := by
  have := World.ownsRow_lit (base := base) (e := 2) (size := 1) w #[] 0 hb (by simp) (by simp)
  simpa [IOwn, icells] using this

theorem wpList_append_int {w : World} {ops : Array Oper} {rest : List Oper} {o : Oper} {a : Act} {Q : Exit → Act → World → Prop} (hgd : o.guard = none) (s x : Operand)
    (ho : o.op = .call { callee := .builtin .append, args := #[s, x], argTypes := #[91, 91] }) (base g cap n : Nat) (f : Nat → Int) (hs : a.eval s = .slice (some ⟨g, 0, none⟩) n cap)
    (hown : IOwn w base g cap n f) (ad : Addr) (c : Nat) (v : Int) (hx : a.eval x = .slice (some ad) 1 c) (h0 : w.cell? (ad.add 0) = some (.int .i64 v)) (hn : n ≤ 1000000000) (hbase : base ≤ w.heap.size)
    (h : ∀ g' cap' w', (∀ f', (∀ j, j < n → f' j = f j) → f' n = v → IOwn w' base g' cap' (n + 1) f') → w.grownBy w' (some g) → (g' = g ∨ g' = w.heap.size) → wpList Tryd.prog ops Q rest (a.put o.dst (.slice (some ⟨g', 0, none⟩) (n + 1) cap')) w') : wpList Tryd.prog ops Q (o :: rest) a w := by
  obtain ⟨i, hi, hz0, hz1, hz2⟩ := info_parts Tryd.infoInt
  refine wpList_append_lies w hgd s x 91 ho base 2 i _ 1 8 Tryd.underlying91 hi hz0 hz1 hz2 rfl (by omega) _ n (icells f n) hs hown ad 1 c [.int .i64 v] hx rfl ?_ ?_ (by omega) (by unfold maxLen; omega) (by omega) hbase w.heap.size rfl ?_
  · intro j u hu
    match j, hu with
    | 0, hu => simp at hu; subst hu; exact h0
    | j + 1, hu => simp at hu
  · intro u hu
    simp at hu
    subst hu; rfl
  · intro g' cap' w' hown' hgrow hat hlt
    refine h g' cap' w' (fun f' e1 e2 => ?_) hgrow ?_
    · rw [icells_put v (fun j hj => (e1 j hj).symm) e2] at hown'
      exact hown'
    · rcases hat with e | e
      · simp [Value.ownBlock] at e; exact Or.inl e.symm
      · exact Or.inr e

end Go.Proofs.YtcmeppjfjledfakDoor
