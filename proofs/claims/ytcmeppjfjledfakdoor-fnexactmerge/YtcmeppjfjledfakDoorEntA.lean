/-
  append(own, entries...), the entries none or some, as a law for the walk.
-/
import Derived.Test.YtcmeppjfjledfakDoorEntO
set_option linter.unusedVariables false
set_option linter.unusedSimpArgs false
namespace Go.Proofs.YtcmeppjfjledfakDoor
open Go.RowKit

theorem run_appN_zero (ty : TypeId) (g n cap : Nat) (ao : Option Addr) (c : Nat) (hnc : n ≤ cap) (w : World) : (Builtin.append_ #[24, 24] ty #[.slice (some ⟨g, 0, none⟩) n cap, .slice ao 0 c]).run Tryd.prog w = .ok (.slice (some ⟨g, 0, none⟩) n cap) w := by
  obtain ⟨i0, hi0, hz0, hz1, hz2⟩ := info_parts Tryd.infoEntry
  cases ao <;> simp [Builtin.append_, run_underlying Tryd.underlying24, sizeOf, typeInfo, hi0, Builtin.lenOf, Builtin.firstCells, hnc, storeCells, loadCells, loadCellsFrom]

theorem wp_appN {w : World} {o : Oper} {a : Act} {K : Act → World → Prop} {Q : Exit → Act → World → Prop} (s x : Operand)
    (ho : o.op = .call { callee := .builtin .append, args := #[s, x], argTypes := #[24, 24] })
    (base g0 n cap0 : Nat) (xs : List Value) (hs : a.eval s = .slice (some ⟨g0, 0, none⟩) n cap0) (hown : w.ownsRow base 36 2 (.slice (some ⟨g0, 0, none⟩) n cap0) n xs)
    (ao : Option Addr) (m c : Nat) (T : Nat → Int) (X : Nat → ByteArray) (hx : a.eval x = .slice ao m c) (hr : NRow w ao m T X) (hm : n + m ≤ 3000000) (hbase : base ≤ w.heap.size)
    (h : ∀ g cap w', w'.ownsRow base 36 2 (.slice (some ⟨g, 0, none⟩) (n + m) cap) (n + m) (xs ++ nCells T X m) → Below base w w' → K (a.put o.dst (.slice (some ⟨g, 0, none⟩) (n + m) cap)) w') : o.wp Tryd.prog a w K Q := by
  have hg0 : base ≤ g0 ∧ n ≤ cap0 := by
    rcases hown.2 with ⟨e, _⟩ | ⟨g, cap, cur, e, h1, _, h2, _⟩
    · cases e
    · simp only [Value.slice.injEq, Option.some.injEq, Addr.mk.injEq, and_true, true_and] at e
      obtain ⟨rfl, rfl⟩ := e
      exact ⟨h1, h2⟩
  by_cases hz : 0 < m
  · obtain ⟨b1, o1, rfl, _⟩ := hr 0 hz
    obtain ⟨i0, hi0, hz0, hz1, hz2⟩ := info_parts Tryd.infoEntry
    refine wp_append_lies w s x _ ho base 36 i0 _ 2 24 Tryd.underlying24 hi0 hz0 hz1 hz2 rfl (by omega) _ n xs hs hown ⟨b1, o1, none⟩ m c (nCells T X m) hx (nCells_len _ _ _) (NRow.news hr) (nCells_one _ _ _) hz (by unfold maxLen; omega) (by omega) hbase w.heap.size rfl ?_
    intro g cap w' hown' hgrow _ _
    exact h g cap w' hown' (gr_below (b := g0) hgrow hg0.1 hbase)
  · obtain rfl : m = 0 := by omega
    have hrun := run_appN_zero o.type g0 n cap0 ao c hg0.2 w
    unfold Oper.wp execOp
    simp only [ho, resolve, invoke, builtin, Sem.run_bind, Sem.run_pure, Result.andThen_ok, List.map_toArray, List.map_cons, List.map_nil, hs, hx, hrun]
    have e : xs ++ nCells T X 0 = xs := by simp [nCells]
    exact h g0 cap0 w (by rw [e]; exact hown) (Below.refl _ _)
theorem wpList_appN {w : World} {ops : Array Oper} {rest : List Oper} {o : Oper} {a : Act} {Q : Exit → Act → World → Prop} (hgd : o.guard = none) (s x : Operand)
    (ho : o.op = .call { callee := .builtin .append, args := #[s, x], argTypes := #[24, 24] })
    (base g0 n cap0 : Nat) (xs : List Value) (hs : a.eval s = .slice (some ⟨g0, 0, none⟩) n cap0) (hown : w.ownsRow base 36 2 (.slice (some ⟨g0, 0, none⟩) n cap0) n xs)
    (ao : Option Addr) (m c : Nat) (T : Nat → Int) (X : Nat → ByteArray) (hx : a.eval x = .slice ao m c) (hr : NRow w ao m T X) (hm : n + m ≤ 3000000) (hbase : base ≤ w.heap.size)
    (h : ∀ g cap w', w'.ownsRow base 36 2 (.slice (some ⟨g, 0, none⟩) (n + m) cap) (n + m) (xs ++ nCells T X m) → Below base w w' → wpList Tryd.prog ops Q rest (a.put o.dst (.slice (some ⟨g, 0, none⟩) (n + m) cap)) w') : wpList Tryd.prog ops Q (o :: rest) a w :=
  wpList_plain hgd fun _ hK => wp_appN s x ho base g0 n cap0 xs hs hown ao m c T X hx hr hm hbase (fun g cap w' h1 h2 => hK _ _ (h g cap w' h1 h2))

end Go.Proofs.YtcmeppjfjledfakDoor
