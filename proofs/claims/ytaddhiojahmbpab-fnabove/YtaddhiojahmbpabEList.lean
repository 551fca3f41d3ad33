/-
  Edges of the call's own as a list of pairs: read, grown by one, two neighbours exchanged.
-/
import Derived.Test.YtaddhiojahmbpabEdge
import Derived.Deep.AppendLies
set_option linter.unusedVariables false
set_option linter.unusedSimpArgs false
namespace Go.Proofs.Ytaddhiojahmbpab
open Go.RowKit

def Lf (l : List (Int × Int)) (k : Nat) : Int := (l.getD k (0, 0)).1
def Hf (l : List (Int × Int)) (k : Nat) : Int := (l.getD k (0, 0)).2
/-- The cells of a list of edges. -/
def ecells (l : List (Int × Int)) : List Value := l.flatMap fun e => [.int .i64 e.1, .int .i64 e.2]
theorem ecells_len : ∀ l : List (Int × Int), (ecells l).length = l.length * 2
  | [] => rfl
  | e :: l => by
    have := ecells_len l
    simp [ecells] at this ⊢
    omega
theorem ecells_at : ∀ (l : List (Int × Int)) (j : Nat), j < l.length * 2 → (ecells l)[j]? = some (.int .i64 (er (Lf l) (Hf l) j))
  | [], j, h => by simp at h
  | e :: l, 0, h => by simp [ecells, er, Lf]
  | e :: l, 1, h => by simp [ecells, er, Hf]
  | e :: l, j + 2, h => by
    have := ecells_at l j (by simp at h; omega)
    have h1 : (ecells (e :: l))[j + 2]? = (ecells l)[j]? := by simp [ecells]
    rw [h1, this]
    have hd : (j + 2) / 2 = j / 2 + 1 := by omega
    have hm : (j + 2) % 2 = j % 2 := by omega
    unfold er Lf Hf
    rw [hd, hm]
    simp
theorem ecells_snoc (l : List (Int × Int)) (a b : Int) : ecells l ++ [.int .i64 a, .int .i64 b] = ecells (l ++ [(a, b)]) := by simp [ecells]

/-- The list lies in block g, from block base on, with room for cap edges. -/
def EOwn (w : World) (base g cap : Nat) (l : List (Int × Int)) : Prop := w.ownsRow base 38 2 (.slice (some ⟨g, 0, none⟩) l.length cap) l.length (ecells l)
theorem EOwn.has {w : World} {base g cap : Nat} {l : List (Int × Int)} (h : EOwn w base g cap l) : EHas w g l.length (er (Lf l) (Hf l)) := by
  obtain ⟨hl, h0 | ⟨g', cap', cur, hv, hb, hh, h1, h2, h3, h4⟩⟩ := h
  · simp at h0
  · simp at hv
    obtain ⟨rfl, rfl⟩ := hv
    refine ⟨cur, hh, by omega, fun j hj => ?_⟩
    have : (cur.toList.take (l.length * 2))[j]? = (ecells l)[j]? := by rw [h4]
    rw [List.getElem?_take_of_lt (by omega), ecells_at l j hj] at this
    simpa using this
theorem EOwn.from {w : World} {base base' g cap : Nat} {l : List (Int × Int)} (h : EOwn w base g cap l) (hb : base' ≤ base) : EOwn w base' g cap l := by
  refine ⟨h.1, ?_⟩
  rcases h.2 with hn | ⟨g', cap', cur, hv, hb', rest⟩
  · exact .inl hn
  · exact .inr ⟨g', cap', cur, hv, Nat.le_trans hb hb', rest⟩
theorem EOwn.base {w : World} {base g cap : Nat} {l : List (Int × Int)} (h : EOwn w base g cap l) : base ≤ g := (World.ownsRow.lt h g rfl).1
theorem EOwn.lt {w : World} {base g cap : Nat} {l : List (Int × Int)} (h : EOwn w base g cap l) : g < w.heap.size := (World.ownsRow.lt h g rfl).2
theorem EOwn.of_block {w w' : World} {base g cap : Nat} {l : List (Int × Int)} (h : EOwn w base g cap l) (e : w'.heap[g]? = w.heap[g]?) : EOwn w' base g cap l := by
  refine ⟨h.1, ?_⟩
  rcases h.2 with hn | ⟨g', cap', cur, hv, hb', hgg, rest⟩
  · exact .inl hn
  · simp at hv
    obtain ⟨rfl, rfl⟩ := hv
    exact .inr ⟨g, cap, cur, rfl, hb', e.trans hgg, rest⟩
theorem EOwn.below {w w' : World} {base g cap B : Nat} {l : List (Int × Int)} (h : EOwn w base g cap l) (hb : Below B w w') (hB : g < B) : EOwn w' base g cap l := h.of_block (hb.block g hB)
theorem EOwn.next {w w' : World} {base g cap : Nat} {l : List (Int × Int)} (h : EOwn w base g cap l) (hb : Below w.heap.size w w') : EOwn w' base g cap l := h.below hb h.lt
theorem EOwn.grown {w w' : World} {base g cap : Nat} {l : List (Int × Int)} {row : Option Nat} (h : EOwn w base g cap l) (hg : w.grownBy w' row) (hne : some g ≠ row) : EOwn w' base g cap l := h.of_block (hg.block g h.lt hne)
theorem EOwn.room {w : World} {base g cap : Nat} {l : List (Int × Int)} (h : EOwn w base g cap l) : l.length ≤ cap := by
  obtain ⟨hl, h0 | ⟨g', cap', cur, hv, hb, hh, h1, h2, h3, h4⟩⟩ := h
  · simp at h0
  · simp at hv
    omega
theorem EOwn.empty (w : World) {base : Nat} (hb : base ≤ w.heap.size) : EOwn (w.alloc (.cells #[] 38)) base w.heap.size 0 [] := by
  have := World.ownsRow_lit (base := base) (e := 38) (size := 2) w #[] 0 hb (by simp) (by simp)
  simpa [EOwn, ecells] using this

theorem news_edge {w : World} {B : Nat} {x y : Int} (h0 : w.cell? ⟨B, 0, none⟩ = some (.int .i64 x)) (h1 : w.cell? ⟨B, 1, none⟩ = some (.int .i64 y)) : ∀ j u, [Value.int .i64 x, .int .i64 y][j]? = some u → w.cell? ((⟨B, 0, none⟩ : Addr).add j) = some u :=
  fun j u hu => by
    match j, hu with
    | 0, hu => simp at hu; subst hu; exact h0
    | 1, hu => simp at hu; subst hu; exact h1
    | j + 2, hu => simp at hu
theorem wpList_append_edge {w : World} {ops : Array Oper} {rest : List Oper} {o : Oper} {a : Act} {Q : Exit → Act → World → Prop} (hgd : o.guard = none) (s x : Operand)
    (ho : o.op = .call { callee := .builtin .append, args := #[s, x], argTypes := #[24, 24] }) (base g cap : Nat) (l : List (Int × Int)) (hs : a.eval s = .slice (some ⟨g, 0, none⟩) l.length cap)
    (hown : EOwn w base g cap l) (B c : Nat) (v u : Int) (hx : a.eval x = .slice (some ⟨B, 0, none⟩) 1 c) (h0 : w.cell? ⟨B, 0, none⟩ = some (.int .i64 v)) (h1 : w.cell? ⟨B, 1, none⟩ = some (.int .i64 u)) (hn : l.length ≤ 1000000) (hbase : base ≤ w.heap.size)
    (h : ∀ g' cap' w', EOwn w' base g' cap' (l ++ [(v, u)]) → w.grownBy w' (some g) → (g' = g ∨ g' = w.heap.size) → wpList Try.prog ops Q rest (a.put o.dst (.slice (some ⟨g', 0, none⟩) (l.length + 1) cap')) w') : wpList Try.prog ops Q (o :: rest) a w := by
  obtain ⟨i, hi, hz0, hz1, hz2⟩ := info_parts Try.infoEdge
  refine wpList_append_lies w hgd s x 24 ho base 38 i _ 2 16 Try.underlying24 hi hz0 hz1 hz2 rfl (by omega) _ l.length (ecells l) hs hown ⟨B, 0, none⟩ 1 c [.int .i64 v, .int .i64 u] hx rfl (news_edge h0 h1) ?_ (by omega) (by unfold maxLen; omega) (by omega) hbase w.heap.size rfl ?_
  · intro u hu
    simp at hu
    rcases hu with rfl | rfl <;> rfl
  · intro g' cap' w' hown' hgrow hat hlt
    refine h g' cap' w' ?_ hgrow ?_
    · rw [ecells_snoc] at hown'
      unfold EOwn
      rw [List.length_append]
      exact hown'
    · rcases hat with e | e
      · simp [Value.ownBlock] at e; exact Or.inl e.symm
      · exact Or.inr e

theorem step_append_edge {w : World} {ops : Array Oper} {o : Oper} {a : Act} {K : Act → World → Prop} {Q : Exit → Act → World → Prop} {E : Prop} (hgd : o.guard = none) (s x : Operand)
    (ho : o.op = .call { callee := .builtin .append, args := #[s, x], argTypes := #[24, 24] }) (base g cap : Nat) (l : List (Int × Int)) (hs : a.eval s = .slice (some ⟨g, 0, none⟩) l.length cap)
    (hown : EOwn w base g cap l) (B c : Nat) (v u : Int) (hx : a.eval x = .slice (some ⟨B, 0, none⟩) 1 c) (h0 : w.cell? ⟨B, 0, none⟩ = some (.int .i64 v)) (h1 : w.cell? ⟨B, 1, none⟩ = some (.int .i64 u)) (hn : l.length ≤ 1000000) (hbase : base ≤ w.heap.size)
    (h : ∀ g' cap' w', EOwn w' base g' cap' (l ++ [(v, u)]) → w.grownBy w' (some g) → (g' = g ∨ g' = w.heap.size) → K (a.put o.dst (.slice (some ⟨g', 0, none⟩) (l.length + 1) cap')) w') :
    if Region.wanted o (yielded ops a.tmps) = true then Oper.wp Try.prog o a w K Q else E := by
  have hw : Region.wanted o (yielded ops a.tmps) = true := by simp [Region.wanted, hgd]
  rw [if_pos hw]
  obtain ⟨i, hi, hz0, hz1, hz2⟩ := info_parts Try.infoEdge
  refine wp_append_lies w s x 24 ho base 38 i _ 2 16 Try.underlying24 hi hz0 hz1 hz2 rfl (by omega) _ l.length (ecells l) hs hown ⟨B, 0, none⟩ 1 c [.int .i64 v, .int .i64 u] hx rfl (news_edge h0 h1) ?_ (by omega) (by unfold maxLen; omega) (by omega) hbase w.heap.size rfl ?_
  · intro u hu
    simp at hu
    rcases hu with rfl | rfl <;> rfl
  · intro g' cap' w' hown' hgrow hat hlt
    refine h g' cap' w' ?_ hgrow ?_
    · rw [ecells_snoc] at hown'
      unfold EOwn
      rw [List.length_append]
      exact hown'
    · rcases hat with e | e
      · simp [Value.ownBlock] at e; exact Or.inl e.symm
      · exact Or.inr e

/-- The list lies at the beginning of block g. -/
def ELies (w : World) (g : Nat) (l : List (Int × Int)) : Prop := EHas w g l.length (er (Lf l) (Hf l))
theorem ELies.at {w : World} {g : Nat} {a b : List (Int × Int)} {x : Int × Int} (h : ELies w g (a ++ x :: b)) : w.cell? ⟨g, a.length * 2, none⟩ = some (.int .i64 x.1) ∧ w.cell? ⟨g, a.length * 2 + 1, none⟩ = some (.int .i64 x.2) := by
  have h0 := EHas.cell h (j := a.length * 2) (by simp)
  have h1 := EHas.cell h (j := a.length * 2 + 1) (by simp; omega)
  rw [er0] at h0
  rw [er1] at h1
  have e : (a ++ x :: b).getD a.length (0, 0) = x := by simp [List.getD]
  unfold Lf at h0
  unfold Hf at h1
  rw [e] at h0 h1
  exact ⟨h0, h1⟩
theorem getD_swap (a b : List (Int × Int)) (x y : Int × Int) (k : Nat) : (a ++ x :: y :: b).getD k (0, 0) = if k = a.length + 1 then y else if k = a.length then x else (a ++ y :: x :: b).getD k (0, 0) := by
  by_cases h1 : k = a.length + 1
  · subst h1; rw [if_pos rfl]; simp [List.getD, List.getElem?_append_right]
  · rw [if_neg h1]
    by_cases h2 : k = a.length
    · subst h2; rw [if_pos rfl]; simp [List.getD]
    · rw [if_neg h2]
      by_cases h3 : k < a.length
      · simp [List.getD, List.getElem?_append_left h3]
      · obtain ⟨m, rfl⟩ : ∃ m, k = a.length + (m + 2) := ⟨k - a.length - 2, by omega⟩
        simp [List.getD, List.getElem?_append_right]
theorem er_swap (a b : List (Int × Int)) (x y : Int × Int) (j : Nat) :
    (if j = a.length * 2 + 1 then x.2 else if j = a.length * 2 then x.1 else if j = (a.length + 1) * 2 + 1 then y.2 else if j = (a.length + 1) * 2 then y.1 else er (Lf (a ++ y :: x :: b)) (Hf (a ++ y :: x :: b)) j) = er (Lf (a ++ x :: y :: b)) (Hf (a ++ x :: y :: b)) j := by
  unfold er Lf Hf
  rw [getD_swap a b x y (j / 2)]
  have hm : j % 2 = 0 ∨ j % 2 = 1 := by omega
  by_cases h1 : j = a.length * 2 + 1
  · have e1 : j / 2 = a.length := by omega
    have e2 : ¬ j % 2 = 0 := by omega
    rw [if_pos h1, if_neg e2, if_neg (by omega), if_pos e1]
  rw [if_neg h1]
  by_cases h2 : j = a.length * 2
  · have e1 : j / 2 = a.length := by omega
    have e2 : j % 2 = 0 := by omega
    rw [if_pos h2, if_pos e2, if_neg (by omega), if_pos e1]
  rw [if_neg h2]
  by_cases h3 : j = (a.length + 1) * 2 + 1
  · have e1 : j / 2 = a.length + 1 := by omega
    have e2 : ¬ j % 2 = 0 := by omega
    rw [if_pos h3, if_neg e2, if_pos e1]
  rw [if_neg h3]
  by_cases h4 : j = (a.length + 1) * 2
  · have e1 : j / 2 = a.length + 1 := by omega
    have e2 : j % 2 = 0 := by omega
    rw [if_pos h4, if_pos e2, if_pos e1]
  rw [if_neg h4, if_neg (show ¬ j / 2 = a.length + 1 by omega), if_neg (show ¬ j / 2 = a.length by omega)]

end Go.Proofs.Ytaddhiojahmbpab
