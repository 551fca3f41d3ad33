/-
  Helpers: EList, Cells, Grow, Ans, Last, OrdSpec, OrdTake.
-/
import Derived.Test.YthmpliljffmmcaaGreatDoorPack2
import Derived.Deep.AppendLies
import Derived.Test.YthmpliljffmmcaaGreatDoorPack1
import Derived.Test.YthmpliljffmmcaaGreatDoorRows
import Derived.WalkKit
import Derived.Deep.QuietTactic
import Derived.BigQuiet
import Derived.BigRegion
set_option linter.unusedVariables false
set_option linter.unusedSimpArgs false
namespace Go.Proofs.YthmpliljffmmcaaGreatDoor
section
open Go.RowKit
def Lf (l : List (Int × Int)) (k : Nat) : Int := (l.getD k (0, 0)).1
def Hf (l : List (Int × Int)) (k : Nat) : Int := (l.getD k (0, 0)).2
def ecells (l : List (Int × Int)) : List Value := l.flatMap fun e => [.int .i64 e.1, .int .i64 e.2]
theorem ecells_at : ∀ (l : List (Int × Int)) (j : Nat), j < l.length * 2 → (ecells l)[j]? = some (.int .i64 (er (Lf l) (Hf l) j))
  | [], j, h => by simp at h
  | e :: l, 0, h => by simp [ecells, er, Lf]
  | e :: l, 1, h => by simp [ecells, er, Hf]
  | e :: l, j + 2, h => by
    have := ecells_at l j (by simp at h; omega)
    have h1 : (ecells (e :: l))[j + 2]? = (ecells l)[j]? := by simp [ecells]
    rw [h1, this]
    have hd : (j + 2) / 2 = j / 2 + 1 := by omega
    have hm : (j + 2) % 2 = j % 2 := by omega
    unfold er Lf Hf
    rw [hd, hm]
    simp
theorem ecells_snoc (l : List (Int × Int)) (a b : Int) : ecells l ++ [.int .i64 a, .int .i64 b] = ecells (l ++ [(a, b)]) := by simp [ecells]
def EOwn (w : World) (base g cap : Nat) (l : List (Int × Int)) : Prop := w.ownsRow base 94 2 (.slice (some ⟨g, 0, none⟩) l.length cap) l.length (ecells l)
theorem EOwn.has {w : World} {base g cap : Nat} {l : List (Int × Int)} (h : EOwn w base g cap l) : EHas w g l.length (er (Lf l) (Hf l)) := by
  obtain ⟨hl, h0 | ⟨g', cap', cur, hv, hb, hh, h1, h2, h3, h4⟩⟩ := h
  · simp at h0
  · simp at hv
    obtain ⟨rfl, rfl⟩ := hv
    refine ⟨cur, hh, by omega, fun j hj => ?_⟩
    have : (cur.toList.take (l.length * 2))[j]? = (ecells l)[j]? := by rw [h4]
    rw [List.getElem?_take_of_lt (by omega), ecells_at l j hj] at this
    simpa using this
theorem EOwn.from {w : World} {base base' g cap : Nat} {l : List (Int × Int)} (h : EOwn w base g cap l) (hb : base' ≤ base) : EOwn w base' g cap l := by
  refine ⟨h.1, ?_⟩
  rcases h.2 with hn | ⟨g', cap', cur, hv, hb', rest⟩
  · exact .inl hn
  · exact .inr ⟨g', cap', cur, hv, Nat.le_trans hb hb', rest⟩
theorem EOwn.base {w : World} {base g cap : Nat} {l : List (Int × Int)} (h : EOwn w base g cap l) : base ≤ g := (World.ownsRow.lt h g rfl).1
theorem EOwn.lt {w : World} {base g cap : Nat} {l : List (Int × Int)} (h : EOwn w base g cap l) : g < w.heap.size := (World.ownsRow.lt h g rfl).2
theorem EOwn.of_block {w w' : World} {base g cap : Nat} {l : List (Int × Int)} (h : EOwn w base g cap l) (e : w'.heap[g]? = w.heap[g]?) : EOwn w' base g cap l := by
  refine ⟨h.1, ?_⟩
  rcases h.2 with hn | ⟨g', cap', cur, hv, hb', hgg, rest⟩
  · exact .inl hn
  · simp at hv
    obtain ⟨rfl, rfl⟩ := hv
    exact .inr ⟨g, cap, cur, rfl, hb', e.trans hgg, rest⟩
theorem EOwn.below {w w' : World} {base g cap B : Nat} {l : List (Int × Int)} (h : EOwn w base g cap l) (hb : Below B w w') (hB : g < B) : EOwn w' base g cap l := h.of_block (hb.block g hB)
theorem EOwn.next {w w' : World} {base g cap : Nat} {l : List (Int × Int)} (h : EOwn w base g cap l) (hb : Below w.heap.size w w') : EOwn w' base g cap l := h.below hb h.lt
theorem EOwn.grown {w w' : World} {base g cap : Nat} {l : List (Int × Int)} {row : Option Nat} (h : EOwn w base g cap l) (hg : w.grownBy w' row) (hne : some g ≠ row) : EOwn w' base g cap l := h.of_block (hg.block g h.lt hne)
theorem EOwn.room {w : World} {base g cap : Nat} {l : List (Int × Int)} (h : EOwn w base g cap l) : l.length ≤ cap := by
  obtain ⟨hl, h0 | ⟨g', cap', cur, hv, hb, hh, h1, h2, h3, h4⟩⟩ := h
  · simp at h0
  · simp at hv
    omega
theorem EOwn.empty (w : World) {base : Nat} (hb : base ≤ w.heap.size) : EOwn (w.alloc (.cells #[] 94)) base w.heap.size 0 [] := by
  have := World.ownsRow_lit (base := base) (e := 94) (size := 2) w #[] 0 hb (by simp) (by simp)
  simpa [EOwn, ecells] using this
theorem news_edge {w : World} {B : Nat} {x y : Int} (h0 : w.cell? ⟨B, 0, none⟩ = some (.int .i64 x)) (h1 : w.cell? ⟨B, 1, none⟩ = some (.int .i64 y)) : ∀ j u, [Value.int .i64 x, .int .i64 y][j]? = some u → w.cell? ((⟨B, 0, none⟩ : Addr).add j) = some u :=
  fun j u hu => by
    match j, hu with
    | 0, hu => simp at hu; subst hu; exact h0
    | 1, hu => simp at hu; subst hu; exact h1
    | j + 2, hu => simp at hu
theorem wpList_append_edge {w : World} {ops : Array Oper} {rest : List Oper} {o : Oper} {a : Act} {Q : Exit → Act → World → Prop} (hgd : o.guard = none) (s x : Operand)
    (ho : o.op = .call { callee := .builtin .append, args := #[s, x], argTypes := #[28, 28] }) (base g cap : Nat) (l : List (Int × Int)) (hs : a.eval s = .slice (some ⟨g, 0, none⟩) l.length cap)
    (hown : EOwn w base g cap l) (B c : Nat) (v u : Int) (hx : a.eval x = .slice (some ⟨B, 0, none⟩) 1 c) (h0 : w.cell? ⟨B, 0, none⟩ = some (.int .i64 v)) (h1 : w.cell? ⟨B, 1, none⟩ = some (.int .i64 u)) (hn : l.length ≤ 1000000) (hbase : base ≤ w.heap.size)
    (h : ∀ g' cap' w', EOwn w' base g' cap' (l ++ [(v, u)]) → w.grownBy w' (some g) → (g' = g ∨ g' = w.heap.size) → wpList Tryz.prog ops Q rest (a.put o.dst (.slice (some ⟨g', 0, none⟩) (l.length + 1) cap')) w') : wpList Tryz.prog ops Q (o :: rest) a w := by
  obtain ⟨i, hi, hz0, hz1, hz2⟩ := info_parts Tryz.infoEdge
  refine wpList_append_lies w hgd s x 28 ho base 94 i _ 2 16 Tryz.underlying28 hi hz0 hz1 hz2 rfl (by omega) _ l.length (ecells l) hs hown ⟨B, 0, none⟩ 1 c [.int .i64 v, .int .i64 u] hx rfl (news_edge h0 h1) ?_ (by omega) (by unfold maxLen; omega) (by omega) hbase w.heap.size rfl ?_
  · intro u hu
    simp at hu
    rcases hu with rfl | rfl <;> rfl
  · intro g' cap' w' hown' hgrow hat hlt
    refine h g' cap' w' ?_ hgrow ?_
    · rw [ecells_snoc] at hown'
      unfold EOwn
      rw [List.length_append]
      exact hown'
    · rcases hat with e | e
      · simp [Value.ownBlock] at e; exact Or.inl e.symm
      · exact Or.inr e
theorem step_append_edge {w : World} {ops : Array Oper} {o : Oper} {a : Act} {K : Act → World → Prop} {Q : Exit → Act → World → Prop} {E : Prop} (hgd : o.guard = none) (s x : Operand)
    (ho : o.op = .call { callee := .builtin .append, args := #[s, x], argTypes := #[28, 28] }) (base g cap : Nat) (l : List (Int × Int)) (hs : a.eval s = .slice (some ⟨g, 0, none⟩) l.length cap)
    (hown : EOwn w base g cap l) (B c : Nat) (v u : Int) (hx : a.eval x = .slice (some ⟨B, 0, none⟩) 1 c) (h0 : w.cell? ⟨B, 0, none⟩ = some (.int .i64 v)) (h1 : w.cell? ⟨B, 1, none⟩ = some (.int .i64 u)) (hn : l.length ≤ 1000000) (hbase : base ≤ w.heap.size)
    (h : ∀ g' cap' w', EOwn w' base g' cap' (l ++ [(v, u)]) → w.grownBy w' (some g) → (g' = g ∨ g' = w.heap.size) → K (a.put o.dst (.slice (some ⟨g', 0, none⟩) (l.length + 1) cap')) w') :
    if Region.wanted o (yielded ops a.tmps) = true then Oper.wp Tryz.prog o a w K Q else E := by
  have hw : Region.wanted o (yielded ops a.tmps) = true := by simp [Region.wanted, hgd]
  rw [if_pos hw]
  obtain ⟨i, hi, hz0, hz1, hz2⟩ := info_parts Tryz.infoEdge
  refine wp_append_lies w s x 28 ho base 94 i _ 2 16 Tryz.underlying28 hi hz0 hz1 hz2 rfl (by omega) _ l.length (ecells l) hs hown ⟨B, 0, none⟩ 1 c [.int .i64 v, .int .i64 u] hx rfl (news_edge h0 h1) ?_ (by omega) (by unfold maxLen; omega) (by omega) hbase w.heap.size rfl ?_
  · intro u hu
    simp at hu
    rcases hu with rfl | rfl <;> rfl
  · intro g' cap' w' hown' hgrow hat hlt
    refine h g' cap' w' ?_ hgrow ?_
    · rw [ecells_snoc] at hown'
      unfold EOwn
      rw [List.length_append]
      exact hown'
    · rcases hat with e | e
      · simp [Value.ownBlock] at e; exact Or.inl e.symm
      · exact Or.inr e
def ELies (w : World) (g : Nat) (l : List (Int × Int)) : Prop := EHas w g l.length (er (Lf l) (Hf l))
theorem ELies.at {w : World} {g : Nat} {a b : List (Int × Int)} {x : Int × Int} (h : ELies w g (a ++ x :: b)) : w.cell? ⟨g, a.length * 2, none⟩ = some (.int .i64 x.1) ∧ w.cell? ⟨g, a.length * 2 + 1, none⟩ = some (.int .i64 x.2) := by
  have h0 := EHas.cell h (j := a.length * 2) (by simp)
  have h1 := EHas.cell h (j := a.length * 2 + 1) (by simp; omega)
  rw [er0] at h0
  rw [er1] at h1
  have e : (a ++ x :: b).getD a.length (0, 0) = x := by simp [List.getD]
  unfold Lf at h0
  unfold Hf at h1
  rw [e] at h0 h1
  exact ⟨h0, h1⟩
theorem getD_swap (a b : List (Int × Int)) (x y : Int × Int) (k : Nat) : (a ++ x :: y :: b).getD k (0, 0) = if k = a.length + 1 then y else if k = a.length then x else (a ++ y :: x :: b).getD k (0, 0) := by
  by_cases h1 : k = a.length + 1
  · subst h1; rw [if_pos rfl]; simp [List.getD, List.getElem?_append_right]
  · rw [if_neg h1]
    by_cases h2 : k = a.length
    · subst h2; rw [if_pos rfl]; simp [List.getD]
    · rw [if_neg h2]
      by_cases h3 : k < a.length
      · simp [List.getD, List.getElem?_append_left h3]
      · obtain ⟨m, rfl⟩ : ∃ m, k = a.length + (m + 2) := ⟨k - a.length - 2, by omega⟩
        simp [List.getD, List.getElem?_append_right]
theorem er_swap (a b : List (Int × Int)) (x y : Int × Int) (j : Nat) :
    (if j = a.length * 2 + 1 then x.2 else if j = a.length * 2 then x.1 else if j = (a.length + 1) * 2 + 1 then y.2 else if j = (a.length + 1) * 2 then y.1 else er (Lf (a ++ y :: x :: b)) (Hf (a ++ y :: x :: b)) j) = er (Lf (a ++ x :: y :: b)) (Hf (a ++ x :: y :: b)) j := by
  unfold er Lf Hf
  rw [getD_swap a b x y (j / 2)]
  have hm : j % 2 = 0 ∨ j % 2 = 1 := by omega
  by_cases h1 : j = a.length * 2 + 1
  · have e1 : j / 2 = a.length := by omega
    have e2 : ¬ j % 2 = 0 := by omega
    rw [if_pos h1, if_neg e2, if_neg (by omega), if_pos e1]
  rw [if_neg h1]
  by_cases h2 : j = a.length * 2
  · have e1 : j / 2 = a.length := by omega
    have e2 : j % 2 = 0 := by omega
    rw [if_pos h2, if_pos e2, if_neg (by omega), if_pos e1]
  rw [if_neg h2]
  by_cases h3 : j = (a.length + 1) * 2 + 1
  · have e1 : j / 2 = a.length + 1 := by omega
    have e2 : ¬ j % 2 = 0 := by omega
    rw [if_pos h3, if_neg e2, if_pos e1]
  rw [if_neg h3]
  by_cases h4 : j = (a.length + 1) * 2
  · have e1 : j / 2 = a.length + 1 := by omega
    have e2 : j % 2 = 0 := by omega
    rw [if_pos h4, if_pos e2, if_pos e1]
  rw [if_neg h4, if_neg (show ¬ j / 2 = a.length + 1 by omega), if_neg (show ¬ j / 2 = a.length by omega)]
abbrev BHas (w : World) (b n : Nat) (f : Nat → Bool) : Prop := VHas w b 4 n (fun j => .bool (f j))
theorem BHas.put {w : World} {b n : Nat} {f : Nat → Bool} (h : BHas w b n f) (i : Nat) (v : Bool) : BHas (w.setCell ⟨b, i, none⟩ (.bool v)) b n (fun j => if j = i then v else f j) :=
  (VHas.set h i (.bool v)).congr (fun j _ => by by_cases e : j = i <;> simp [e])
theorem BHas.same {w : World} {b n : Nat} {f g : Nat → Bool} (h : BHas w b n f) (e : ∀ j, j < n → f j = g j) : BHas w b n g := VHas.congr h (fun j hj => by rw [e j hj])
theorem Tryz.infoBool : (Tryz.prog.info? 4).map (fun i => (i.zero, i.size, i.bytes)) = some (some (.bool false), 1, 1) := by kernel_rfl
theorem make_bools (n : Nat) (hn : n ≤ 1048576) (w : World) :
    (Instr.makeSlice 125 (.int .i64 (n : Int)) (.int .i64 (n : Int))).run Tryz.prog w = .ok (.slice (some ⟨w.heap.size, 0, none⟩) n n) (w.alloc (.cells (madeCells #[.bool false] n) 4)) :=
  run_make_row' 125 4 _ 1 Tryz.underlying125 Tryz.infoBool rfl .i64 .i64 n (by omega) (by omega) w
theorem made_bools (w : World) (n : Nat) : BHas (w.alloc (.cells (madeCells #[.bool false] n) 4)) w.heap.size n (fun _ => false) := VHas.of_row (World.rowIs_made w _ n _)
def icells (f : Nat → Int) (n : Nat) : List Value := (List.range n).map fun j => .int .i64 (f j)
theorem icells_at {f : Nat → Int} {n j : Nat} (hj : j < n) : (icells f n)[j]? = some (.int .i64 (f j)) := by
  rw [icells, List.getElem?_map, List.getElem?_range hj]; rfl
theorem icells_len (f : Nat → Int) (n : Nat) : (icells f n).length = n := by simp [icells]
theorem icells_congr {f g : Nat → Int} {n : Nat} (h : ∀ j, j < n → f j = g j) : icells f n = icells g n := by
  apply List.ext_getElem?
  intro j
  by_cases hj : j < n
  · rw [icells_at hj, icells_at hj, h j hj]
  · rw [List.getElem?_eq_none (by rw [icells_len]; omega), List.getElem?_eq_none (by rw [icells_len]; omega)]
theorem icells_put {f g : Nat → Int} {n : Nat} (v : Int) (h1 : ∀ j, j < n → f j = g j) (h2 : g n = v) : icells f n ++ [.int .i64 v] = icells g (n + 1) := by
  rw [icells_congr h1]
  simp [icells, List.range_succ, h2]
def IOwn (w : World) (base g cap n : Nat) (f : Nat → Int) : Prop := w.ownsRow base 2 1 (.slice (some ⟨g, 0, none⟩) n cap) n (icells f n)
theorem IOwn.has {w : World} {base g cap n : Nat} {f : Nat → Int} (h : IOwn w base g cap n f) : IHas w g n f := by
  obtain ⟨hl, h0 | ⟨g', cap', cur, hv, hb, hh, h1, h2, h3, h4⟩⟩ := h
  · simp at h0
  · simp at hv
    obtain ⟨rfl, rfl⟩ := hv
    refine ⟨cur, hh, by omega, fun j hj => ?_⟩
    have : (cur.toList.take (n * 1))[j]? = (icells f n)[j]? := by rw [h4]
    rw [List.getElem?_take_of_lt (by omega), icells_at hj] at this
    simpa using this
theorem IOwn.base {w : World} {base g cap n : Nat} {f : Nat → Int} (h : IOwn w base g cap n f) : base ≤ g := (World.ownsRow.lt h g rfl).1
theorem IOwn.congr {w : World} {base g cap n : Nat} {f f' : Nat → Int} (h : IOwn w base g cap n f) (e : ∀ j, j < n → f j = f' j) : IOwn w base g cap n f' := by
  unfold IOwn at h ⊢
  rw [← icells_congr e]; exact h
theorem IOwn.below {w w' : World} {base g cap n B : Nat} {f : Nat → Int} (h : IOwn w base g cap n f) (hb : Below B w w') (hB : g < B) : IOwn w' base g cap n f := by
  refine ⟨h.1, ?_⟩
  rcases h.2 with hn | ⟨g', cap', cur, hv, hb', hgg, rest⟩
  · exact .inl hn
  · simp at hv
    obtain ⟨rfl, rfl⟩ := hv
    exact .inr ⟨g, cap, cur, rfl, hb', (hb.block g hB).trans hgg, rest⟩
theorem IOwn.lt {w : World} {base g cap n : Nat} {f : Nat → Int} (h : IOwn w base g cap n f) : g < w.heap.size := (World.ownsRow.lt h g rfl).2
theorem IOwn.grown {w w' : World} {base g cap n : Nat} {f : Nat → Int} {b : Nat} (h : IOwn w base g cap n f) (hg : w.grownBy w' (some b)) (hne : g ≠ b) : IOwn w' base g cap n f := by
  refine ⟨h.1, ?_⟩
  rcases h.2 with hn | ⟨g', cap', cur, hv, hb', hgg, rest⟩
  · exact .inl hn
  · simp at hv
    obtain ⟨rfl, rfl⟩ := hv
    exact .inr ⟨g, cap, cur, rfl, hb', (hg.block g h.lt (by simp; exact hne)).trans hgg, rest⟩
theorem IOwn.room {w : World} {base g cap n : Nat} {f : Nat → Int} (h : IOwn w base g cap n f) : n ≤ cap := by
  obtain ⟨hl, h0 | ⟨g', cap', cur, hv, hb, hh, h1, h2, h3, h4⟩⟩ := h
  · simp at h0
  · simp at hv
    omega
theorem IOwn.empty (w : World) {base : Nat} (hb : base ≤ w.heap.size) (f : Nat → Int) : IOwn (w.alloc (.cells #[] 2)) base w.heap.size 0 0 f := by
  have := World.ownsRow_lit (base := base) (e := 2) (size := 1) w #[] 0 hb (by simp) (by simp)
  simpa [IOwn, icells] using this
theorem wpList_append_int {w : World} {ops : Array Oper} {rest : List Oper} {o : Oper} {a : Act} {Q : Exit → Act → World → Prop} (hgd : o.guard = none) (s x : Operand)
    (ho : o.op = .call { callee := .builtin .append, args := #[s, x], argTypes := #[27, 27] }) (base g cap n : Nat) (f : Nat → Int) (hs : a.eval s = .slice (some ⟨g, 0, none⟩) n cap)
    (hown : IOwn w base g cap n f) (ad : Addr) (c : Nat) (v : Int) (hx : a.eval x = .slice (some ad) 1 c) (h0 : w.cell? (ad.add 0) = some (.int .i64 v)) (hn : n ≤ 1000000000) (hbase : base ≤ w.heap.size)
    (h : ∀ g' cap' w', (∀ f', (∀ j, j < n → f' j = f j) → f' n = v → IOwn w' base g' cap' (n + 1) f') → w.grownBy w' (some g) → (g' = g ∨ g' = w.heap.size) → wpList Tryz.prog ops Q rest (a.put o.dst (.slice (some ⟨g', 0, none⟩) (n + 1) cap')) w') : wpList Tryz.prog ops Q (o :: rest) a w := by
  obtain ⟨i, hi, hz0, hz1, hz2⟩ := info_parts Tryz.infoInt
  refine wpList_append_lies w hgd s x 27 ho base 2 i _ 1 8 Tryz.underlying27 hi hz0 hz1 hz2 rfl (by omega) _ n (icells f n) hs hown ad 1 c [.int .i64 v] hx rfl ?_ ?_ (by omega) (by unfold maxLen; omega) (by omega) hbase w.heap.size rfl ?_
  · intro j u hu
    match j, hu with
    | 0, hu => simp at hu; subst hu; exact h0
    | j + 1, hu => simp at hu
  · intro u hu
    simp at hu
    subst hu; rfl
  · intro g' cap' w' hown' hgrow hat hlt
    refine h g' cap' w' (fun f' e1 e2 => ?_) hgrow ?_
    · rw [icells_put v (fun j hj => (e1 j hj).symm) e2] at hown'
      exact hown'
    · rcases hat with e | e
      · simp [Value.ownBlock] at e; exact Or.inl e.symm
      · exact Or.inr e
def Ans (w w' : World) (e : Ending) (m : Nat) (D : Nat → Int) : Prop := ∃ ao cap, e = .returned (.slice ao m cap) ∧ (0 < m → ∃ g, ao = some ⟨g, 0, none⟩ ∧ w.heap.size ≤ g ∧ IHas w' g m D) ∧ Below w.heap.size w w'
theorem ans_of {w w' : World} {e : Ending} {m m' : Nat} {D : Nat → Int} (h : m = m') (H : Ans w w' e m' D) : Ans w w' e m D := by rw [h]; exact H
end
section
open Go
theorem yielded_congr {ops ops' : Array Oper} (h : ∀ j : Nat, (ops[j]?).map (·.dst) = (ops'[j]?).map (·.dst)) (tmps : Array Value) : yielded ops tmps = yielded ops' tmps := by
  funext j
  have e : (ops[j]?.bind fun x => x.dst) = (ops'[j]?.bind fun x => x.dst) := by
    have := h j
    cases h1 : ops[j]? <;> cases h2 : ops'[j]? <;> simp_all
  unfold yielded
  rw [e]
theorem ready_congr {md : Region.Mode} {ops ops' : Array Oper} (hs : ops.size = ops'.size) (h : ∀ j : Nat, (ops[j]?).map (·.after) = (ops'[j]?).map (·.after)) (listed : Array Bool) : Region.ready md ops listed = Region.ready md ops' listed := by
  unfold Region.ready
  rw [hs]
  apply List.filter_congr
  intro j _
  have := h j
  cases h1 : ops[j]? <;> cases h2 : ops'[j]? <;> simp_all
def fwdB (ops : Array Oper) : Bool := (List.range ops.size).all fun j => match ops[j]? with
  | some o => o.after.all fun e => !Region.binds .any e || decide (e.on < j)
  | none => true
def lastB (ops : Array Oper) (n : Nat) : Bool := match ops[n]? with
  | some o => (List.range n).all fun j => o.after.any fun e => Region.binds .any e && e.on == j
  | none => false
theorem ready_ne {ops : Array Oper} (hf : fwdB ops = true) {listed : Array Bool} (hs : listed.size = ops.size) : ∀ j, j < ops.size → listed.getD j true = false → Region.ready .any ops listed ≠ [] := by
  intro j
  induction j using Nat.strongRecOn with
  | ind j ih =>
    intro hj hl h0
    have hj' : ops[j]? = some ops[j] := Array.getElem?_eq_getElem hj
    by_cases hr : ∀ e ∈ ops[j].after, Region.binds .any e = true → listed.getD e.on false = true
    · have : j ∈ Region.ready .any ops listed := mem_ready.2 ⟨hl, _, hj', hr⟩
      rw [h0] at this
      cases this
    · have hr' : ∃ e, e ∈ ops[j].after ∧ Region.binds .any e = true ∧ ¬ listed.getD e.on false = true := by
        refine Classical.byContradiction fun hn => hr fun e he hb => ?_
        exact Classical.byContradiction fun hx => hn ⟨e, he, hb, hx⟩
      obtain ⟨e, he, hb, hx⟩ := hr'
      have hlt : e.on < j := by
        unfold fwdB at hf
        have := List.all_eq_true.1 hf j (List.mem_range.2 hj)
        simp only [hj'] at this
        have := Array.all_eq_true_iff_forall_mem.1 this e he
        simpa [hb] using this
      have hlt' : e.on < listed.size := by omega
      refine ih e.on hlt (by omega) ?_ h0
      simp [hlt'] at hx ⊢
      exact hx
theorem all_listed {ops : Array Oper} {n : Nat} (hn : ops.size = n + 1) (hl : lastB ops n = true) {listed : Array Bool} (hs : listed.size = ops.size) (hr : n ∈ Region.ready .any ops listed) : Region.ready .any ops (listed.setIfInBounds n true) = [] := by
  refine List.eq_nil_iff_forall_not_mem.2 fun i hi => ?_
  obtain ⟨hli, o, ho, _⟩ := mem_ready.1 hi
  have hin : i < n + 1 := by
    have := (Array.getElem?_eq_some_iff.1 ho).1
    omega
  obtain ⟨_, o', ho', hall⟩ := mem_ready.1 hr
  by_cases e : i = n
  · subst e
    have : i < listed.size := by omega
    simp [this] at hli
  · unfold lastB at hl
    rw [ho'] at hl
    have := List.all_eq_true.1 hl i (List.mem_range.2 (by omega))
    obtain ⟨ed, hed, hb⟩ : ∃ ed ∈ o'.after, Region.binds .any ed = true ∧ ed.on = i := by
      obtain ⟨x, hx, hp⟩ := Array.any_eq_true.1 this
      exact ⟨_, Array.getElem_mem hx, by simpa using hp⟩
    have h1 := hall ed hed hb.1
    rw [hb.2] at h1
    rw [getD_set_ne true (fun h => e h.symm)] at hli
    have : i < listed.size := by omega
    simp [this] at hli h1
    rw [hli] at h1
    cases h1
section
variable {P : Program} {ops ops' : Array Oper} {C : World → Prop}
theorem any_last {n : Nat} {o o' : Oper} {Q : Act → Prop} {Q' : Exit → Act → World → Prop} (hn : ops.size = n + 1) (hs : ops.size = ops'.size) (hon : ops[n]? = some o) (hon' : ops'[n]? = some o') (hd : o.dst = none) (hd' : o'.dst = none) (hg : o.guard = none) (hg' : o'.guard = none)
    (hsame : ∀ j, j ≠ n → ops[j]? = ops'[j]?) (hafter : o.after = o'.after) (hf : fwdB ops = true) (hl : lastB ops n = true)
    (htail : ∀ a w, C w → Q a → o.wp P a w (fun a' w' => Q' .normal a' w') Q') :
    ∀ (fuel : Nat) (listed : Array Bool) (a : Act) (w : World), listed.size = ops.size → listed.getD n true = false → C w → wpAnyQ P .any ops' C Q fuel listed a → wpAny P .any ops Q' fuel listed a w := by
  have hrc : ∀ listed, Region.ready .any ops listed = Region.ready .any ops' listed := fun listed => ready_congr hs (fun j => by
    by_cases e : j = n
    · subst e; rw [hon, hon']; simp [hafter]
    · rw [hsame j e]) listed
  have hyc : ∀ tmps, yielded ops tmps = yielded ops' tmps := yielded_congr (fun j => by
    by_cases e : j = n
    · subst e; rw [hon, hon']; simp [hd, hd']
    · rw [hsame j e])
  intro fuel
  induction fuel with
  | zero =>
    intro listed a w hsz hun hC h
    exact absurd ((hrc listed).trans h.1) (ready_ne hf hsz n (by omega) hun)
  | succ fuel ih =>
    intro listed a w hsz hun hC h
    refine ⟨fun h0 => absurd h0 (ready_ne hf hsz n (by omega) hun), fun i hi => ?_⟩
    have hi' : i ∈ Region.ready .any ops' listed := (hrc listed) ▸ hi
    have hq := h.2 i hi'
    by_cases e : i = n
    · subst e
      have hnil := all_listed hn hl hsz hi
      have hnil' := (hrc _).symm.trans hnil
      unfold qOp at hq
      simp only [hon'] at hq
      have hw' : Region.wanted o' (yielded ops' a.tmps) = true := by simp [Region.wanted, hg']
      rw [if_pos hw'] at hq
      obtain ⟨v, _, hnext⟩ := hq
      rw [hd'] at hnext
      have hQa : Q a := by
        cases fuel with
        | zero => exact hnext.2
        | succ f => exact hnext.1 hnil'
      unfold wpOp
      simp only [hon]
      have hw : Region.wanted o (yielded ops a.tmps) = true := by simp [Region.wanted, hg]
      rw [if_pos hw]
      refine .inl (Oper.wp_mono (fun a' w' hq' => ?_) (htail a w hC hQa))
      cases fuel with
      | zero => exact ⟨hnil, hq'⟩
      | succ f => exact ⟨fun _ => hq', fun j hj => by rw [hnil] at hj; cases hj⟩
    · have hq2 : qOp P ops C i (wpAnyQ P .any ops' C Q fuel (listed.setIfInBounds i true)) a := by
        unfold qOp at hq ⊢
        rw [hsame i e, hyc]
        exact hq
      refine wpOp_of_qOp hC (fun a' w' hC' hK => ih _ a' w' (by simpa using hsz) ?_ hC' hK) hq2
      rw [getD_set_ne true e]
      exact hun
end
theorem wp_region_last {P : Program} {id : Nat} {Q : Exit → Act → World → Prop} {a : Act} {w : World} {l : List Oper} {o : Oper} (hm : P.follows .mixedOrders = true)
    (hd : o.dst = none) (hg : o.guard = none) (hB : Region.lexB .any (l ++ [{ o with op := .move (.const undef) }]).toArray = true) (hf : fwdB (l ++ [o]).toArray = true) (hl : lastB (l ++ [o]).toArray l.length = true)
    (h : wpQuiet P (l ++ [{ o with op := .move (.const undef) }]).toArray (fun w' => ∃ n, w' = w.drewN n) (fun a' => ∀ w', (∃ n, w' = w.drewN n) → o.wp P a' w' (fun a2 w2 => Q .normal a2 w2) Q) (l ++ [{ o with op := .move (.const undef) }]) a) :
    (Code.region id (l ++ [o]).toArray true).wp P Q a w := by
  simp only [Region.lexB, Bool.and_eq_true] at hB
  refine wp_region_any hm (any_last (ops' := (l ++ [{ o with op := .move (.const undef) }]).toArray) (n := l.length) (o := o) (o' := { o with op := .move (.const undef) }) (C := fun w' => ∃ n, w' = w.drewN n) (Q := fun a' => ∀ w', (∃ n, w' = w.drewN n) → o.wp P a' w' (fun a2 w2 => Q .normal a2 w2) Q) (by simp) (by simp) (by simp) (by simp) hd hd hg hg (fun j hj => ?_) rfl hf hl (fun a' w' hC hq => hq w' hC) _ _ _ _ (by simp) (by simp) ⟨1, rfl⟩ ?_)
  · simp only [List.getElem?_toArray]
    by_cases hlt : j < l.length
    · rw [List.getElem?_append_left hlt, List.getElem?_append_left hlt]
    · rw [List.getElem?_eq_none (by simp; omega), List.getElem?_eq_none (by simp; omega)]
  · have := wpAnyQ_lex (C := fun w' => ∃ n, w' = w.drewN n) (md := .any) hB.1 (l ++ [{ o with op := .move (.const undef) }]) 0 (Array.replicate (l ++ [{ o with op := .move (.const undef) }]).toArray.size false) a (by simp) (by simpa using hB.2) h
    simpa using this
theorem wp_region_last_lit {P : Program} {id : Nat} {Q : Exit → Act → World → Prop} {a : Act} {w : World} {L : List Oper} (n : Nat) {o : Oper} (hm : P.follows .mixedOrders = true) (hL : L = L.take n ++ [o])
    (hd : o.dst = none) (hg : o.guard = none) (hB : Region.lexB .any (L.take n ++ [{ o with op := .move (.const undef) }]).toArray = true) (hf : fwdB L.toArray = true) (hl : lastB L.toArray n = true) (hn : (L.take n).length = n)
    (h : wpQuiet P (L.take n ++ [{ o with op := .move (.const undef) }]).toArray (fun w' => ∃ n, w' = w.drewN n) (fun a' => ∀ w', (∃ n, w' = w.drewN n) → o.wp P a' w' (fun a2 w2 => Q .normal a2 w2) Q) (L.take n ++ [{ o with op := .move (.const undef) }]) a) :
    (Code.region id L.toArray true).wp P Q a w := by
  rw [hL]
  refine wp_region_last hm hd hg hB (by rw [← hL]; exact hf) (by rw [← hL, hn]; exact hl) h
end
section
open Go.RowKit
attribute [local go_sem ↓] Go.wp_at_zero Go.wp_at_succ
def flat (p : Nat) (B : Nat → Nat → Bool) (j : Nat) : Bool := B (j / p) (j % p)
theorem flat_at {p x y : Nat} (B : Nat → Nat → Bool) (hy : y < p) : flat p B (x * p + y) = B x y := by
  unfold flat
  have h1 : (x * p + y) / p = x := by
    rw [Nat.mul_comm, Nat.mul_add_div (by omega), Nat.div_eq_of_lt hy]; rfl
  have h2 : (x * p + y) % p = y := by
    rw [Nat.mul_comm, Nat.mul_add_mod, Nat.mod_eq_of_lt hy]
  rw [h1, h2]
theorem flat_upd {p x y : Nat} (B : Nat → Nat → Bool) (hy : y < p) (v : Bool) (j : Nat) : (if j = x * p + y then v else flat p B j) = flat p (upd B x y v) j := by
  by_cases e : j = x * p + y
  · rw [if_pos e, e, flat_at _ hy]; simp [upd]
  · rw [if_neg e]
    unfold flat upd
    rw [if_neg (fun h => e ?_)]
    have := Nat.div_add_mod j p
    rw [h.1, h.2, Nat.mul_comm] at this
    omega
theorem row_lt {p x y : Nat} (hx : x < p) (hy : y < p) : x * p + y < p * p := by
  have h1 : x * p + y < (x + 1) * p := by rw [Nat.add_mul]; omega
  have h2 : (x + 1) * p ≤ p * p := Nat.mul_le_mul_right p (by omega)
  omega
abbrev Sq (w : World) (b p : Nat) (B : Nat → Nat → Bool) : Prop := BHas w b (p * p) (flat p B)
theorem Sq.at {w : World} {b p : Nat} {B : Nat → Nat → Bool} (h : Sq w b p B) {x y : Nat} (hx : x < p) (hy : y < p) : w.cell? ⟨b, x * p + y, none⟩ = some (.bool (B x y)) := by
  rw [VHas.cell h (row_lt hx hy), flat_at _ hy]
theorem Sq.put {w : World} {b p : Nat} {B : Nat → Nat → Bool} (h : Sq w b p B) {x y : Nat} (hy : y < p) (v : Bool) : Sq (w.setCell ⟨b, x * p + y, none⟩ (.bool v)) b p (upd B x y v) :=
  (BHas.put h (x * p + y) v).same (fun j _ => flat_upd B hy v j)
theorem idx_nn (x y p : Nat) : ((x : Int) * (p : Int) + (y : Int)) = ((x * p + y : Nat) : Int) := by simp
theorem mul_lt24 {x p : Nat} (hx : x < p) (hp : p ≤ 24) : x * p ≤ 552 := Nat.le_trans (Nat.mul_le_mul (show x ≤ 23 by omega) hp) (by omega)
set_option maxHeartbeats 1000000 in
theorem l3Square_any (p : Nat) (ao : Option Addr) (n cap : Nat) (F T G : Nat → Int) (hp1 : 1 ≤ p) (hp : p ≤ 24) (hn : n ≤ 100) (hF : ∀ k, k < n → 0 ≤ F k ∧ F k < (p : Int)) (hT : ∀ k, k < n → 0 ≤ T k ∧ T k < (p : Int)) (hFT : ∀ k, k < n → F k ≠ T k) (w : World) (hr : Row w ao n F T G) :
    Calls Tryz.prog 85 #[.agg #[.int .i64 (p : Int), .slice ao n cap]] w fun e w' => e = .returned (.slice (some ⟨w.heap.size + 1, 0, none⟩) (p * p) (p * p)) ∧ Sq w' (w.heap.size + 1) p (nbA F T n) ∧ Below w.heap.size w w' := by
  have hpp : p * p ≤ 576 := Nat.mul_le_mul hp hp
  have hmk := make_bools (p * p) (by omega)
  simp only [Int.natCast_mul] at hmk
  have hpi : (p : Int) * (p : Int) ≤ 576 := by
    have : ((p * p : Nat) : Int) ≤ 576 := by omega
    simpa using this
  have hpi0 : 0 ≤ (p : Int) * (p : Int) := Int.mul_nonneg (by omega) (by omega)
  go_enter Tryz.func85, Tryz.ntmps85
  go_wp2
  clear hmk
  go_loopw [4] (fun i wr => ∃ k : Nat, k ≤ n ∧ i = .int .i64 k ∧ Sq wr (w.heap.size + 1) p (nbA F T k) ∧ Below (w.heap.size + 1) (w.alloc (.cells #[.int .i64 (p : Int), .slice ao n cap] 26)) wr) (fun i _ => n - (intOf i).toNat)
  case atStart => exact ⟨0, Nat.zero_le _, rfl, by have := made_bools (w.alloc (.cells #[.int .i64 (p : Int), .slice ao n cap] 26)) (p * p); simp only [World.size_alloc] at this; exact this.same (fun j _ => rfl), (Below.refl _ _).alloc (by simp) _⟩
  case round =>
    obtain ⟨k, hk, rfl, hsq, hbel⟩ := hrel
    obtain ⟨x0, x1, xs⟩ := box2 hbel
    by_cases hlt : k < n
    rotate_left
    · have hkn : k = n := by omega
      subst hkn
      go_wp2
      go_ret
      exact ⟨rfl, hsq, unbox hbel (by omega)⟩
    obtain ⟨b, o, hao, c0, c1, c2⟩ := ((hr.alloc _).below hbel (by simp)) k hlt
    subst hao
    have hf0 := hF k hlt
    have ht0 := hT k hlt
    obtain ⟨f, hf⟩ : ∃ f : Nat, F k = (f : Int) := ⟨(F k).toNat, by omega⟩
    obtain ⟨t, ht⟩ : ∃ t : Nat, T k = (t : Int) := ⟨(T k).toNat, by omega⟩
    have hFT' := hFT k hlt
    have hst : Hid (nbA F T (k + 1) = upd2 (nbA F T k) f t true) := by
      show upd2 (nbA F T k) (F k).toNat (T k).toNat true = _
      rw [hf, ht]; rfl
    rw [hf] at c0 hf0
    rw [ht] at c1 ht0
    have hfe := hf
    have hte := ht
    clear hf ht
    have hfp : f < p := by omega
    have htp : t < p := by omega
    have hbw : b < wr.heap.size := lt_of_cell c0
    have hsl := VHas.lt hsq
    have d0 := Sq.at hsq hfp htp
    have z0 := VHas.frozen hsq (f * p + t)
    have d1 := Sq.at hsq htp hfp
    have z1 := VHas.frozen hsq (t * p + f)
    have h3 := (Sq.put (Sq.put hsq (x := f) htp true) (x := t) hfp true).alloc (.cells #[.int .i64 (f : Int), .int .i64 (t : Int), .int .i64 (G k)] 67)
    have hne : f ≠ t := by
      rw [hfe, hte] at hFT'
      omega
    have n1 : ¬ f * p + t = t * p + f := fun e => by
      have e1 := flat_at (p := p) (x := f) (fun x y => x == t) htp
      rw [e, flat_at _ hfp] at e1
      simp at e1
      exact hne e1
    have n2 : ¬ t * p + f = f * p + t := fun e => n1 e.symm
    have i1 := mul_lt24 hfp hp
    have i2 := mul_lt24 htp hp
    have i3 := row_lt hfp htp
    have i4 := row_lt htp hfp
    have j1 : 0 ≤ (f : Int) * (p : Int) := Int.mul_nonneg (by omega) (by omega)
    have j2 : (f : Int) * (p : Int) ≤ 552 := by have : ((f * p : Nat) : Int) ≤ 552 := by omega
                                                simpa using this
    have j3 : 0 ≤ (t : Int) * (p : Int) := Int.mul_nonneg (by omega) (by omega)
    have j4 : (t : Int) * (p : Int) ≤ 552 := by have : ((t * p : Nat) : Int) ≤ 552 := by omega
                                                simpa using this
    have j5 : (f : Int) * (p : Int) + (t : Int) < (p : Int) * (p : Int) := by have : ((f * p + t : Nat) : Int) < ((p * p : Nat) : Int) := by omega
                                                                              simpa using this
    have j6 : (t : Int) * (p : Int) + (f : Int) < (p : Int) * (p : Int) := by have : ((t * p + f : Nat) : Int) < ((p * p : Nat) : Int) := by omega
                                                                              simpa using this
    have j7 : ((f : Int) * (p : Int) + (t : Int)).toNat = f * p + t := by rw [idx_nn]; omega
    have j8 : ((t : Int) * (p : Int) + (f : Int)).toNat = t * p + f := by rw [idx_nn]; omega
    have S := ((hbel.setCell (p := ⟨w.heap.size + 1, f * p + t, none⟩) (by simp) (.bool true)).setCell (p := ⟨w.heap.size + 1, t * p + f, none⟩) (by simp) (.bool true)).alloc (o := .cells #[.int .i64 (f : Int), .int .i64 (t : Int), .int .i64 (G k)] 67) (by simp; omega)
    clear hsq i1 i2 i3 i4 hfe hte hFT'
    go_wp2
    go_roundw
    case rel => exact ⟨k + 1, by omega, by go_num, by rw [hst.out]; exact h3, S⟩
    case measure => simp [intOf]; omega
theorem idx_facts {x y p : Nat} (hx : x < p) (hy : y < p) (hp : p ≤ 24) : 0 ≤ (x : Int) * (p : Int) ∧ (x : Int) * (p : Int) ≤ 552 ∧ (x : Int) * (p : Int) + (y : Int) < (p : Int) * (p : Int) ∧ ((x : Int) * (p : Int) + (y : Int)).toNat = x * p + y := by
  have i1 := mul_lt24 hx hp
  have i3 := row_lt hx hy
  refine ⟨Int.mul_nonneg (by omega) (by omega), ?_, ?_, by rw [idx_nn]; omega⟩
  · have : ((x * p : Nat) : Int) ≤ 552 := by omega
    simpa using this
  · have : ((x * p + y : Nat) : Int) < ((p * p : Nat) : Int) := by omega
    simpa using this
set_option maxHeartbeats 1000000 in
theorem l3Neighbours_any (bs p a : Nat) (B : Nat → Nat → Bool) (hp : p ≤ 24) (ha : a < p) (w : World) (hsq : Sq w bs p B) :
    Calls Tryz.prog 87 #[.slice (some ⟨bs, 0, none⟩) (p * p) (p * p), .int .i64 (p : Int), .int .i64 (a : Int)] w fun e w' => ∃ g c, e = .returned (.slice (some ⟨g, 0, none⟩) (cntB (B a) p) c) ∧ w.heap.size ≤ g ∧ IHas w' g (cntB (B a) p) (nf (B a) p) ∧ Below w.heap.size w w' := by
  have hO0 : IOwn (w.alloc (.cells #[] 2)) w.heap.size w.heap.size 0 0 (nf (B a) 0) := IOwn.empty w nl _
  go_enter Tryz.func87, Tryz.ntmps87
  go_wp2
  go_loopw [7, 8] (fun d i wr => ∃ k g c : Nat, k ≤ p ∧ i = .int .i64 k ∧ d = .slice (some ⟨g, 0, none⟩) (cntB (B a) k) c ∧ IOwn wr w.heap.size g c (cntB (B a) k) (nf (B a) k) ∧ Below w.heap.size w wr) (fun _ i _ => p - (intOf i).toNat)
  case atStart => exact ⟨0, w.heap.size, 0, Nat.zero_le _, rfl, rfl, hO0, (Below.refl _ _).alloc nl _⟩
  case round =>
    clear hO0
    obtain ⟨k, g, c, hk, rfl, rfl, hown, hbel⟩ := hrel
    have hgl := hown.lt
    have hgb := hown.base
    have hck := cntB_le (B a) k
    by_cases hlt : k < p
    rotate_left
    · have hkn : k = p := by omega
      subst hkn
      go_wp2
      go_ret
      exact ⟨g, c, rfl, hgb, hown.has, hbel⟩
    have hlt' : (k : Int) < (p : Int) := by omega
    obtain ⟨j1, j2, j3, j4⟩ := idx_facts ha hlt hp
    have d0 := Sq.at (VHas.below hsq hbel (VHas.lt hsq)) ha hlt
    cases hb : B a k
    · have e1 : cntB (B a) (k + 1) = cntB (B a) k := cntB_same hb
      have e2 : nf (B a) (k + 1) = nf (B a) k := by simp [nf, hb]
      rw [hb] at d0
      go_wp2
      go_roundw
      case rel => exact ⟨k + 1, g, c, by omega, by go_num, by rw [e1], by rw [e1, e2]; exact hown, hbel⟩
      case measure => simp [intOf]; omega
    · have e1 : cntB (B a) (k + 1) = cntB (B a) k + 1 := cntB_succ hb
      have e2 : nf (B a) (k + 1) = fun j => if j = cntB (B a) k then (k : Int) else nf (B a) k j := by simp [nf, hb]
      rw [hb] at d0
      go_wp2_with (at_builtin; refine wpList_append_int rfl _ _ rfl w.heap.size g c (cntB (B a) k) (nf (B a) k) rfl (by exact hown.below ((Below.refl _ _).alloc nl _) (by omega)) ⟨wr.heap.size, 0, none⟩ 1 (k : Int) rfl (by simp [go_sem]) (by omega) (by simp; omega) ?_; intro g' c' w3 hown3 hgrow3 hat3)
      have hown4 : IOwn w3 w.heap.size g' c' (cntB (B a) (k + 1)) (nf (B a) (k + 1)) := by
        rw [e1]
        exact hown3 _ (fun j hj => by rw [e2]; simp only []; rw [if_neg (by omega)]) (by rw [e2]; simp)
      have hB3 := (hbel.alloc (o := .cells #[.int .i64 (k : Int)] 2) hbel.size).grown hgrow3 (by have := hbel.size; simp; omega) (fun j hj => by cases hj; omega)
      go_wp2
      go_roundw
      case rel => exact ⟨k + 1, g', c', by omega, by go_num, by rw [e1], hown4, hB3⟩
      case measure => simp [intOf]; omega
set_option maxHeartbeats 2000000 in
theorem l3Take_any (bs p a : Nat) (B : Nat → Nat → Bool) (hp : p ≤ 24) (ha : a < p) (hB : Fair B) (w : World) (hsq : Sq w bs p B) :
    Calls Tryz.prog 88 #[.slice (some ⟨bs, 0, none⟩) (p * p) (p * p), .int .i64 (p : Int), .int .i64 (a : Int)] w fun e w' => e = .returned (.tuple #[]) ∧ Sq w' bs p (tk B a) ∧ w.grownBy w' (some bs) := by
  have hbl := VHas.lt hsq
  obtain ⟨n, hn⟩ : ∃ n, cntB (B a) p = n := ⟨_, rfl⟩
  obtain ⟨L, hL⟩ : ∃ L, nf (B a) p = L := ⟨_, rfl⟩
  have hat : ∀ i, i < n → ∃ q : Nat, q < p ∧ L i = (q : Int) ∧ B a q = true ∧ cntB (B a) q = i := by
    rw [← hn, ← hL]; exact nf_at p
  have hn24 : n ≤ 24 := by rw [← hn]; exact Nat.le_trans (cntB_le _ _) hp
  have HAT : Hid (∀ i, i < n → ∃ q : Nat, q < p ∧ L i = (q : Int) ∧ B a q = true ∧ cntB (B a) q = i) := hat
  have HN : Hid (cntB (B a) p = n) := hn
  have HB : Hid (Fair B) := hB
  have hnb := l3Neighbours_any bs p a B hp ha w hsq
  rw [hn, hL] at hnb
  have HNB : Hid (Calls Tryz.prog 87 #[.slice (some ⟨bs, 0, none⟩) (p * p) (p * p), .int .i64 (p : Int), .int .i64 (a : Int)] w fun e w' => ∃ g c, e = .returned (.slice (some ⟨g, 0, none⟩) n c) ∧ w.heap.size ≤ g ∧ IHas w' g n L ∧ Below w.heap.size w w') := hnb
  clear hat hn hL hB hnb
  go_enter Tryz.func88, Tryz.ntmps88
  go_wp2_with fail
  refine HNB.out.mono ?_
  rintro e w1 ⟨g, c, rfl, hg, hI1, hb1⟩
  have hsq1 := (VHas.next hsq hb1)
  have hgr1 : w.grownBy w1 (some bs) := ⟨hb1.os, hb1.tape, hb1.output, hb1.size, fun k hk _ => hb1.block k hk⟩
  clear hb1 HNB hsq
  have hne1 : bs ≠ g := by omega
  have hne2 : g ≠ bs := by omega
  go_wp2_with fail
  go_loopw [7] (fun x wr => ∃ i : Nat, i ≤ n ∧ x = .int .i64 i ∧ Sq wr bs p (mid B a i 0 0) ∧ IHas wr g n L ∧ w.grownBy wr (some bs)) (fun x _ => n - (intOf x).toNat)
  case atStart => exact ⟨0, Nat.zero_le _, rfl, BHas.same hsq1 (fun j _ => by unfold flat; rw [mid_start HB.out]), hI1, hgr1⟩
  case round =>
    clear hsq1 hI1 hgr1
    obtain ⟨i, hi, rfl, hs, hI, hgr⟩ := hrel
    by_cases hlt : i < n
    rotate_left
    · have hin : i = n := by omega
      subst hin
      have R : Sq wr bs p (tk B a) := BHas.same hs (fun j hj => by
        unfold flat
        have h1 : j / p < p := Nat.div_lt_of_lt_mul hj
        have h2 : j % p < p := Nat.mod_lt _ (by omega)
        have := mid_end HB.out (a := a) (p := p) (q := 0) h1 h2
        rw [HN.out] at this
        exact this)
      go_wp2
      simp [bodyPost, results, Tryz.results88, go_sem]
      exact ⟨R, hgr⟩
    obtain ⟨q, hqp, hLq, hBq, hcq⟩ := HAT.out i hlt
    have hlt' : (i : Int) < (n : Int) := by omega
    have HQ : Hid (B a q = true ∧ cntB (B a) q = i) := ⟨hBq, hcq⟩
    clear hBq hcq
    go_wp2
    go_loopw [8] (fun x wr2 => ∃ k : Nat, k ≤ n ∧ x = .int .i64 k ∧ Sq wr2 bs p (mid B a i q k) ∧ IHas wr2 g n L ∧ w.grownBy wr2 (some bs)) (fun x _ => n - (intOf x).toNat)
    case atStart => exact ⟨0, Nat.zero_le _, rfl, BHas.same hs (fun j _ => by unfold flat; exact mid_skip), hI, hgr⟩
    case round =>
      clear hs hI hgr
      obtain ⟨k, hk, rfl, hs, hI, hgr⟩ := hrel
      have e0 := hI.cell hlt
      rw [hLq] at e0
      by_cases hltk : k < n
      rotate_left
      · have hkn : k = n := by omega
        subst hkn
        obtain ⟨j1, j2, j3, j4⟩ := idx_facts ha hqp hp
        obtain ⟨i1, i2, i3, i4⟩ := idx_facts hqp ha hp
        have d0 := Sq.at hs ha hqp
        have z0 := VHas.frozen hs (a * p + q)
        have d1 := Sq.at hs hqp ha
        have z1 := VHas.frozen hs (q * p + a)
        have hqa : q ≠ a := fun e => by
          have := HQ.out.1
          rw [e, HB.out.2] at this; cases this
        have n1 : ¬ a * p + q = q * p + a := fun e => by
          have e1 := flat_at (p := p) (x := a) (fun x y => x == q) hqp
          rw [e, flat_at _ ha] at e1
          simp at e1
          exact hqa e1.symm
        have n2 : ¬ q * p + a = a * p + q := fun e => n1 e.symm
        have R : Sq ((wr.setCell ⟨bs, a * p + q, none⟩ (.bool false)).setCell ⟨bs, q * p + a, none⟩ (.bool false)) bs p (mid B a (i + 1) 0 0) := BHas.same (Sq.put (Sq.put hs (x := a) hqp false) (x := q) ha false) (fun j hj => by
          unfold flat
          have h1 : j / p < p := Nat.div_lt_of_lt_mul hj
          have h2 : j % p < p := Nat.mod_lt _ (by omega)
          have := mid_done HB.out (a := a) (p := p) HQ.out.1 HQ.out.2 h1 h2
          rw [HN.out] at this
          exact this)
        have S := (hI.grown (gr_setCell wr bs (a * p + q) (.bool false)) (by simp; exact hne2)).grown (gr_setCell _ bs (q * p + a) (.bool false)) (by simp; exact hne2)
        have T := (hgr.trans (gr_setCell wr bs (a * p + q) (.bool false))).trans (gr_setCell _ bs (q * p + a) (.bool false))
        clear hs hI hgr
        go_wp2
        go_roundw
        case rel => exact ⟨i + 1, by omega, by go_num, R, S, T⟩
        case measure => simp [intOf]; omega
      obtain ⟨q2, hqp2, hLq2, hBq2, hcq2⟩ := HAT.out k hltk
      have hltk' : (k : Int) < (n : Int) := by omega
      have e1 := hI.cell hltk
      rw [hLq2] at e1
      by_cases hik : i = k
      · subst hik
        have hqq : q = q2 := cntB_inj HQ.out.1 hBq2 (by rw [HQ.out.2, hcq2])
        have R : Sq wr bs p (mid B a i q (i + 1)) := BHas.same hs (fun j hj => by unfold flat; exact mid_pass HQ.out.1 HQ.out.2 _ _)
        clear hs
        go_wp2
        go_roundw
        case rel => exact ⟨i + 1, by omega, by go_num, R, hI, hgr⟩
        case measure => simp [intOf]; omega
      have hik' : ¬ (i : Int) = (k : Int) := by omega
      have hqq : q ≠ q2 := fun e => hik (by rw [← HQ.out.2, ← hcq2, e])
      obtain ⟨j1, j2, j3, j4⟩ := idx_facts hqp hqp2 hp
      have d0 := Sq.at hs hqp hqp2
      have z0 := VHas.frozen hs (q * p + q2)
      have HR : Hid (Sq (wr.setCell ⟨bs, q * p + q2, none⟩ (.bool true)) bs p (mid B a i q (k + 1))) := BHas.same (Sq.put hs (x := q) hqp2 true) (fun j hj => by unfold flat; exact mid_join HB.out HQ.out.1 hBq2 hcq2 hqq _ _)
      have HS : Hid (IHas (wr.setCell ⟨bs, q * p + q2, none⟩ (.bool true)) g n L) := hI.grown (gr_setCell wr bs (q * p + q2) (.bool true)) (by simp; exact hne2)
      have HT : Hid (w.grownBy (wr.setCell ⟨bs, q * p + q2, none⟩ (.bool true)) (some bs)) := hgr.trans (gr_setCell wr bs (q * p + q2) (.bool true))
      clear hs hI hgr hBq2 hcq2 hqq hLq hLq2
      go_wp2
      go_big_region
      go_wp2
      go_roundw
      case rel => exact ⟨k + 1, by omega, by go_num, VHas.of_block HR.out rfl, IHas.of_block HS.out rfl, HT.out.trans ⟨rfl, rfl, rfl, Nat.le_refl _, fun _ _ _ => rfl⟩⟩
      case measure => simp [intOf]; omega
end
end Go.Proofs.YthmpliljffmmcaaGreatDoor
