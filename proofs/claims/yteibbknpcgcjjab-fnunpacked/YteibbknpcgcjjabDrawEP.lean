/-
  Edges that are drawn: a list of the call's own, cut, put to.
-/
import Derived.Test.YteibbknpcgcjjabDrawO0P
import Derived.Test.YteibbknpcgcjjabPack4
set_option linter.unusedVariables false
set_option linter.unusedSimpArgs false
namespace Go.Proofs.Yteibbknpcgcjjab
open Go.RowKit Go.Maps
attribute [local go_sem ↓] Go.wp_at_zero Go.wp_at_succ

theorem l1From8_any (base c : Nat) (ao : Option Addr) (n cap : Nat) (w : World) (hC : CurAt w base c ao n cap) :
    Calls Try.prog 75 #[.pointer (some ⟨c, 0, none⟩), .int .i64 (-1), .int .i64 8] w fun e w' => ∃ x : Int, e = .returned (.int .i64 x) ∧ CurAt w' base c ao n cap ∧ w.grownBy w' (some c) := by
  go_enter Try.func75, Try.ntmps75
  go_wp2_with (go_at_call 60; refine (l1Below_any base c ao n cap _ (by omega) (by omega) _ hC).mono ?_; rintro e w1 ⟨x, rfl, hx, hC1, hg1⟩)
  go_ret
  exact ⟨_, rfl, hC1, hg1⟩
theorem lit6 {W : World} {b : Nat} {a0 a1 a2 a3 a4 a5 : Int} {t : TypeId} (h : W.heap[b]? = some (.cells #[.int .i64 a0, .int .i64 a1, .int .i64 a2, .int .i64 a3, .int .i64 a4, .int .i64 a5] t (0, 0))) {y : Nat} (hy : y < 6) : ∃ v, W.cell? ⟨b, y, none⟩ = some (.int .i64 v) := by
  have : y = 0 ∨ y = 1 ∨ y = 2 ∨ y = 3 ∨ y = 4 ∨ y = 5 := by omega
  rcases this with rfl | rfl | rfl | rfl | rfl | rfl <;> exact ⟨_, by simp [World.cell?, h]; rfl⟩
theorem lit3 {W : World} {b : Nat} {a0 a1 a2 : Int} {t : TypeId} (h : W.heap[b]? = some (.cells #[.int .i64 a0, .int .i64 a1, .int .i64 a2] t (0, 0))) {y : Nat} (hy : y < 3) : ∃ v, W.cell? ⟨b, y, none⟩ = some (.int .i64 v) := by
  have : y = 0 ∨ y = 1 ∨ y = 2 := by omega
  rcases this with rfl | rfl | rfl <;> exact ⟨_, by simp [World.cell?, h]; rfl⟩

theorem EOwn.at0 {w : World} {base g cap : Nat} {a b : Int} {t : List (Int × Int)} (h : EOwn w base g cap ((a, b) :: t)) : w.cell? ⟨g, 0, none⟩ = some (.int .i64 a) := by
  have := h.has.cell (j := 0) (by simp)
  simpa [er, Lf] using this
theorem EOwn.at1 {w : World} {base g cap : Nat} {a b : Int} {t : List (Int × Int)} (h : EOwn w base g cap ((a, b) :: t)) : w.cell? ⟨g, 1, none⟩ = some (.int .i64 b) := by
  have := h.has.cell (j := 1) (by simp; omega)
  simpa [er, Hf] using this
theorem EOwn.put1 {w : World} {base g cap : Nat} {a b : Int} {t : List (Int × Int)} (h : EOwn w base g cap ((a, b) :: t)) (v : Int) : EOwn (w.setCell ⟨g, 1, none⟩ (.int .i64 v)) base g cap ((a, v) :: t) := by
  obtain ⟨hl, h0 | ⟨g', cap', cur, hv, hb, hh, h1, h2, h3, h4⟩⟩ := h
  · simp at h0
  · simp at hv
    obtain ⟨rfl, rfl⟩ := hv
    refine ⟨by simpa [ecells] using hl, .inr ⟨g, cap, cur.setIfInBounds 1 (.int .i64 v), rfl, hb, ?_, by simpa using h1, by simpa using h2, by simpa using h3, ?_⟩⟩
    · simp [World.setCell, Array.getElem?_modify, hh]
    · have h4' : List.take (((a, v) :: t).length * 2) cur.toList = ecells ((a, b) :: t) := h4
      rw [Array.toList_setIfInBounds, List.take_set, h4']
      simp [ecells]
theorem ecells_take (l : List (Int × Int)) : ∀ k, (ecells l).take (k * 2) = ecells (l.take k) := by
  induction l with
  | nil => intro k; simp [ecells]
  | cons e l ih =>
    intro k
    match k with
    | 0 => simp [ecells]
    | k + 1 =>
      have h1 : ecells (e :: l) = .int .i64 e.1 :: .int .i64 e.2 :: ecells l := by simp [ecells]
      have h2 : (k + 1) * 2 = k * 2 + 1 + 1 := by omega
      rw [h1, h2, List.take_succ_cons, List.take_succ_cons, ih k, List.take_succ_cons]
      simp [ecells]
theorem ecells_drop (l : List (Int × Int)) : ∀ k j, (ecells (l.drop k))[j]? = (ecells l)[k * 2 + j]? := by
  induction l with
  | nil => intro k j; simp [ecells]
  | cons e l ih =>
    intro k j
    match k with
    | 0 => simp
    | k + 1 =>
      have h1 : ecells (e :: l) = .int .i64 e.1 :: .int .i64 e.2 :: ecells l := by simp [ecells]
      have h2 : (k + 1) * 2 + j = (k * 2 + j) + 1 + 1 := by omega
      rw [List.drop_succ_cons, ih k j, h1, h2]
      simp
theorem EOwn.cut {w : World} {base g cap k : Nat} {l : List (Int × Int)} (h : EOwn w base g cap l) (hk : k ≤ l.length) : EOwn w base g cap (l.take k) := by
  obtain ⟨hl, h0 | ⟨g', cap', cur, hv, hb, hg, h1, h2, h3, h4⟩⟩ := h
  · simp at h0
  simp at hv
  obtain ⟨rfl, rfl⟩ := hv
  have e : (l.take k).length = k := by rw [List.length_take]; omega
  unfold EOwn
  rw [e]
  refine ⟨by rw [ecells_len, e], .inr ⟨g, cap, cur, rfl, hb, hg, by omega, h2, h3, ?_⟩⟩
  rw [← ecells_take, ← h4, List.take_take, Nat.min_eq_left (by omega)]
/-- One edge is cut out, in place. -/
theorem step_append_cut {w : World} {ops : Array Oper} {o : Oper} {a : Act} {K : Act → World → Prop} {Q : Exit → Act → World → Prop} {E : Prop} (hgd : o.guard = none) (s x : Operand)
    (ho : o.op = .call { callee := .builtin .append, args := #[s, x], argTypes := #[24, 24] }) (base g k cap : Nat) (l : List (Int × Int)) (hs : a.eval s = .slice (some ⟨g, 0, none⟩) k cap)
    (hown : EOwn w base g cap l) (hk : k < l.length) (ad : Addr) (c : Nat) (hx : a.eval x = .slice (some ad) (l.length - (k + 1)) c) (had : 0 < l.length - (k + 1) → ad = ⟨g, (k + 1) * 2, none⟩)
    (h : ∀ w' l', l'.length = l.length - 1 → EOwn w' base g cap l' → w.grownBy w' (some g) → K (a.put o.dst (.slice (some ⟨g, 0, none⟩) (l.length - 1) cap)) w') :
    if Region.wanted o (yielded ops a.tmps) = true then Oper.wp Try.prog o a w K Q else E := by
  have hw : Region.wanted o (yielded ops a.tmps) = true := by simp [Region.wanted, hgd]
  rw [if_pos hw]
  obtain ⟨i, hi, hz0, hz1, hz2⟩ := info_parts Try.infoEdge
  have hh := hown.has
  obtain ⟨hl, h0 | ⟨g', cap', cur, hv, hb, hg, h1, h2, h3, h4⟩⟩ := hown
  · simp at h0
  simp at hv
  obtain ⟨rfl, rfl⟩ := hv
  have hcut : w.ownsRow base 38 2 (.slice (some ⟨g, 0, none⟩) k cap) k (ecells (l.take k)) := by
    refine ⟨by rw [ecells_len, List.length_take]; omega, .inr ⟨g, cap, cur, rfl, hb, hg, by omega, h2, h3, ?_⟩⟩
    rw [← ecells_take, ← h4, List.take_take, Nat.min_eq_left (by omega)]
  have hsum : k + (l.length - (k + 1)) = l.length - 1 := by omega
  obtain ⟨w', hr, r1, r2⟩ := run_append_fits (P := Try.prog) w base 24 o.type 38 i 2 Try.underlying24 hi hz1 g k cap (ecells (l.take k)) hcut ad (l.length - (k + 1)) c (ecells (l.drop (k + 1))) (by rw [ecells_len, List.length_drop]) (fun j u hu => by
      have hj : j < (l.length - (k + 1)) * 2 := by
        have := (List.getElem?_eq_some_iff.1 hu).1
        rw [ecells_len, List.length_drop] at this
        exact this
      rw [had (by omega)]
      rw [ecells_drop, ecells_at l _ (by omega)] at hu
      simp at hu
      subst hu
      rw [Addr.add_mid]
      have := hh.cell (j := (k + 1) * 2 + j) (by omega)
      simpa using this) (fun u hu => by
      simp [ecells] at hu
      obtain ⟨_, _, _, h | h⟩ := hu <;> (subst h; rfl)) (by omega)
  unfold Oper.wp execOp
  simp only [ho, resolve, invoke, builtin, Sem.run_bind, Sem.run_pure, Result.andThen_ok, List.map_toArray, List.map_cons, List.map_nil, hs, hx, hr]
  rw [hsum] at r1 ⊢
  refine h w' (l.take k ++ l.drop (k + 1)) (by rw [List.length_append, List.length_take, List.length_drop]; omega) ?_ r2
  have e1 : ecells (l.take k) ++ ecells (l.drop (k + 1)) = ecells (l.take k ++ l.drop (k + 1)) := by simp [ecells]
  have e2 : (l.take k ++ l.drop (k + 1)).length = l.length - 1 := by rw [List.length_append, List.length_take, List.length_drop]; omega
  unfold EOwn
  rw [e2, ← e1]
  exact r1
/-- What stands while edges are drawn: the cursor, a list of the call's own; nothing else that lay has turned. -/
structure EW (w : World) (base c : Nat) (ao : Option Addr) (n cap : Nat) (g ec : Nat) (l : List (Int × Int)) (W : World) : Prop where
  cur : CurAt W base c ao n cap
  own : EOwn W w.heap.size g ec l
  gr : w.grownBy W (some c)
section
variable {w W W' : World} {base c : Nat} {ao : Option Addr} {n cap g ec : Nat} {l : List (Int × Int)}
theorem EW.step (h : EW w base c ao n cap g ec l W) (hc : c < w.heap.size) (hC : CurAt W' base c ao n cap) (hg : W.grownBy W' (some c)) : EW w base c ao n cap g ec l W' :=
  ⟨hC, h.own.grown hg (by have := h.own.base; simp; omega), h.gr.trans hg⟩
theorem EW.next (h : EW w base c ao n cap g ec l W) (hb : Below W.heap.size W W') : EW w base c ao n cap g ec l W' :=
  ⟨h.cur.next hb, h.own.next hb, h.gr.trans ⟨hb.os, hb.tape, hb.output, hb.size, fun k hk _ => hb.block k hk⟩⟩
theorem EW.other (h : EW w base c ao n cap g ec l W) (hc : c < w.heap.size) (hg : W.grownBy W' (some g)) {g' ec' : Nat} {l' : List (Int × Int)} (ho : EOwn W' w.heap.size g' ec' l') : EW w base c ao n cap g' ec' l' W' := by
  have hge := h.cur.ge
  have hb := h.own.base
  exact ⟨h.cur.grown hg (by omega) (by omega), ho, gr_far h.gr hg (fun q e => by cases e; exact hb) (Nat.le_refl _)⟩
end

theorem ans_rowE {W w' : World} {ao : Option Addr} {m : Nat} {D : Nat → Int} (h : 0 < m → ∃ g, ao = some ⟨g, 0, none⟩ ∧ W.heap.size ≤ g ∧ IHas w' g m D) : IRow w' ao m D := fun k hk => by
  obtain ⟨g, e, _, hI⟩ := h (by omega)
  subst e
  exact hI.row k hk

end Go.Proofs.Yteibbknpcgcjjab
