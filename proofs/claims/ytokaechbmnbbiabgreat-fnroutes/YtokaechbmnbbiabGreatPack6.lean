/-
  Helpers, merged: DrawE, OwnI, Turns, OwnL, DrawHi.
-/
import Derived.Test.YtokaechbmnbbiabGreatPack5
import Derived.Test.YtokaechbmnbbiabGreatPack2
import Derived.Test.YtokaechbmnbbiabGreatPack4
/-
  Edges that are drawn: a list of the call's own, cut, put to.
-/
set_option linter.unusedVariables false
set_option linter.unusedSimpArgs false
namespace Go.Proofs.YtokaechbmnbbiabGreat
open Go.RowKit Go.Maps
attribute [local go_sem ↓] Go.wp_at_zero Go.wp_at_succ

theorem l1From8_any (base c : Nat) (ao : Option Addr) (n cap : Nat) (w : World) (hC : CurAt w base c ao n cap) :
    Calls Tryz.prog 103 #[.pointer (some ⟨c, 0, none⟩), .int .i64 (-1), .int .i64 8] w fun e w' => ∃ x : Int, e = .returned (.int .i64 x) ∧ CurAt w' base c ao n cap ∧ w.grownBy w' (some c) := by
  go_enter Tryz.func103, Tryz.ntmps103
  go_wp2_with (go_at_call 64; refine (l1Below_any base c ao n cap _ (by omega) (by omega) _ hC).mono ?_; rintro e w1 ⟨x, rfl, hx, hC1, hg1⟩)
  go_ret
  exact ⟨_, rfl, hC1, hg1⟩
theorem lit6 {W : World} {b : Nat} {a0 a1 a2 a3 a4 a5 : Int} {t : TypeId} (h : W.heap[b]? = some (.cells #[.int .i64 a0, .int .i64 a1, .int .i64 a2, .int .i64 a3, .int .i64 a4, .int .i64 a5] t (0, 0))) {y : Nat} (hy : y < 6) : ∃ v, W.cell? ⟨b, y, none⟩ = some (.int .i64 v) := by
  have : y = 0 ∨ y = 1 ∨ y = 2 ∨ y = 3 ∨ y = 4 ∨ y = 5 := by omega
  rcases this with rfl | rfl | rfl | rfl | rfl | rfl <;> exact ⟨_, by simp [World.cell?, h]; rfl⟩
theorem lit3 {W : World} {b : Nat} {a0 a1 a2 : Int} {t : TypeId} (h : W.heap[b]? = some (.cells #[.int .i64 a0, .int .i64 a1, .int .i64 a2] t (0, 0))) {y : Nat} (hy : y < 3) : ∃ v, W.cell? ⟨b, y, none⟩ = some (.int .i64 v) := by
  have : y = 0 ∨ y = 1 ∨ y = 2 := by omega
  rcases this with rfl | rfl | rfl <;> exact ⟨_, by simp [World.cell?, h]; rfl⟩

theorem EOwn.at0 {w : World} {base g cap : Nat} {a b : Int} {t : List (Int × Int)} (h : EOwn w base g cap ((a, b) :: t)) : w.cell? ⟨g, 0, none⟩ = some (.int .i64 a) := by
  have := h.has.cell (j := 0) (by simp)
  simpa [er, Lf] using this
theorem EOwn.at1 {w : World} {base g cap : Nat} {a b : Int} {t : List (Int × Int)} (h : EOwn w base g cap ((a, b) :: t)) : w.cell? ⟨g, 1, none⟩ = some (.int .i64 b) := by
  have := h.has.cell (j := 1) (by simp; omega)
  simpa [er, Hf] using this
theorem EOwn.put1 {w : World} {base g cap : Nat} {a b : Int} {t : List (Int × Int)} (h : EOwn w base g cap ((a, b) :: t)) (v : Int) : EOwn (w.setCell ⟨g, 1, none⟩ (.int .i64 v)) base g cap ((a, v) :: t) := by
  obtain ⟨hl, h0 | ⟨g', cap', cur, hv, hb, hh, h1, h2, h3, h4⟩⟩ := h
  · simp at h0
  · simp at hv
    obtain ⟨rfl, rfl⟩ := hv
    refine ⟨by simpa [ecells] using hl, .inr ⟨g, cap, cur.setIfInBounds 1 (.int .i64 v), rfl, hb, ?_, by simpa using h1, by simpa using h2, by simpa using h3, ?_⟩⟩
    · simp [World.setCell, Array.getElem?_modify, hh]
    · have h4' : List.take (((a, v) :: t).length * 2) cur.toList = ecells ((a, b) :: t) := h4
      rw [Array.toList_setIfInBounds, List.take_set, h4']
      simp [ecells]
theorem ecells_take (l : List (Int × Int)) : ∀ k, (ecells l).take (k * 2) = ecells (l.take k) := by
  induction l with
  | nil => intro k; simp [ecells]
  | cons e l ih =>
    intro k
    match k with
    | 0 => simp [ecells]
    | k + 1 =>
      have h1 : ecells (e :: l) = .int .i64 e.1 :: .int .i64 e.2 :: ecells l := by simp [ecells]
      have h2 : (k + 1) * 2 = k * 2 + 1 + 1 := by omega
      rw [h1, h2, List.take_succ_cons, List.take_succ_cons, ih k, List.take_succ_cons]
      simp [ecells]
theorem ecells_drop (l : List (Int × Int)) : ∀ k j, (ecells (l.drop k))[j]? = (ecells l)[k * 2 + j]? := by
  induction l with
  | nil => intro k j; simp [ecells]
  | cons e l ih =>
    intro k j
    match k with
    | 0 => simp
    | k + 1 =>
      have h1 : ecells (e :: l) = .int .i64 e.1 :: .int .i64 e.2 :: ecells l := by simp [ecells]
      have h2 : (k + 1) * 2 + j = (k * 2 + j) + 1 + 1 := by omega
      rw [List.drop_succ_cons, ih k j, h1, h2]
      simp
theorem EOwn.cut {w : World} {base g cap k : Nat} {l : List (Int × Int)} (h : EOwn w base g cap l) (hk : k ≤ l.length) : EOwn w base g cap (l.take k) := by
  obtain ⟨hl, h0 | ⟨g', cap', cur, hv, hb, hg, h1, h2, h3, h4⟩⟩ := h
  · simp at h0
  simp at hv
  obtain ⟨rfl, rfl⟩ := hv
  have e : (l.take k).length = k := by rw [List.length_take]; omega
  unfold EOwn
  rw [e]
  refine ⟨by rw [ecells_len, e], .inr ⟨g, cap, cur, rfl, hb, hg, by omega, h2, h3, ?_⟩⟩
  rw [← ecells_take, ← h4, List.take_take, Nat.min_eq_left (by omega)]
/-- One edge is cut out, in place. -/
theorem step_append_cut {w : World} {ops : Array Oper} {o : Oper} {a : Act} {K : Act → World → Prop} {Q : Exit → Act → World → Prop} {E : Prop} (hgd : o.guard = none) (s x : Operand)
    (ho : o.op = .call { callee := .builtin .append, args := #[s, x], argTypes := #[28, 28] }) (base g k cap : Nat) (l : List (Int × Int)) (hs : a.eval s = .slice (some ⟨g, 0, none⟩) k cap)
    (hown : EOwn w base g cap l) (hk : k < l.length) (ad : Addr) (c : Nat) (hx : a.eval x = .slice (some ad) (l.length - (k + 1)) c) (had : 0 < l.length - (k + 1) → ad = ⟨g, (k + 1) * 2, none⟩)
    (h : ∀ w' l', l'.length = l.length - 1 → EOwn w' base g cap l' → w.grownBy w' (some g) → K (a.put o.dst (.slice (some ⟨g, 0, none⟩) (l.length - 1) cap)) w') :
    if Region.wanted o (yielded ops a.tmps) = true then Oper.wp Tryz.prog o a w K Q else E := by
  have hw : Region.wanted o (yielded ops a.tmps) = true := by simp [Region.wanted, hgd]
  rw [if_pos hw]
  obtain ⟨i, hi, hz0, hz1, hz2⟩ := info_parts Tryz.infoEdge
  have hh := hown.has
  obtain ⟨hl, h0 | ⟨g', cap', cur, hv, hb, hg, h1, h2, h3, h4⟩⟩ := hown
  · simp at h0
  simp at hv
  obtain ⟨rfl, rfl⟩ := hv
  have hcut : w.ownsRow base 62 2 (.slice (some ⟨g, 0, none⟩) k cap) k (ecells (l.take k)) := by
    refine ⟨by rw [ecells_len, List.length_take]; omega, .inr ⟨g, cap, cur, rfl, hb, hg, by omega, h2, h3, ?_⟩⟩
    rw [← ecells_take, ← h4, List.take_take, Nat.min_eq_left (by omega)]
  have hsum : k + (l.length - (k + 1)) = l.length - 1 := by omega
  obtain ⟨w', hr, r1, r2⟩ := run_append_fits (P := Tryz.prog) w base 28 o.type 62 i 2 Tryz.underlying28 hi hz1 g k cap (ecells (l.take k)) hcut ad (l.length - (k + 1)) c (ecells (l.drop (k + 1))) (by rw [ecells_len, List.length_drop]) (fun j u hu => by
      have hj : j < (l.length - (k + 1)) * 2 := by
        have := (List.getElem?_eq_some_iff.1 hu).1
        rw [ecells_len, List.length_drop] at this
        exact this
      rw [had (by omega)]
      rw [ecells_drop, ecells_at l _ (by omega)] at hu
      simp at hu
      subst hu
      rw [Addr.add_mid]
      have := hh.cell (j := (k + 1) * 2 + j) (by omega)
      simpa using this) (fun u hu => by
      simp [ecells] at hu
      obtain ⟨_, _, _, h | h⟩ := hu <;> (subst h; rfl)) (by omega)
  unfold Oper.wp execOp
  simp only [ho, resolve, invoke, builtin, Sem.run_bind, Sem.run_pure, Result.andThen_ok, List.map_toArray, List.map_cons, List.map_nil, hs, hx, hr]
  rw [hsum] at r1 ⊢
  refine h w' (l.take k ++ l.drop (k + 1)) (by rw [List.length_append, List.length_take, List.length_drop]; omega) ?_ r2
  have e1 : ecells (l.take k) ++ ecells (l.drop (k + 1)) = ecells (l.take k ++ l.drop (k + 1)) := by simp [ecells]
  have e2 : (l.take k ++ l.drop (k + 1)).length = l.length - 1 := by rw [List.length_append, List.length_take, List.length_drop]; omega
  unfold EOwn
  rw [e2, ← e1]
  exact r1
/-- What stands while edges are drawn: the cursor, a list of the call's own; nothing else that lay has turned. -/
structure EW (w : World) (base c : Nat) (ao : Option Addr) (n cap : Nat) (g ec : Nat) (l : List (Int × Int)) (W : World) : Prop where
  cur : CurAt W base c ao n cap
  own : EOwn W w.heap.size g ec l
  gr : w.grownBy W (some c)
section
variable {w W W' : World} {base c : Nat} {ao : Option Addr} {n cap g ec : Nat} {l : List (Int × Int)}
theorem EW.step (h : EW w base c ao n cap g ec l W) (hc : c < w.heap.size) (hC : CurAt W' base c ao n cap) (hg : W.grownBy W' (some c)) : EW w base c ao n cap g ec l W' :=
  ⟨hC, h.own.grown hg (by have := h.own.base; simp; omega), h.gr.trans hg⟩
theorem EW.next (h : EW w base c ao n cap g ec l W) (hb : Below W.heap.size W W') : EW w base c ao n cap g ec l W' :=
  ⟨h.cur.next hb, h.own.next hb, h.gr.trans ⟨hb.os, hb.tape, hb.output, hb.size, fun k hk _ => hb.block k hk⟩⟩
theorem EW.other (h : EW w base c ao n cap g ec l W) (hc : c < w.heap.size) (hg : W.grownBy W' (some g)) {g' ec' : Nat} {l' : List (Int × Int)} (ho : EOwn W' w.heap.size g' ec' l') : EW w base c ao n cap g' ec' l' W' := by
  have hge := h.cur.ge
  have hb := h.own.base
  exact ⟨h.cur.grown hg (by omega) (by omega), ho, gr_far h.gr hg (fun q e => by cases e; exact hb) (Nat.le_refl _)⟩
end

theorem ans_rowE {W w' : World} {ao : Option Addr} {m : Nat} {D : Nat → Int} (h : 0 < m → ∃ g, ao = some ⟨g, 0, none⟩ ∧ W.heap.size ≤ g ∧ IHas w' g m D) : IRow w' ao m D := fun k hk => by
  obtain ⟨g, e, _, hI⟩ := h (by omega)
  subst e
  exact hI.row k hk

end Go.Proofs.YtokaechbmnbbiabGreat

/-
  A list of numbers of the call's own, or none yet, that grows by one.
-/
set_option linter.unusedVariables false
set_option linter.unusedSimpArgs false
namespace Go.Proofs.YtokaechbmnbbiabGreat
open Go.RowKit

/-- n numbers behind a slice of the call's own, or a slice that is nil. -/
def OwnE (w : World) (base : Nat) (go : Option Addr) (n cap : Nat) (f : Nat → Int) : Prop := w.ownsRow base 2 1 (.slice go n cap) n (icells f n)
theorem OwnE.nil (w : World) (base : Nat) (f : Nat → Int) : OwnE w base none 0 0 f := ⟨by simp [icells], .inl ⟨rfl, rfl⟩⟩
theorem OwnE.at {w : World} {base n cap x : Nat} {go : Option Addr} {f : Nat → Int} (h : OwnE w base go n cap f) (e : (Value.slice go n cap).ownBlock = some x) : base ≤ x ∧ x < w.heap.size := World.ownsRow.lt h x e
theorem OwnE.of_block {w w' : World} {base n cap : Nat} {go : Option Addr} {f : Nat → Int} (h : OwnE w base go n cap f) (e : ∀ x, (Value.slice go n cap).ownBlock = some x → w'.heap[x]? = w.heap[x]?) : OwnE w' base go n cap f := by
  refine ⟨h.1, ?_⟩
  rcases h.2 with hn | ⟨g', cap', cur, hv, hb', hgg, rest⟩
  · exact .inl hn
  · have e2 := e g' (by rw [hv]; rfl)
    exact .inr ⟨g', cap', cur, hv, hb', e2.trans hgg, rest⟩
theorem OwnE.next {w w' : World} {base n cap : Nat} {go : Option Addr} {f : Nat → Int} (h : OwnE w base go n cap f) (hb : Below w.heap.size w w') : OwnE w' base go n cap f := h.of_block (fun x e => hb.block x (h.at e).2)
theorem OwnE.grown {w w' : World} {base n cap : Nat} {go : Option Addr} {f : Nat → Int} {row : Option Nat} (h : OwnE w base go n cap f) (hg : w.grownBy w' row) (hne : ∀ x, (Value.slice go n cap).ownBlock = some x → row ≠ some x) : OwnE w' base go n cap f := h.of_block (fun x e => hg.block x (h.at e).2 (fun q => hne x e q.symm))
theorem OwnE.has {w : World} {base n cap : Nat} {go : Option Addr} {f : Nat → Int} (h : OwnE w base go n cap f) (hn : 0 < n) : ∃ g, go = some ⟨g, 0, none⟩ ∧ base ≤ g ∧ IHas w g n f := by
  have h' := h
  obtain ⟨hl, h0 | ⟨g', cap', cur, hv, hb, hh, h1, h2, h3, h4⟩⟩ := h
  · omega
  · simp at hv
    obtain ⟨rfl, rfl⟩ := hv
    refine ⟨g', rfl, hb, cur, hh, by omega, fun j hj => ?_⟩
    have : (cur.toList.take (n * 1))[j]? = (icells f n)[j]? := by rw [h4]
    rw [List.getElem?_take_of_lt (by omega), icells_at hj] at this
    simpa using this
/-- The room of a list of numbers is what its slice says. -/
def Cap (w : World) (b cap : Nat) : Prop := ∃ cur : Array Value, w.heap[b]? = some (.cells cur 2 (0, 0)) ∧ cap ≤ maxLen ∧ cur.size = cap
theorem Cap.of_block {w w' : World} {b cap : Nat} (h : Cap w b cap) (e : w'.heap[b]? = w.heap[b]?) : Cap w' b cap := by
  obtain ⟨c, h1, h2, h3⟩ := h
  exact ⟨c, e.trans h1, h2, h3⟩
theorem Cap.lt {w : World} {b cap : Nat} (h : Cap w b cap) : b < w.heap.size := by
  obtain ⟨c, h1, h2, h3⟩ := h
  exact (Array.getElem?_eq_some_iff.1 h1).1
theorem Cap.set {w : World} {b cap : Nat} (h : Cap w b cap) (j : Nat) (v : Value) : Cap (w.setCell ⟨b, j, none⟩ v) b cap := by
  obtain ⟨c, h1, h2, h3⟩ := h
  exact ⟨c.setIfInBounds j v, by simp [World.setCell, Array.getElem?_modify, h1], h2, by simpa using h3⟩
theorem Cap.own {w : World} {b n cap base : Nat} {f : Nat → Int} (h : Cap w b cap) (hi : IHas w b n f) (hb : base ≤ b) : OwnE w base (some ⟨b, 0, none⟩) n cap f := by
  obtain ⟨c, h1, h2, h3⟩ := h
  obtain ⟨d, g1, g2, g3⟩ := hi
  rw [h1] at g1
  simp at g1
  subst g1
  refine ⟨by simp [icells], .inr ⟨b, cap, c, rfl, hb, h1, by omega, h2, by omega, ?_⟩⟩
  apply List.ext_getElem?
  intro j
  by_cases hj : j < n
  · rw [List.getElem?_take_of_lt (by omega), icells_at hj]
    simpa using g3 j hj
  · rw [List.getElem?_eq_none (by simp; omega), List.getElem?_eq_none (by simp [icells]; omega)]
theorem OwnE.capAt {w : World} {base n cap g : Nat} {go : Option Addr} {f : Nat → Int} (h : OwnE w base go n cap f) (e : go = some ⟨g, 0, none⟩) : Cap w g cap := by
  obtain ⟨hl, h0 | ⟨g', cap', cur, hv, hb, hh, h1, h2, h3, h4⟩⟩ := h
  · rw [e] at h0; simp at h0
  · rw [e] at hv
    simp at hv
    obtain ⟨rfl, rfl⟩ := hv
    exact ⟨cur, hh, h2, by omega⟩
theorem OwnE.room {w : World} {base n cap g : Nat} {go : Option Addr} {f : Nat → Int} (h : OwnE w base go n cap f) (e : go = some ⟨g, 0, none⟩) : n ≤ cap := by
  obtain ⟨hl, h0 | ⟨g', cap', cur, hv, hb, hh, h1, h2, h3, h4⟩⟩ := h
  · rw [e] at h0; simp at h0
  · rw [e] at hv
    simp at hv
    obtain ⟨rfl, rfl⟩ := hv
    exact h1
theorem own_blk {ao : Option Addr} {n cap x : Nat} (e : (Value.slice ao n cap).ownBlock = some x) : ∃ a, ao = some a ∧ a.block = x := by
  cases ao with
  | none => simp [Value.ownBlock] at e
  | some a => exact ⟨a, rfl, by simpa [Value.ownBlock] using e⟩
theorem wp_append_own {o : Oper} {a : Act} {w : World} {K : Act → World → Prop} {Q : Exit → Act → World → Prop} (s x : Operand)
    (ho : o.op = .call { callee := .builtin .append, args := #[s, x], argTypes := #[27, 27] }) (base k gc : Nat) (go : Option Addr) (f : Nat → Int) (hs : a.eval s = .slice go k gc) (hown : OwnE w base go k gc f) (B : Nat) (hx : a.eval x = .slice (some ⟨B, 0, none⟩) 1 1)
    (hB : w.cell? ⟨B, 0, none⟩ = some (.int .i64 (f k))) (hk : k ≤ 100000000) (hbase : base ≤ w.heap.size)
    (h : ∀ g' gc' w', OwnE w' base (some ⟨g', 0, none⟩) (k + 1) gc' f → w.grownBy w' (Value.slice go k gc).ownBlock → ((Value.slice go k gc).ownBlock = some g' ∨ g' = w.heap.size) → K (a.put o.dst (.slice (some ⟨g', 0, none⟩) (k + 1) gc')) w') : o.wp Tryz.prog a w K Q := by
  obtain ⟨i0, hi0, hz0, hz1, hz2⟩ := info_parts Tryz.infoInt
  refine wp_append_lies w s x 27 ho base 2 i0 _ 1 8 Tryz.underlying27 hi0 hz0 hz1 hz2 rfl (by omega) _ k (icells f k) hs hown ⟨B, 0, none⟩ 1 1 [.int .i64 (f k)] hx rfl ?_ ?_ (by omega) (by unfold maxLen; omega) (by omega) hbase w.heap.size rfl ?_
  · intro j u hu
    match j, hu with
    | 0, hu => simp at hu; subst hu; exact hB
    | j + 1, hu => simp at hu
  · intro u hu
    simp at hu
    subst hu; rfl
  · intro g' gc' w' hown' hgrow hat _
    rw [icells_put (f k) (fun _ _ => rfl) rfl] at hown'
    exact h g' gc' w' hown' hgrow hat
theorem step_append_own {ops : Array Oper} {o : Oper} {a : Act} {w : World} {K : Act → World → Prop} {Q : Exit → Act → World → Prop} {E : Prop} (hgd : o.guard = none) (s x : Operand)
    (ho : o.op = .call { callee := .builtin .append, args := #[s, x], argTypes := #[27, 27] }) (base k gc : Nat) (go : Option Addr) (f : Nat → Int) (hs : a.eval s = .slice go k gc) (hown : OwnE w base go k gc f) (B : Nat) (hx : a.eval x = .slice (some ⟨B, 0, none⟩) 1 1)
    (hB : w.cell? ⟨B, 0, none⟩ = some (.int .i64 (f k))) (hk : k ≤ 100000000) (hbase : base ≤ w.heap.size)
    (h : ∀ g' gc' w', OwnE w' base (some ⟨g', 0, none⟩) (k + 1) gc' f → w.grownBy w' (Value.slice go k gc).ownBlock → ((Value.slice go k gc).ownBlock = some g' ∨ g' = w.heap.size) → K (a.put o.dst (.slice (some ⟨g', 0, none⟩) (k + 1) gc')) w') :
    if Region.wanted o (yielded ops a.tmps) = true then Oper.wp Tryz.prog o a w K Q else E := by
  have hw : Region.wanted o (yielded ops a.tmps) = true := by simp [Region.wanted, hgd]
  rw [if_pos hw]
  exact wp_append_own s x ho base k gc go f hs hown B hx hB hk hbase h

end Go.Proofs.YtokaechbmnbbiabGreat

/-
  What a call has turned: some blocks, named in a list; all else that lay lies as it lay.
-/
set_option linter.unusedVariables false
set_option linter.unusedSimpArgs false
namespace Go.Proofs.YtokaechbmnbbiabGreat
open Go.RowKit

structure Turns (w w' : World) (S : List Nat) : Prop where
  os : w'.os = w.os
  tape : w'.tape = w.tape
  output : w'.output = w.output
  size : w.heap.size ≤ w'.heap.size
  block : ∀ k, k < w.heap.size → k ∉ S → w'.heap[k]? = w.heap[k]?
theorem Turns.refl (w : World) (S : List Nat) : Turns w w S := ⟨rfl, rfl, rfl, Nat.le_refl _, fun _ _ _ => rfl⟩
theorem Turns.of_below {w w' : World} {B : Nat} (h : Below B w w') (hB : w.heap.size ≤ B) (S : List Nat) : Turns w w' S := ⟨h.os, h.tape, h.output, h.size, fun k hk _ => h.block k (by omega)⟩
theorem Turns.of_grown {w w' : World} {b : Nat} (h : w.grownBy w' (some b)) : Turns w w' [b] := ⟨h.os, h.tape, h.output, h.size, fun k hk hn => h.block k hk (fun e => hn (by simp at e; simp [e]))⟩
theorem Turns.trans {w w1 w2 : World} {S : List Nat} (h : Turns w w1 S) (k : Turns w1 w2 S) : Turns w w2 S :=
  ⟨k.os.trans h.os, k.tape.trans h.tape, k.output.trans h.output, Nat.le_trans h.size k.size, fun j hj hn => (k.block j (Nat.lt_of_lt_of_le hj h.size) hn).trans (h.block j hj hn)⟩
theorem Turns.more {w w' : World} {S S' : List Nat} (h : Turns w w' S) (hs : ∀ x ∈ S, x ∈ S') : Turns w w' S' := ⟨h.os, h.tape, h.output, h.size, fun k hk hn => h.block k hk (fun hx => hn (hs k hx))⟩
theorem Turns.next {w w1 w2 : World} {S : List Nat} (h : Turns w w1 S) (hb : Below w1.heap.size w1 w2) : Turns w w2 S := h.trans (Turns.of_below hb (Nat.le_refl _) S)
theorem Turns.below {w w' : World} {S : List Nat} {B : Nat} (h : Turns w w' S) (hB : B ≤ w.heap.size) (hs : ∀ x ∈ S, B ≤ x) : Below B w w' :=
  ⟨h.os, h.tape, h.output, h.size, fun k hk => h.block k (by omega) (fun hx => by have := hs k hx; omega)⟩
theorem Turns.cell {w w' : World} {S : List Nat} {b o : Nat} {v : Value} (h : Turns w w' S) (hb : b ∉ S) (hc : w.cell? ⟨b, o, none⟩ = some v) : w'.cell? ⟨b, o, none⟩ = some v := by
  rw [World.cell?_of_block (h.block b (lt_of_cell hc) hb)]
  exact hc
theorem Turns.ihas {w w' : World} {S : List Nat} {b n : Nat} {f : Nat → Int} (h : Turns w w' S) (hb : b ∉ S) (hi : IHas w b n f) : IHas w' b n f := hi.of_block (h.block b hi.lt hb)
theorem Turns.ehas {w w' : World} {S : List Nat} {b n : Nat} {f : Nat → Int} (h : Turns w w' S) (hb : b ∉ S) (hi : EHas w b n f) : EHas w' b n f := hi.of_block (h.block b hi.lt hb)

/-- Two lists of one answer: their blocks, whatever is empty. -/
theorem pick2 {w W : World} {ao eo : Option Addr} {k m : Nat} {R S : Nat → Prop} (h1 : 0 < k → ∃ g, ao = some ⟨g, 0, none⟩ ∧ w.heap.size ≤ g ∧ R g) (h2 : 0 < m → ∃ g, eo = some ⟨g, 0, none⟩ ∧ w.heap.size ≤ g ∧ S g)
    (l1 : ∀ g, R g → g < W.heap.size) (l2 : ∀ g, S g → g < W.heap.size) (hne : ∀ g g', ao = some ⟨g, 0, none⟩ → eo = some ⟨g', 0, none⟩ → R g → S g' → g ≠ g') (hs : w.heap.size + 2 ≤ W.heap.size) :
    ∃ b c, (0 < k → ao = some ⟨b, 0, none⟩) ∧ (0 < k → R b) ∧ (0 < m → eo = some ⟨c, 0, none⟩) ∧ (0 < m → S c) ∧ (w.heap.size ≤ b ∧ b < W.heap.size) ∧ (w.heap.size ≤ c ∧ c < W.heap.size) ∧ b ≠ c := by
  by_cases hk : 0 < k
  · obtain ⟨g, e, hg, hR⟩ := h1 hk
    have := l1 g hR
    by_cases hm : 0 < m
    · obtain ⟨g', e', hg', hS⟩ := h2 hm
      have := l2 g' hS
      exact ⟨g, g', fun _ => e, fun _ => hR, fun _ => e', fun _ => hS, ⟨hg, by omega⟩, ⟨hg', by omega⟩, hne g g' e e' hR hS⟩
    · by_cases hx : g = w.heap.size
      · exact ⟨g, w.heap.size + 1, fun _ => e, fun _ => hR, fun h => absurd h hm, fun h => absurd h hm, ⟨hg, by omega⟩, ⟨by omega, by omega⟩, by omega⟩
      · exact ⟨g, w.heap.size, fun _ => e, fun _ => hR, fun h => absurd h hm, fun h => absurd h hm, ⟨hg, by omega⟩, ⟨by omega, by omega⟩, hx⟩
  · by_cases hm : 0 < m
    · obtain ⟨g', e', hg', hS⟩ := h2 hm
      have := l2 g' hS
      by_cases hx : g' = w.heap.size
      · exact ⟨w.heap.size + 1, g', fun h => absurd h hk, fun h => absurd h hk, fun _ => e', fun _ => hS, ⟨by omega, by omega⟩, ⟨hg', by omega⟩, by omega⟩
      · exact ⟨w.heap.size, g', fun h => absurd h hk, fun h => absurd h hk, fun _ => e', fun _ => hS, ⟨by omega, by omega⟩, ⟨hg', by omega⟩, fun e => hx e.symm⟩
    · exact ⟨w.heap.size, w.heap.size + 1, fun h => absurd h hk, fun h => absurd h hk, fun h => absurd h hm, fun h => absurd h hm, ⟨by omega, by omega⟩, ⟨by omega, by omega⟩, by omega⟩
theorem ihas_ehas {W : World} {b n m : Nat} {f g : Nat → Int} (h : IHas W b n f) (k : EHas W b m g) : False := by
  obtain ⟨c, h1, _⟩ := h
  obtain ⟨d, h2, _⟩ := k
  rw [h1] at h2
  simp at h2
theorem irow_at {W : World} {ao : Option Addr} {m b : Nat} {D : Nat → Int} (ha : 0 < m → ao = some ⟨b, 0, none⟩) (h : 0 < m → IHas W b m D) : IRow W ao m D := fun k hk => by
  rw [ha (by omega)]
  exact (h (by omega)).row k hk
theorem erow_at {W : World} {ao : Option Addr} {m b : Nat} {L H : Nat → Int} (ha : 0 < m → ao = some ⟨b, 0, none⟩) (h : 0 < m → EHas W b m (er L H)) : ERow W ao m L H := fun k hk => by
  rw [ha (by omega)]
  exact (h (by omega)).row k hk

end Go.Proofs.YtokaechbmnbbiabGreat

/-
  A list of numbers of the call's own, or none yet, that grows by one: the law for the walk.
-/
set_option linter.unusedVariables false
set_option linter.unusedSimpArgs false
namespace Go.Proofs.YtokaechbmnbbiabGreat
open Go.RowKit

/-- A box of two slices. -/
def me2 (a b : Value) (j : Nat) : Value := if j = 0 then a else b
/-- What stands while the two lists grow: blocks S + 3 holds the two, S + 2 the result. -/
structure CS (w : World) (c0 c1 c2 c3 : Value) (go : Option Addr) (j gc : Nat) (U : Nat → Int) (ho : Option Addr) (j' hc : Nat) (V : Nat → Int) (W : World) : Prop where
  bel : Below w.heap.size w W
  g0 : W.cell? ⟨w.heap.size, 0, none⟩ = some c0
  g1 : W.cell? ⟨w.heap.size, 1, none⟩ = some c1
  h0 : W.cell? ⟨w.heap.size + 1, 0, none⟩ = some c2
  h1 : W.cell? ⟨w.heap.size + 1, 1, none⟩ = some c3
  res : VHas W (w.heap.size + 2) 34 2 (me2 (.slice none 0 0) (.slice none 0 0))
  box : VHas W (w.heap.size + 3) 34 2 (me2 (.slice go j gc) (.slice ho j' hc))
  own1 : OwnE W (w.heap.size + 4) go j gc U
  own2 : OwnE W (w.heap.size + 4) ho j' hc V
  sep : ∀ x, (Value.slice go j gc).ownBlock = some x → (Value.slice ho j' hc).ownBlock ≠ some x
section
variable {w : World} {c0 c1 c2 c3 : Value} {go : Option Addr} {j gc : Nat} {U : Nat → Int} {ho : Option Addr} {j' hc : Nat} {V : Nat → Int} {W W' : World}
theorem CS.next (h : CS w c0 c1 c2 c3 go j gc U ho j' hc V W) (hb : Below W.heap.size W W') : CS w c0 c1 c2 c3 go j gc U ho j' hc V W' :=
  ⟨below_next h.bel (Nat.le_refl _) hb, keep_cell hb (Nat.le_refl _) h.g0, keep_cell hb (Nat.le_refl _) h.g1, keep_cell hb (Nat.le_refl _) h.h0, keep_cell hb (Nat.le_refl _) h.h1, h.res.next hb, h.box.next hb, h.own1.next hb, h.own2.next hb, h.sep⟩
/-- A step that turns a block from S + 4 on, if any. -/
theorem cell_far {W W' : World} {b o B : Nat} {v : Value} {row : Option Nat} (h : W.cell? ⟨b, o, none⟩ = some v) (hg : W.grownBy W' row) (hr : ∀ x, row = some x → B ≤ x) (hb : b < B) : W'.cell? ⟨b, o, none⟩ = some v := by
  have hl := lt_of_cell h
  have := hg.block b hl (fun e => by have := hr b e.symm; omega)
  simpa [World.cell?, this] using h
theorem below_far {w W W' : World} {B : Nat} {row : Option Nat} (h : Below w.heap.size w W) (hg : W.grownBy W' row) (hr : ∀ x, row = some x → B ≤ x) (hb : w.heap.size ≤ B) : Below w.heap.size w W' :=
  ⟨hg.os.trans h.os, hg.tape.trans h.tape, hg.output.trans h.output, Nat.le_trans h.size hg.size, fun k hk => (hg.block k (Nat.lt_of_lt_of_le hk h.size) (fun e => by have := hr k e.symm; omega)).trans (h.block k hk)⟩
theorem VHas.far {W W' : World} {b n B : Nat} {t : TypeId} {f : Nat → Value} {row : Option Nat} (h : VHas W b t n f) (hg : W.grownBy W' row) (hr : ∀ x, row = some x → B ≤ x) (hb : b < B) : VHas W' b t n f := h.grown hg (fun e => by have := hr b e.symm; omega)
theorem CS.app1 (h : CS w c0 c1 c2 c3 go j gc U ho j' hc V W) (hg : W.grownBy W' (Value.slice go j gc).ownBlock) {g' gc' : Nat} (hown : OwnE W' (w.heap.size + 4) (some ⟨g', 0, none⟩) (j + 1) gc' U) (hat : (Value.slice go j gc).ownBlock = some g' ∨ g' = W.heap.size) :
    CS w c0 c1 c2 c3 (some ⟨g', 0, none⟩) (j + 1) gc' U ho j' hc V (W'.setCell ⟨w.heap.size + 3, 0, none⟩ (.slice (some ⟨g', 0, none⟩) (j + 1) gc')) := by
  have hr : ∀ x, (Value.slice go j gc).ownBlock = some x → w.heap.size + 4 ≤ x := fun x e => (h.own1.at e).1
  have hs := gr_setCell W' (w.heap.size + 3) 0 (.slice (some ⟨g', 0, none⟩) (j + 1) gc')
  have hr2 : ∀ x, some (w.heap.size + 3) = some x → w.heap.size + 3 ≤ x := fun x e => by cases e; exact Nat.le_refl _
  have hl := h.box.lt
  refine ⟨below_far (below_far h.bel hg hr (by omega)) hs hr2 (by omega), cell_far (cell_far h.g0 hg hr (by omega)) hs hr2 (by omega), cell_far (cell_far h.g1 hg hr (by omega)) hs hr2 (by omega), cell_far (cell_far h.h0 hg hr (by omega)) hs hr2 (by omega), cell_far (cell_far h.h1 hg hr (by omega)) hs hr2 (by omega), (h.res.far hg hr (by omega)).far hs hr2 (by omega), ?_, ?_, ?_, ?_⟩
  · refine ((h.box.far hg hr (by omega)).set 0 _).congr (fun i hi => ?_)
    have : i = 0 ∨ i = 1 := by omega
    rcases this with rfl | rfl <;> rfl
  · refine hown.grown hs (fun x e => ?_)
    have := (hown.at e).1
    simp; omega
  · refine (h.own2.grown hg (fun x e q => h.sep x q e)).grown hs (fun x e => ?_)
    have := (h.own2.at e).1
    simp; omega
  · intro x e q
    simp [Value.ownBlock] at e
    subst e
    rcases hat with e | e
    · exact h.sep _ e q
    · have := (h.own2.at q).2
      omega
theorem CS.app2 (h : CS w c0 c1 c2 c3 go j gc U ho j' hc V W) (hg : W.grownBy W' (Value.slice ho j' hc).ownBlock) {g' gc' : Nat} (hown : OwnE W' (w.heap.size + 4) (some ⟨g', 0, none⟩) (j' + 1) gc' V) (hat : (Value.slice ho j' hc).ownBlock = some g' ∨ g' = W.heap.size) :
    CS w c0 c1 c2 c3 go j gc U (some ⟨g', 0, none⟩) (j' + 1) gc' V (W'.setCell ⟨w.heap.size + 3, 1, none⟩ (.slice (some ⟨g', 0, none⟩) (j' + 1) gc')) := by
  have hr : ∀ x, (Value.slice ho j' hc).ownBlock = some x → w.heap.size + 4 ≤ x := fun x e => (h.own2.at e).1
  have hs := gr_setCell W' (w.heap.size + 3) 1 (.slice (some ⟨g', 0, none⟩) (j' + 1) gc')
  have hr2 : ∀ x, some (w.heap.size + 3) = some x → w.heap.size + 3 ≤ x := fun x e => by cases e; exact Nat.le_refl _
  have hl := h.box.lt
  refine ⟨below_far (below_far h.bel hg hr (by omega)) hs hr2 (by omega), cell_far (cell_far h.g0 hg hr (by omega)) hs hr2 (by omega), cell_far (cell_far h.g1 hg hr (by omega)) hs hr2 (by omega), cell_far (cell_far h.h0 hg hr (by omega)) hs hr2 (by omega), cell_far (cell_far h.h1 hg hr (by omega)) hs hr2 (by omega), (h.res.far hg hr (by omega)).far hs hr2 (by omega), ?_, ?_, ?_, ?_⟩
  · refine ((h.box.far hg hr (by omega)).set 1 _).congr (fun i hi => ?_)
    have : i = 0 ∨ i = 1 := by omega
    rcases this with rfl | rfl <;> rfl
  · refine (h.own1.grown hg (fun x e q => h.sep x e q)).grown hs (fun x e => ?_)
    have := (h.own1.at e).1
    simp; omega
  · refine hown.grown hs (fun x e => ?_)
    have := (hown.at e).1
    simp; omega
  · intro x e q
    simp [Value.ownBlock] at q
    subst q
    rcases hat with q | q
    · exact h.sep _ e q
    · have := (h.own1.at e).2
      omega
end
/-- A metric that is answered: its lists are of the call's own. -/
def MAns (w w' : World) (e : Ending) (m : Nat) (U D : Nat → Int) : Prop := ∃ ao cap eo ecap, e = .returned (.agg #[.slice ao m cap, .slice eo m ecap]) ∧ (0 < m → ∃ b c, ao = some ⟨b, 0, none⟩ ∧ eo = some ⟨c, 0, none⟩ ∧ w.heap.size ≤ b ∧ w.heap.size ≤ c ∧ b ≠ c ∧ IHas w' b m U ∧ IHas w' c m D) ∧ w.heap.size + 2 ≤ w'.heap.size ∧ Below w.heap.size w w'
/-- As MAns, and the room of the second list is what its slice says. -/
def MAnsO (w w' : World) (e : Ending) (m : Nat) (U D : Nat → Int) : Prop := ∃ ao cap eo ecap, e = .returned (.agg #[.slice ao m cap, .slice eo m ecap]) ∧ (0 < m → ∃ b c, ao = some ⟨b, 0, none⟩ ∧ eo = some ⟨c, 0, none⟩ ∧ w.heap.size ≤ b ∧ w.heap.size ≤ c ∧ b ≠ c ∧ IHas w' b m U ∧ IHas w' c m D ∧ Cap w' c ecap ∧ m ≤ cap) ∧ w.heap.size + 2 ≤ w'.heap.size ∧ Below w.heap.size w w'
theorem mans_of {w w' : World} {e : Ending} {m : Nat} {U D : Nat → Int} (h : MAnsO w w' e m U D) : MAns w w' e m U D := by
  obtain ⟨ao, cap, eo, ecap, h1, h2, h3⟩ := h
  exact ⟨ao, cap, eo, ecap, h1, fun h0 => by
    obtain ⟨b, c, q1, q2, q3, q4, q5, q6, q7, _⟩ := h2 h0
    exact ⟨b, c, q1, q2, q3, q4, q5, q6, q7⟩, h3⟩
theorem me2_new (w : World) (a b : Value) : VHas (w.alloc (.cells #[a, b] 34)) w.heap.size 34 2 (me2 a b) :=
  ⟨_, Go.Deep.blk_alloc_new _ _, by simp, fun j hj => by
    have : j = 0 ∨ j = 1 := by omega
    rcases this with rfl | rfl <;> rfl⟩

end Go.Proofs.YtokaechbmnbbiabGreat

/-
  A map and its hierarchy that are drawn: told by existence alone.
-/
set_option linter.unusedVariables false
set_option linter.unusedSimpArgs false
namespace Go.Proofs.YtokaechbmnbbiabGreat
open Go.RowKit Go.Maps
attribute [local go_sem ↓] Go.wp_at_zero Go.wp_at_succ

/-- Each number fits its kind. -/
def LWf (l : List (Int × Int)) : Prop := ∀ x ∈ l, (Lit.int .i64 x.1).wf = true ∧ (Lit.int .i64 x.2).wf = true
theorem lit_wf {x : Int} (h : -1000 ≤ x) (h2 : x ≤ 1000) : (Lit.int .i64 x).wf = true := by
  simp [Lit.wf, IntKind.min, IntKind.max, IntKind.signed, IntKind.bits]
  omega
theorem allS_wf {B : Nat → Nat → Bool} {P : Nat → Int} {p R : Nat} (hp : p ≤ 24) (hR : R ≤ 24) : LWf (allS B P p R) := fun x hx => by
  obtain ⟨r, h, h1, h2, _, _, rfl⟩ := (mem_allS x R).1 hx
  exact ⟨lit_wf (by simp only; omega) (by simp only; omega), lit_wf (by simp only; omega) (by simp only; omega)⟩
/-- Edges behind a slice of the call's own, or a slice that is nil; each number fits. -/
def EOwnE (w : World) (base : Nat) (eo : Option Addr) (ec : Nat) (l : List (Int × Int)) : Prop := w.ownsRow base 62 2 (.slice eo l.length ec) l.length (ecells l) ∧ LWf l
theorem EOwnE.nil (w : World) (base : Nat) : EOwnE w base none 0 [] := ⟨⟨by simp [ecells], .inl ⟨rfl, rfl⟩⟩, fun x hx => by cases hx⟩
theorem EOwnE.at {w : World} {base ec x : Nat} {eo : Option Addr} {l : List (Int × Int)} (h : EOwnE w base eo ec l) (e : (Value.slice eo l.length ec).ownBlock = some x) : base ≤ x ∧ x < w.heap.size := World.ownsRow.lt h.1 x e
theorem EOwnE.of_block {w w' : World} {base ec : Nat} {eo : Option Addr} {l : List (Int × Int)} (h : EOwnE w base eo ec l) (e : ∀ x, (Value.slice eo l.length ec).ownBlock = some x → w'.heap[x]? = w.heap[x]?) : EOwnE w' base eo ec l := by
  refine ⟨⟨h.1.1, ?_⟩, h.2⟩
  rcases h.1.2 with hn | ⟨g', cap', cur, hv, hb', hgg, rest⟩
  · exact .inl hn
  · have e2 := e g' (by rw [hv]; rfl)
    exact .inr ⟨g', cap', cur, hv, hb', e2.trans hgg, rest⟩
theorem EOwnE.next {w w' : World} {base ec : Nat} {eo : Option Addr} {l : List (Int × Int)} (h : EOwnE w base eo ec l) (hb : Below w.heap.size w w') : EOwnE w' base eo ec l := h.of_block (fun x e => hb.block x (h.at e).2)
theorem EOwnE.grown {w w' : World} {base ec : Nat} {eo : Option Addr} {l : List (Int × Int)} {row : Option Nat} (h : EOwnE w base eo ec l) (hg : w.grownBy w' row) (hne : ∀ x, (Value.slice eo l.length ec).ownBlock = some x → row ≠ some x) : EOwnE w' base eo ec l := h.of_block (fun x e => hg.block x (h.at e).2 (fun q => hne x e q.symm))
theorem EOwnE.from {w : World} {base base' ec : Nat} {eo : Option Addr} {l : List (Int × Int)} (h : EOwnE w base eo ec l) (hb : base' ≤ base) : EOwnE w base' eo ec l := by
  refine ⟨⟨h.1.1, ?_⟩, h.2⟩
  rcases h.1.2 with hn | ⟨g', cap', cur, hv, hb', rest⟩
  · exact .inl hn
  · exact .inr ⟨g', cap', cur, hv, Nat.le_trans hb hb', rest⟩
theorem EOwnE.some {w : World} {base ec : Nat} {eo : Option Addr} {l : List (Int × Int)} (h : EOwnE w base eo ec l) (hn : 0 < l.length) : ∃ g, eo = some ⟨g, 0, none⟩ ∧ EOwn w base g ec l := by
  obtain ⟨⟨hl, h0 | ⟨g', cap', cur, hv, rest⟩⟩, _⟩ := h
  · omega
  · simp at hv
    obtain ⟨rfl, rfl⟩ := hv
    exact ⟨g', rfl, hl, .inr ⟨g', ec, cur, rfl, rest⟩⟩
theorem EOwnE.row {w : World} {base ec : Nat} {eo : Option Addr} {l : List (Int × Int)} (h : EOwnE w base eo ec l) : ERow w eo l.length (Lf l) (Hf l) := fun k hk => by
  obtain ⟨g, rfl, h'⟩ := h.some (by omega)
  exact h'.has.row k hk
theorem EOwnE.room {w : World} {base ec : Nat} {eo : Option Addr} {l : List (Int × Int)} (h : EOwnE w base eo ec l) : l.length ≤ ec := by
  rcases Nat.eq_zero_or_pos l.length with h0 | h0
  · omega
  · obtain ⟨g, _, h2⟩ := h.some h0
    exact h2.room
theorem LWf.at {l : List (Int × Int)} (h : LWf l) : ∀ k, k < l.length → (Lit.int .i64 (Lf l k)).wf = true ∧ (Lit.int .i64 (Hf l k)).wf = true := fun k hk => by
  have := h (l.getD k (0, 0)) (by rw [List.getD_eq_getElem?_getD, List.getElem?_eq_getElem hk]; simp)
  exact this
theorem wpList_append_edgeE {w : World} {ops : Array Oper} {rest : List Oper} {o : Oper} {a : Act} {Q : Exit → Act → World → Prop} (hgd : o.guard = none) (s x : Operand)
    (ho : o.op = .call { callee := .builtin .append, args := #[s, x], argTypes := #[28, 28] }) (base ec : Nat) (eo : Option Addr) (l : List (Int × Int)) (hs : a.eval s = .slice eo l.length ec)
    (hown : EOwnE w base eo ec l) (B c : Nat) (v u : Int) (hx : a.eval x = .slice (some ⟨B, 0, none⟩) 1 c) (h0 : w.cell? ⟨B, 0, none⟩ = some (.int .i64 v)) (h1 : w.cell? ⟨B, 1, none⟩ = some (.int .i64 u)) (hn : l.length ≤ 1000000) (hbase : base ≤ w.heap.size)
    (h : ∀ g' cap' w', EOwn w' base g' cap' (l ++ [(v, u)]) → w.grownBy w' (Value.slice eo l.length ec).ownBlock → ((Value.slice eo l.length ec).ownBlock = some g' ∨ g' = w.heap.size) → wpList Tryz.prog ops Q rest (a.put o.dst (.slice (some ⟨g', 0, none⟩) (l.length + 1) cap')) w') : wpList Tryz.prog ops Q (o :: rest) a w := by
  obtain ⟨i, hi, hz0, hz1, hz2⟩ := info_parts Tryz.infoEdge
  refine wpList_append_lies w hgd s x 28 ho base 62 i _ 2 16 Tryz.underlying28 hi hz0 hz1 hz2 rfl (by omega) _ l.length (ecells l) hs hown.1 ⟨B, 0, none⟩ 1 c [.int .i64 v, .int .i64 u] hx rfl (news_edge h0 h1) ?_ (by omega) (by unfold maxLen; omega) (by omega) hbase w.heap.size rfl ?_
  · intro u hu
    simp at hu
    rcases hu with rfl | rfl <;> rfl
  · intro g' cap' w' hown' hgrow hat hlt
    refine h g' cap' w' ?_ hgrow hat
    rw [ecells_snoc] at hown'
    unfold EOwn
    rw [List.length_append]
    exact hown'

theorem specNewHier_ex (p : Int) (ao : Option Addr) (n cap : Nat) (F T G : Nat → Int) (hn : n ≤ 1048576) (hp9 : p ≤ 9) (w : World) (hr : Row w ao n F T G) :
    Calls Tryz.prog 14 #[.agg #[.int .i64 p, .slice ao n cap]] w fun e w' => ∃ po m pc P eo ec l, e = .returned (.agg #[.slice po m pc, .slice eo (List.length l) ec]) ∧ m ≤ 24 ∧ l.length ≤ 216 ∧ (∀ a, po = some a → 0 < m → w.heap.size ≤ a.block ∧ a.block < w'.heap.size) ∧ IRow w' po m P ∧ EOwnE w' w.heap.size eo ec l ∧ (∀ a x, po = some a → 0 < m → (Value.slice eo (List.length l) ec).ownBlock = some x → a.block ≠ x) ∧ Below w.heap.size w w' := by
  rcases Bool.eq_false_or_eq_true (graphB p n F T G) with h | h
  rotate_left
  · go_enter Tryz.func14, Tryz.ntmps14
    go_wp2_with (go_at_call 41; refine (specGraphOk_any p ao n cap F T G hn _ ((hr.alloc _).alloc _)).mono ?_; rintro e w1 ⟨rfl, hb1⟩; obtain ⟨⟨q0, q1⟩, ⟨q2, q3⟩, ⟨q4, q5⟩, q6⟩ := box22 (hb1.mono (by simp)))
    exact bodyPost_ret (v := .agg #[.slice none 0 0, .slice none 0 0]) (by simp [results, Tryz.results14, go_sem, q2, q3, q4, q5]) rfl ⟨none, 0, 0, F, none, 0, [], rfl, by omega, by simp, fun a e => (by cases e), fun k hk => (by omega), EOwnE.nil _ _, fun a x e => (by cases e), ret_below (unbox2 hb1 (by simp; omega)) (by simp) _ _⟩
  have hpp : 1 ≤ p ∧ p ≤ 24 := by simpa [inB] using graphB_p h
  obtain ⟨pn, rfl⟩ : ∃ pn : Nat, p = (pn : Int) := ⟨p.toNat, by omega⟩
  have hL : lenO pn n F T G = pn := by simp [lenO, h]
  have hok := order_ok h
  rw [hL] at hok
  have hwf : Hid (LWf (allS (nbA F T n) (listO pn n F T) pn pn)) := allS_wf (by omega) (by omega)
  have hll : (allS (nbA F T n) (listO pn n F T) pn pn).length ≤ 216 := by
    have := allS_len (B := nbA F T n) (P := listO pn n F T) (show pn ≤ 24 by omega) pn
    omega
  obtain ⟨⟨hp1, hp2⟩, hn1, hF, hT, hFT⟩ := ok_arcs h
  have he := order_each h
  have hA := fun ao' cap' W hr' => l3Order_any pn ao' n cap' F T G hp1 hp2 hn1 hF hT hFT W hr'
  have hB := fun ao' cap' po' pcap' W hr' hp' => l4Fill_any pn ao' n cap' F T G po' pcap' (listO pn n F T) hp1 hp2 hn1 hF hT hFT he W hr' hp'
  have hD : (run3 pn (nbA F T n) pn).2.2 = listO pn n F T := by simp [listO]
  rw [hD] at hA
  generalize allS (nbA F T n) (listO pn n F T) pn pn = l at hB hll hwf ⊢
  generalize listO pn n F T = D at hA hB ⊢
  have HO : Hid (∀ ao' cap' W, Row W ao' n F T G → Calls Tryz.prog 42 #[.agg #[.int .i64 (pn : Int), .slice ao' n cap']] W fun e w' => ∃ g c, e = .returned (.slice (some ⟨g, 0, none⟩) pn c) ∧ W.heap.size ≤ g ∧ IHas w' g pn D ∧ Below W.heap.size W w' ∧ pn ≤ c) := hA
  have HF : Hid (∀ ao' cap' po' pcap' W, Row W ao' n F T G → IRow W po' pn D → Calls Tryz.prog 37 #[.agg #[.int .i64 (pn : Int), .slice ao' n cap'], .slice po' pn pcap'] W fun e w' => ∃ g c, e = .returned (.slice (some ⟨g, 0, none⟩) l.length c) ∧ W.heap.size ≤ g ∧ EOwn w' W.heap.size g c l ∧ Below W.heap.size W w') := hB
  clear hA hB hok hF hT hFT he hD hL
  go_enter Tryz.func14, Tryz.ntmps14
  go_wp2_with fail
  refine (specGraphOk_any pn ao n cap F T G hn _ ((hr.alloc _).alloc _)).mono ?_
  rw [h]
  rintro e w1 ⟨rfl, hb1⟩
  have hA1 := hb1.mono (B' := w.heap.size + 2) (by simp)
  obtain ⟨⟨q0, q1⟩, ⟨q2, q3⟩, ⟨q4, q5⟩, q6⟩ := box22 hA1
  clear hb1
  go_wp2_with fail
  refine (HO.out _ _ _ (((hr.alloc _).alloc _).below hA1 (by simp))).mono ?_
  rintro e w2 ⟨gD, capD, rfl, hgD, hD, hb2, _⟩
  have hA2 := below_next hA1 (by simp) hb2
  clear q0 q1 q2 q3 q4 q5 q6
  obtain ⟨⟨q0, q1⟩, ⟨q2, q3⟩, ⟨q4, q5⟩, q6⟩ := box22 hA2
  go_wp2_with fail
  refine (HF.out _ _ _ _ _ (((hr.alloc _).alloc _).below hA2 (by simp)) hD.row).mono ?_
  rintro e w3 ⟨gE, capE, rfl, hgE, hE, hb3⟩
  have hA3 := below_next hA2 (by simp) hb3
  clear q0 q1 q2 q3 q4 q5 q6
  have s1 := hA1.size
  have s2 := hA2.size
  simp only [World.size_alloc] at s1 s2
  obtain ⟨⟨q0, q1⟩, ⟨q2, q3⟩, ⟨q4, q5⟩, q6⟩ := box22 hA3
  go_wp2
  refine bodyPost_ret (v := .agg #[.slice (some ⟨gD, 0, none⟩) pn capD, .slice (some ⟨gE, 0, none⟩) l.length capE]) (by simp [results, Tryz.results14, go_sem, q2, q3, q4, q5]) rfl ⟨_, _, _, D, some ⟨gE, 0, none⟩, capE, l, rfl, by omega, hll, fun a e _ => by
    cases e
    have := hD.lt
    have := hb3.size
    simp [World.setCell]
    omega, ((hD.below hb3 hD.lt).of_block (ret_block _ _ (by omega))).row, ⟨EOwn.of_block (hE.from (by omega)) (ret_block _ _ (by omega)), hwf.out⟩, fun a x e _ q => by
    cases e
    cases q
    rintro rfl
    exact ihas_ehas (hD.below hb3 hD.lt) hE.has, ret_below (unbox2 hA3 (by simp)) (by simp) _ _⟩

/-- What stands while a map and its hierarchy are drawn: two boxes of results, two boxes of the call's own. -/
structure HW (w : World) (base c : Nat) (ao : Option Addr) (n cap : Nat) (gb hb : Nat) (p : Int) (go : Option Addr) (k gc : Nat) (po : Option Addr) (m pc : Nat) (P : Nat → Int) (eo : Option Addr) (ec : Nat) (l : List (Int × Int)) (W : World) : Prop where
  cur : CurAt W base c ao n cap
  gr : w.grownBy W (some c)
  rg : VHas W w.heap.size 26 2 (grV 0 (.slice none 0 0))
  rh : VHas W (w.heap.size + 1) 30 2 (me2 (.slice none 0 0) (.slice none 0 0))
  gbx : VHas W gb 26 2 (grV p (.slice go k gc))
  hbx : VHas W hb 30 2 (me2 (.slice po m pc) (.slice eo l.length ec))
  arcs : AOwnE W (w.heap.size + 2) go k gc
  ord : IRow W po m P
  ordb : ∀ a, po = some a → 0 < m → w.heap.size + 2 ≤ a.block ∧ a.block ≠ gb ∧ a.block ≠ hb
  edg : EOwnE W (w.heap.size + 2) eo ec l
  ne : w.heap.size + 2 ≤ gb ∧ w.heap.size + 2 ≤ hb ∧ gb ≠ hb
  sep : ∀ a x, po = some a → 0 < m → (Value.slice eo l.length ec).ownBlock = some x → a.block ≠ x
section
variable {w W W' : World} {base c : Nat} {ao : Option Addr} {n cap gb hb : Nat} {p : Int} {go : Option Addr} {k gc : Nat} {po : Option Addr} {m pc : Nat} {P : Nat → Int} {eo : Option Addr} {ec : Nat} {l : List (Int × Int)}
theorem IRow.otherE {w w' : World} {ao : Option Addr} {n : Nat} {f : Nat → Int} {x : Nat} (h : IRow w ao n f) (hg : w.grownBy w' (some x)) (hB : ∀ a, ao = some a → 0 < n → a.block ≠ x) : IRow w' ao n f := h.other hg (fun a e h0 q => hB a e h0 (by simpa using q))
theorem HW.next (h : HW w base c ao n cap gb hb p go k gc po m pc P eo ec l W) (hb' : Below W.heap.size W W') : HW w base c ao n cap gb hb p go k gc po m pc P eo ec l W' :=
  ⟨h.cur.next hb', h.gr.trans ⟨hb'.os, hb'.tape, hb'.output, hb'.size, fun k hk _ => hb'.block k hk⟩, h.rg.next hb', h.rh.next hb', h.gbx.next hb', h.hbx.next hb', h.arcs.next hb', h.ord.below hb' (Nat.le_refl _), h.ordb, h.edg.next hb', h.ne, h.sep⟩
theorem HW.step (h : HW w base c ao n cap gb hb p go k gc po m pc P eo ec l W) (hc : c < w.heap.size) (hC : CurAt W' base c ao n cap) (hg : W.grownBy W' (some c)) : HW w base c ao n cap gb hb p go k gc po m pc P eo ec l W' := by
  have hne := h.ne
  exact ⟨hC, h.gr.trans hg, h.rg.grown hg (by simp; omega), h.rh.grown hg (by simp; omega), h.gbx.grown hg (by simp; omega), h.hbx.grown hg (by simp; omega), h.arcs.grown hg (by omega), h.ord.otherE hg (fun a e h0 => by have := h.ordb a e h0; omega), h.ordb, h.edg.grown hg (fun x e q => by have := (h.edg.at e).1; cases q; omega), h.ne, h.sep⟩
theorem vhas_arc {W : World} {b x : Nat} {f : Nat → Value} {go : Option Addr} {k gc B : Nat} (h : VHas W b 30 2 f) (ha : AOwnE W B go k gc) (e : (Value.slice go k gc).ownBlock = some x) : x ≠ b := by
  rintro rfl
  obtain ⟨cur, h1, _⟩ := h
  obtain ⟨g, _, _, h0 | ⟨g', cap', cur', hv, hb, hh, rest⟩⟩ := ha
  · rw [h0.1] at e; cases e
  · rw [hv] at e
    cases e
    rw [h1] at hh
    simp at hh
theorem vhas_edge {W : World} {b x : Nat} {f : Nat → Value} {eo : Option Addr} {ec B : Nat} {l : List (Int × Int)} {t : TypeId} (ht : t ≠ 62) (h : VHas W b t 2 f) (ha : EOwnE W B eo ec l) (e : (Value.slice eo l.length ec).ownBlock = some x) : x ≠ b := by
  rintro rfl
  obtain ⟨cur, h1, _⟩ := h
  obtain ⟨⟨_, h0 | ⟨g', cap', cur', hv, hb, hh, rest⟩⟩, _⟩ := ha
  · rw [h0.1] at e; cases e
  · rw [hv] at e
    cases e
    rw [h1] at hh
    simp at hh
    exact ht hh.2
end

end Go.Proofs.YtokaechbmnbbiabGreat
