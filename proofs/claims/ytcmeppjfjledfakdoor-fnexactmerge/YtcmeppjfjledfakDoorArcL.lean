/-
  A list of arcs of the call's own, or none yet, that grows by one, its numbers known: the law for the walk. A command's box, and a command that is answered.
-/
import Derived.Test.YtcmeppjfjledfakDoorMark
import Derived.Test.YtcmeppjfjledfakDoorVh
import Derived.Test.YtcmeppjfjledfakDoorInts
import Derived.Test.YtcmeppjfjledfakDoorRdP
import Derived.Deep.RegionLaw
set_option linter.unusedVariables false
set_option linter.unusedSimpArgs false
namespace Go.Proofs.YtcmeppjfjledfakDoor
open Go.RowKit Go.Maps

/-- n arcs behind a slice of the call's own, or a slice that is nil. -/
def OwnA (w : World) (base : Nat) (go : Option Addr) (n cap : Nat) (f : Nat → Int) : Prop := w.ownsRow base 95 3 (.slice go n cap) n (cellsOf f (n * 3))
theorem OwnA.nil (w : World) (base : Nat) (f : Nat → Int) : OwnA w base none 0 0 f := ⟨by simp [cellsOf], .inl ⟨rfl, rfl⟩⟩
theorem OwnA.at {w : World} {base n cap x : Nat} {go : Option Addr} {f : Nat → Int} (h : OwnA w base go n cap f) (e : (Value.slice go n cap).ownBlock = some x) : base ≤ x ∧ x < w.heap.size := World.ownsRow.lt h x e
theorem OwnA.of_block {w w' : World} {base n cap : Nat} {go : Option Addr} {f : Nat → Int} (h : OwnA w base go n cap f) (e : ∀ x, (Value.slice go n cap).ownBlock = some x → w'.heap[x]? = w.heap[x]?) : OwnA w' base go n cap f := by
  refine ⟨h.1, ?_⟩
  rcases h.2 with hn | ⟨g', cap', cur, hv, hb', hgg, rest⟩
  · exact .inl hn
  · have e2 := e g' (by rw [hv]; rfl)
    exact .inr ⟨g', cap', cur, hv, hb', e2.trans hgg, rest⟩
theorem OwnA.next {w w' : World} {base n cap : Nat} {go : Option Addr} {f : Nat → Int} (h : OwnA w base go n cap f) (hb : Below w.heap.size w w') : OwnA w' base go n cap f := h.of_block (fun x e => hb.block x (h.at e).2)
theorem OwnA.grown {w w' : World} {base n cap : Nat} {go : Option Addr} {f : Nat → Int} {row : Option Nat} (h : OwnA w base go n cap f) (hg : w.grownBy w' row) (hne : ∀ x, (Value.slice go n cap).ownBlock = some x → row ≠ some x) : OwnA w' base go n cap f := h.of_block (fun x e => hg.block x (h.at e).2 (fun q => hne x e q.symm))
theorem OwnA.owns {w : World} {base n cap : Nat} {go : Option Addr} {f : Nat → Int} (h : OwnA w base go n cap f) : OwnS w base go n f := fun k hk => by
  obtain ⟨hl, h0 | ⟨g', cap', cur, hv, hb, hh, h1, h2, h3, h4⟩⟩ := h
  · omega
  · simp at hv
    obtain ⟨rfl, rfl⟩ := hv
    refine ⟨g', rfl, hb, cur, hh, by omega, fun j hj => ?_⟩
    have : (cur.toList.take (n * 3))[j]? = (cellsOf f (n * 3))[j]? := by rw [h4]
    rw [List.getElem?_take_of_lt hj, cellsOf, List.getElem?_map, List.getElem?_range hj] at this
    simpa using this
theorem OwnA.cap0 {w : World} {base n cap : Nat} {f : Nat → Int} (h : OwnA w base none n cap f) : n = 0 := by
  obtain ⟨hl, h0 | ⟨g', cap', cur, hv, _⟩⟩ := h
  · exact h0.2
  · simp at hv
theorem cells_next (f : Nat → Int) (n : Nat) : cellsOf f (n * 3) ++ [.int .i64 (f (n * 3)), .int .i64 (f (n * 3 + 1)), .int .i64 (f (n * 3 + 2))] = cellsOf f ((n + 1) * 3) := by
  have e : (n + 1) * 3 = n * 3 + 1 + 1 + 1 := by omega
  rw [e]
  simp [cellsOf, List.range_succ]
theorem news3_arc {w : World} {B : Nat} {x y z : Int} {t : TypeId} (hb : w.heap[B]? = some (.cells #[.int .i64 x, .int .i64 y, .int .i64 z] t (0, 0))) : ∀ j u, [Value.int .i64 x, .int .i64 y, .int .i64 z][j]? = some u → w.cell? ((⟨B, 0, none⟩ : Addr).add j) = some u :=
  World.news_of_block hb
theorem ones_arc (x y z : Int) : ∀ u ∈ [Value.int .i64 x, .int .i64 y, .int .i64 z], u.oneCell' = true := fun u hu => by
  simp at hu
  rcases hu with rfl | rfl | rfl <;> rfl
theorem wp_append_known {o : Oper} {a : Act} {w : World} {K : Act → World → Prop} {Q : Exit → Act → World → Prop} (s x : Operand)
    (ho : o.op = .call { callee := .builtin .append, args := #[s, x], argTypes := #[62, 62] }) (base k gc : Nat) (go : Option Addr) (f : Nat → Int) (hs : a.eval s = .slice go k gc) (hown : OwnA w base go k gc f) (B : Nat) (hx : a.eval x = .slice (some ⟨B, 0, none⟩) 1 1)
    (hB : w.heap[B]? = some (.cells #[.int .i64 (f (k * 3)), .int .i64 (f (k * 3 + 1)), .int .i64 (f (k * 3 + 2))] 95 (0, 0))) (hk : k ≤ 10000000) (hbase : base ≤ w.heap.size)
    (h : ∀ g' gc' w', OwnA w' base (some ⟨g', 0, none⟩) (k + 1) gc' f → w.grownBy w' (Value.slice go k gc).ownBlock → ((Value.slice go k gc).ownBlock = some g' ∨ g' = w.heap.size) → K (a.put o.dst (.slice (some ⟨g', 0, none⟩) (k + 1) gc')) w') : o.wp Tryd.prog a w K Q := by
  obtain ⟨i0, hi0, hz0, hz1, hz2⟩ := info_parts Tryd.infoArc
  refine wp_append_lies w s x 62 ho base 95 i0 _ 3 24 Tryd.underlying62 hi0 hz0 hz1 hz2 rfl (by omega) _ k (cellsOf f (k * 3)) hs hown ⟨B, 0, none⟩ 1 1 [.int .i64 (f (k * 3)), .int .i64 (f (k * 3 + 1)), .int .i64 (f (k * 3 + 2))] hx rfl (news3_arc hB) (ones_arc _ _ _) (by omega) (by unfold maxLen; omega) (by omega) hbase w.heap.size rfl ?_
  intro g' gc' w' hown' hgrow hat _
  rw [cells_next] at hown'
  exact h g' gc' w' hown' hgrow hat
theorem step_append_known {ops : Array Oper} {o : Oper} {a : Act} {w : World} {K : Act → World → Prop} {Q : Exit → Act → World → Prop} {E : Prop} (hgd : o.guard = none) (s x : Operand)
    (ho : o.op = .call { callee := .builtin .append, args := #[s, x], argTypes := #[62, 62] }) (base k gc : Nat) (go : Option Addr) (f : Nat → Int) (hs : a.eval s = .slice go k gc) (hown : OwnA w base go k gc f) (B : Nat) (hx : a.eval x = .slice (some ⟨B, 0, none⟩) 1 1)
    (hB : w.heap[B]? = some (.cells #[.int .i64 (f (k * 3)), .int .i64 (f (k * 3 + 1)), .int .i64 (f (k * 3 + 2))] 95 (0, 0))) (hk : k ≤ 10000000) (hbase : base ≤ w.heap.size)
    (h : ∀ g' gc' w', OwnA w' base (some ⟨g', 0, none⟩) (k + 1) gc' f → w.grownBy w' (Value.slice go k gc).ownBlock → ((Value.slice go k gc).ownBlock = some g' ∨ g' = w.heap.size) → K (a.put o.dst (.slice (some ⟨g', 0, none⟩) (k + 1) gc')) w') :
    if Region.wanted o (yielded ops a.tmps) = true then Oper.wp Tryd.prog o a w K Q else E := by
  have hw : Region.wanted o (yielded ops a.tmps) = true := by simp [Region.wanted, hgd]
  rw [if_pos hw]
  exact wp_append_known s x ho base k gc go f hs hown B hx hB hk hbase h

/-- What is read, field by field. -/
def kOf (r : Option (Int × List Int)) : Int := match r with | some (K, _) => K | none => 0
def lOf (r : Option (Int × List Int)) : List Int := match r with | some (K, ns) => if K = 2 then ns else [] | none => []
def aOf (r : Option (Int × List Int)) (j : Nat) : Int := match r with | some (K, ns) => if K = 3 then ns.getD j 0 else 0 | none => 0
def tri (ns : List Int) : Nat → Int := ar (at3 ns 0) (at3 ns 1) (at3 ns 2)
/-- A command that is answered, and whether it is one. -/
def CAns (w w' : World) (e : Ending) (r : Option (Int × List Int)) : Prop :=
  ∃ ao cap, e = .returned (.tuple #[.agg #[.int .i64 (kOf r), .slice ao ((lOf r).length / 3) cap, .int .i64 (aOf r 0), .int .i64 (aOf r 1)], .bool r.isSome]) ∧ OwnS w' w.heap.size ao ((lOf r).length / 3) (tri (lOf r)) ∧ Below w.heap.size w w'
/-- Four cells in a box. -/
def c4 (v0 v1 v2 v3 : Value) (j : Nat) : Value := if j = 0 then v0 else if j = 1 then v1 else if j = 2 then v2 else v3
theorem c4_new (w : World) (v0 v1 v2 v3 : Value) (t : TypeId) : VHas (w.alloc (.cells #[v0, v1, v2, v3] t)) w.heap.size t 4 (c4 v0 v1 v2 v3) :=
  ⟨_, Go.Deep.blk_alloc_new _ _, by simp, fun j hj => by
    have : j = 0 ∨ j = 1 ∨ j = 2 ∨ j = 3 := by omega
    rcases this with rfl | rfl | rfl | rfl <;> rfl⟩
theorem c4_two (w : World) (v0 v1 v2 v3 u0 u1 u2 u3 : Value) (t : TypeId) :
    VHas ((w.alloc (.cells #[v0, v1, v2, v3] t)).alloc (.cells #[u0, u1, u2, u3] t)) w.heap.size t 4 (c4 v0 v1 v2 v3) ∧ VHas ((w.alloc (.cells #[v0, v1, v2, v3] t)).alloc (.cells #[u0, u1, u2, u3] t)) (w.heap.size + 1) t 4 (c4 u0 u1 u2 u3) ∧
    Below w.heap.size w ((w.alloc (.cells #[v0, v1, v2, v3] t)).alloc (.cells #[u0, u1, u2, u3] t)) ∧ ((w.alloc (.cells #[v0, v1, v2, v3] t)).alloc (.cells #[u0, u1, u2, u3] t)).heap.size = w.heap.size + 2 :=
  ⟨(c4_new w v0 v1 v2 v3 t).alloc _, by simpa only [World.size_alloc] using c4_new (w.alloc (.cells #[v0, v1, v2, v3] t)) u0 u1 u2 u3 t, ((Below.refl _ _).alloc (Nat.le_refl _) _).alloc (by simp) _, by simp⟩
/-- The four cells of a command's box, once it is filled. -/
theorem st4 {W : World} {b : Nat} {t : TypeId} {f : Nat → Value} (h : VHas W b t 4 f) (v0 v1 v2 v3 : Value) :
    ((((W.setCell ⟨b, 0, none⟩ v0).setCell ⟨b, 1, none⟩ v1).setCell ⟨b, 2, none⟩ v2).setCell ⟨b, 3, none⟩ v3).cell? ⟨b, 0, none⟩ = some v0 ∧ ((((W.setCell ⟨b, 0, none⟩ v0).setCell ⟨b, 1, none⟩ v1).setCell ⟨b, 2, none⟩ v2).setCell ⟨b, 3, none⟩ v3).cell? ⟨b, 1, none⟩ = some v1 ∧
    ((((W.setCell ⟨b, 0, none⟩ v0).setCell ⟨b, 1, none⟩ v1).setCell ⟨b, 2, none⟩ v2).setCell ⟨b, 3, none⟩ v3).cell? ⟨b, 2, none⟩ = some v2 ∧ ((((W.setCell ⟨b, 0, none⟩ v0).setCell ⟨b, 1, none⟩ v1).setCell ⟨b, 2, none⟩ v2).setCell ⟨b, 3, none⟩ v3).cell? ⟨b, 3, none⟩ = some v3 := by
  have u := (((h.set 0 v0).set 1 v1).set 2 v2).set 3 v3
  exact ⟨u.cell (j := 0) (by omega), u.cell (j := 1) (by omega), u.cell (j := 2) (by omega), u.cell (j := 3) (by omega)⟩
theorem st4_below {w W : World} {b : Nat} (h : Below w.heap.size w W) (hb : w.heap.size ≤ b) (v0 v1 v2 v3 : Value) : Below w.heap.size w ((((W.setCell ⟨b, 0, none⟩ v0).setCell ⟨b, 1, none⟩ v1).setCell ⟨b, 2, none⟩ v2).setCell ⟨b, 3, none⟩ v3) :=
  (((h.setCell (p := ⟨b, 0, none⟩) hb v0).setCell (p := ⟨b, 1, none⟩) hb v1).setCell (p := ⟨b, 2, none⟩) hb v2).setCell (p := ⟨b, 3, none⟩) hb v3
theorem st4_block (W : World) {b x : Nat} (h : x ≠ b) (v0 v1 v2 v3 : Value) : ((((W.setCell ⟨b, 0, none⟩ v0).setCell ⟨b, 1, none⟩ v1).setCell ⟨b, 2, none⟩ v2).setCell ⟨b, 3, none⟩ v3).heap[x]? = W.heap[x]? := by
  rw [Below.heap_setCell _ _ _ _ (by simpa using h), Below.heap_setCell _ _ _ _ (by simpa using h), Below.heap_setCell _ _ _ _ (by simpa using h), Below.heap_setCell _ _ _ _ (by simpa using h)]
theorem OwnS.of_st4 {W : World} {B b n : Nat} {ao : Option Addr} {f : Nat → Int} (h : OwnS W B ao n f) (hb : 0 < n → ∀ a, ao = some a → a.block ≠ b) (v0 v1 v2 v3 : Value) : OwnS ((((W.setCell ⟨b, 0, none⟩ v0).setCell ⟨b, 1, none⟩ v1).setCell ⟨b, 2, none⟩ v2).setCell ⟨b, 3, none⟩ v3) B ao n f := fun k hk => by
  obtain ⟨g, e, hB, hh⟩ := h k hk
  exact ⟨g, e, hB, hh.of_block (st4_block W (hb (by omega) _ e) v0 v1 v2 v3)⟩
theorem OwnS.nxt {W W' : World} {B n : Nat} {ao : Option Addr} {f : Nat → Int} (h : OwnS W B ao n f) (hb : Below W.heap.size W W') : OwnS W' B ao n f := fun k hk => by
  obtain ⟨g, e, hB, hh⟩ := h k hk
  exact ⟨g, e, hB, hh.below hb hh.lt⟩
theorem OwnS.from {W : World} {B B' n : Nat} {ao : Option Addr} {f : Nat → Int} (h : OwnS W B ao n f) (hb : B' ≤ B) : OwnS W B' ao n f := fun k hk => by
  obtain ⟨g, e, hB, hh⟩ := h k hk
  exact ⟨g, e, by omega, hh⟩
theorem owns_none (W : World) (B : Nat) (ao : Option Addr) (f : Nat → Int) : OwnS W B ao 0 f := fun k hk => by omega
theorem cans_ask {w w' : World} {x y : Int} (hB : Below w.heap.size w w') : CAns w w' (.returned (.tuple #[.agg #[.int .i64 3, .slice none 0 0, .int .i64 x, .int .i64 y], .bool true])) (some (3, [x, y])) :=
  ⟨none, 0, by simp [kOf, lOf, aOf], by simp [lOf]; exact owns_none _ _ _ _, hB⟩
theorem cans_weigh {w w' : World} {ns : List Int} {ao : Option Addr} {n cap : Nat} (hn : ns.length / 3 = n) (hO : OwnS w' w.heap.size ao n (tri ns)) (hB : Below w.heap.size w w') : CAns w w' (.returned (.tuple #[.agg #[.int .i64 2, .slice ao n cap, .int .i64 0, .int .i64 0], .bool true])) (some (2, ns)) :=
  ⟨ao, cap, by simp [kOf, lOf, aOf, hn], by simp [lOf, hn]; exact hO, hB⟩
theorem tri0 (ns : List Int) (k : Nat) : tri ns (k * 3) = ns.getD (3 * k) 0 := by unfold tri; rw [ar0]; rfl
theorem tri1 (ns : List Int) (k : Nat) : tri ns (k * 3 + 1) = ns.getD (3 * k + 1) 0 := by unfold tri; rw [ar1]; rfl
theorem tri2 (ns : List Int) (k : Nat) : tri ns (k * 3 + 2) = ns.getD (3 * k + 2) 0 := by unfold tri; rw [ar2]; rfl

end Go.Proofs.YtcmeppjfjledfakDoor
