/-
  Helpers, merged: DrawBox, DrawAr, DrawB, BendB, Bend, DrawCm.
-/
import Derived.Test.YtcmeppjfjledfacDoorPack5
import Derived.Test.YtcmeppjfjledfacDoorPack4
import Derived.Deep.AppendLies
import Derived.Laws.OwnMore
import Derived.Test.YtcmeppjfjledfacDoorPack2
/-
  What stands while something is drawn beside a map.
-/
set_option linter.unusedVariables false
set_option linter.unusedSimpArgs false
namespace Go.Proofs.YtcmeppjfjledfacDoor
open Go.RowKit Go.Maps
attribute [local go_sem ↓] Go.wp_at_zero Go.wp_at_succ

theorem Row.otherB {w w' : World} {ao : Option Addr} {n : Nat} {F T G : Nat → Int} {row : Option Nat} (h : Row w ao n F T G) (hg : w.grownBy w' row) (hB : ∀ a, ao = some a → 0 < n → some a.block ≠ row) : Row w' ao n F T G := fun k hk => by
  obtain ⟨b', o, e, c0, c1, c2⟩ := h k hk
  have hne := hB _ e (by omega)
  exact ⟨b', o, e, hg.cell c0 hne, hg.cell c1 hne, hg.cell c2 hne⟩
theorem IRow.other {w w' : World} {ao : Option Addr} {n : Nat} {f : Nat → Int} {row : Option Nat} (h : IRow w ao n f) (hg : w.grownBy w' row) (hB : ∀ a, ao = some a → 0 < n → some a.block ≠ row) : IRow w' ao n f := fun k hk => by
  obtain ⟨b', o, e, c0⟩ := h k hk
  have hne := hB _ e (by omega)
  exact ⟨b', o, e, hg.cell c0 hne⟩
/-- A map that was drawn: its arcs in new memory. -/
def Drawn (w w' : World) (ao : Option Addr) (n : Nat) : Prop := ∃ F T G : Nat → Int, Row w' ao n F T G ∧ ∀ a, ao = some a → 0 < n → w.heap.size ≤ a.block
theorem drawn_of {w w' : World} {base n cap : Nat} {ao : Option Addr} (h : AOwnE w' base ao n cap) (hb : w.heap.size ≤ base) : Drawn w w' ao n := by
  obtain ⟨F, T, G, hr, hg⟩ := h.row
  refine ⟨F, T, G, hr, fun a e hn => ?_⟩
  obtain ⟨g, e', hg'⟩ := hg hn
  rw [e] at e'
  cases e'
  exact Nat.le_trans hb hg'
theorem below_fard {w W : World} {c : Nat} (h : w.grownBy W (some c)) (hc : w.heap.size ≤ c) : Below w.heap.size w W := gr_below h hc (Nat.le_refl _)

/-- What stands while something is drawn beside a map: the cursor, the box of a result, the map's box, its arcs. -/
structure DW (w : World) (base c : Nat) (ao : Option Addr) (n cap : Nat) (rb gb ob : Nat) (p : Int) (go : Option Addr) (k gc : Nat) (W : World) : Prop where
  cur : CurAt W base c ao n cap
  res : VHas W rb 64 2 (grV 0 (.slice none 0 0))
  box : VHas W gb 64 2 (grV p (.slice go k gc))
  own : AOwnE W ob go k gc
  bel : Below w.heap.size w W
theorem DW.step {w : World} {base c : Nat} {ao : Option Addr} {n cap rb gb ob : Nat} {p : Int} {go : Option Addr} {k gc : Nat} {W W' : World} (h : DW w base c ao n cap rb gb ob p go k gc W) (hc : (rb < c ∧ c < ob ∧ c < gb) ∧ w.heap.size ≤ c) (hC : CurAt W' base c ao n cap) (hg : W.grownBy W' (some c)) : DW w base c ao n cap rb gb ob p go k gc W' :=
  ⟨hC, h.res.grown hg (by simp; omega), h.box.grown hg (by simp; omega), h.own.grown hg (by omega), h.bel.trans (gr_below hg hc.2 h.bel.size)⟩
theorem DW.next {w : World} {base c : Nat} {ao : Option Addr} {n cap rb gb ob : Nat} {p : Int} {go : Option Addr} {k gc : Nat} {W W' : World} (h : DW w base c ao n cap rb gb ob p go k gc W) (hb : Below W.heap.size W W') : DW w base c ao n cap rb gb ob p go k gc W' :=
  ⟨h.cur.next hb, h.res.next hb, h.box.next hb, h.own.next hb, below_next h.bel (Nat.le_refl _) hb⟩
theorem DW.out {w : World} {base c : Nat} {ao : Option Addr} {n cap rb gb ob : Nat} {p : Int} {go : Option Addr} {k gc : Nat} {W : World} (h : DW w base c ao n cap rb gb ob p go k gc W) (hc : (rb < c ∧ c < ob ∧ c < gb) ∧ w.heap.size ≤ rb) (v0 v1 : Value) :
    Drawn w ((W.setCell ⟨rb, 0, none⟩ v0).setCell ⟨rb, 1, none⟩ v1) go k ∧ Below w.heap.size w ((W.setCell ⟨rb, 0, none⟩ v0).setCell ⟨rb, 1, none⟩ v1) := by
  have h1 := gr_setCell W rb 0 v0
  have h2 := gr_setCell (W.setCell ⟨rb, 0, none⟩ v0) rb 1 v1
  exact ⟨drawn_of ((h.own.grown h1 (by omega)).grown h2 (by omega)) (by omega), (h.bel.setCell (p := ⟨rb, 0, none⟩) hc.2 v0).setCell (p := ⟨rb, 1, none⟩) hc.2 v1⟩

end Go.Proofs.YtcmeppjfjledfacDoor

/-
  The document's draw of a list of arcs.
-/
set_option linter.unusedVariables false
set_option linter.unusedSimpArgs false
namespace Go.Proofs.YtcmeppjfjledfacDoor
open Go.RowKit Go.Maps Go.Deep Go.Joins
attribute [local go_sem ↓] Go.wp_at_zero Go.wp_at_succ

theorem aown_empty (w : World) {base : Nat} (hb : base ≤ w.heap.size) : AOwnE (w.alloc (.cells #[] 50)) base (some ⟨w.heap.size, 0, none⟩) 0 0 := by
  have := World.ownsRow_lit (base := base) (e := 50) (size := 3) w #[] 0 hb (by simp) (by simp)
  exact ⟨fun _ => 0, fun _ => wfA (x := 0) (by omega), by simpa [cellsOf] using this⟩
theorem blk_at {W : World} {B : Nat} (h : W.heap.size = B) (o : Obj) : (W.alloc o).heap[B]? = some o := by rw [← h]; exact Go.Deep.blk_alloc_new W o
/-- What stands while a list of arcs is drawn: the map's box, the cursor, the list of the call's own. -/
structure AW (w : World) (base c : Nat) (ao : Option Addr) (n cap : Nat) (p : Int) (go : Option Addr) (k gc : Nat) (xo : Option Addr) (m xc : Nat) (W : World) : Prop where
  cur : CurAt W base c ao n cap
  gr : w.grownBy W (some c)
  box : VHas W w.heap.size 64 2 (grV p (.slice go k gc))
  own : AOwnE W (w.heap.size + 1) xo m xc
section
variable {w W W' : World} {base c : Nat} {ao : Option Addr} {n cap : Nat} {p : Int} {go : Option Addr} {k gc : Nat} {xo : Option Addr} {m xc : Nat}
theorem AW.step (h : AW w base c ao n cap p go k gc xo m xc W) (hc : c < w.heap.size) (hC : CurAt W' base c ao n cap) (hg : W.grownBy W' (some c)) : AW w base c ao n cap p go k gc xo m xc W' :=
  ⟨hC, h.gr.trans hg, h.box.grown hg (by simp; omega), h.own.grown hg (by omega)⟩
theorem AW.next (h : AW w base c ao n cap p go k gc xo m xc W) (hb : Below W.heap.size W W') : AW w base c ao n cap p go k gc xo m xc W' :=
  ⟨h.cur.next hb, h.gr.trans ⟨hb.os, hb.tape, hb.output, hb.size, fun k hk _ => hb.block k hk⟩, h.box.next hb, h.own.next hb⟩
theorem AW.app (h : AW w base c ao n cap p go k gc xo m xc W) (hc : c < w.heap.size) (hg : W.grownBy W' (Value.slice xo m xc).ownBlock) {g' m' gc' : Nat} (hown : AOwnE W' (w.heap.size + 1) (some ⟨g', 0, none⟩) m' gc') : AW w base c ao n cap p go k gc (some ⟨g', 0, none⟩) m' gc' W' := by
  have hr : ∀ x, (Value.slice xo m xc).ownBlock = some x → w.heap.size + 1 ≤ x := fun x e => (h.own.at e).1
  exact ⟨h.cur.far hg hr (by omega), gr_far h.gr hg hr (by omega), h.box.grown hg (fun e => by have := hr _ e.symm; omega), hown⟩
theorem AW.setA (h : AW w base c ao n cap p go k gc xo m xc W) (hc : c < w.heap.size) {ab : Nat} (hab : w.heap.size + 1 ≤ ab) (i : Nat) (v : Int) {f : Nat → Value} (hA : VHas W ab 50 3 f) (hne : ∀ x, (Value.slice xo m xc).ownBlock = some x → x ≠ ab) : AW w base c ao n cap p go k gc xo m xc (W.setCell ⟨ab, i, none⟩ (.int .i64 v)) := by
  have h1 := gr_setCell W ab i (.int .i64 v)
  have hge := h.cur.ge
  refine ⟨h.cur.grown h1 (by omega) (by omega), gr_far h.gr h1 (fun g e => by cases e; exact Nat.le_refl _) (by omega), h.box.grown h1 (by simp; omega), ?_⟩
  obtain ⟨f', hw9, hl, h0 | ⟨g, cap', cur, hv, hb, hh, rest⟩⟩ := h.own
  · exact ⟨f', hw9, hl, .inl h0⟩
  · exact ⟨f', hw9, hl, .inr ⟨g, cap', cur, hv, hb, (h1.block g (Array.getElem?_eq_some_iff.1 hh).1 (by simp; exact hne g (by rw [hv]; rfl))).trans hh, rest⟩⟩
/-- A box of an arc. -/
def a3 (x y z : Int) (j : Nat) : Value := if j = 0 then .int .i64 x else if j = 1 then .int .i64 y else .int .i64 z
theorem a3_new (w : World) (x y z : Int) : VHas (w.alloc (.cells #[.int .i64 x, .int .i64 y, .int .i64 z] 50)) w.heap.size 50 3 (a3 x y z) :=
  ⟨_, Go.Deep.blk_alloc_new _ _, by simp, fun j hj => by
    have : j = 0 ∨ j = 1 ∨ j = 2 := by omega
    rcases this with rfl | rfl | rfl <;> rfl⟩
end
theorem lit3W {W : World} {b : Nat} {a0 a1 a2 : Int} {t : TypeId} (h : W.heap[b]? = some (.cells #[.int .i64 a0, .int .i64 a1, .int .i64 a2] t (0, 0))) (h0 : (Lit.int .i64 a0).wf = true) (h1 : (Lit.int .i64 a1).wf = true) (h2 : (Lit.int .i64 a2).wf = true) {y : Nat} (hy : y < 3) : ∃ v, W.cell? ⟨b, y, none⟩ = some (.int .i64 v) ∧ (Lit.int .i64 v).wf = true := by
  have : y = 0 ∨ y = 1 ∨ y = 2 := by omega
  rcases this with rfl | rfl | rfl
  · exact ⟨a0, by simp [World.cell?, h], h0⟩
  · exact ⟨a1, by simp [World.cell?, h], h1⟩
  · exact ⟨a2, by simp [World.cell?, h], h2⟩

set_option maxRecDepth 100000 in
set_option maxHeartbeats 8000000 in
theorem l1DrawArcs_any (base c : Nat) (ao : Option Addr) (n cap : Nat) (p : Int) (go : Option Addr) (k gc : Nat) (F T G : Nat → Int) (hk : k ≤ 200) (hwf : ∀ j, j < k → (Lit.int .i64 (F j)).wf = true ∧ (Lit.int .i64 (T j)).wf = true) (w : World) (hC : CurAt w base c ao n cap) (hr : Row w go k F T G) (hgc : ∀ a, go = some a → 0 < k → a.block ≠ c ∧ a.block < w.heap.size) :
    Calls Tryd.prog 83 #[.pointer (some ⟨c, 0, none⟩), .agg #[.int .i64 p, .slice go k gc]] w fun e w' => ∃ (xo : Option Addr) (m xc : Nat), e = .returned (.slice xo m xc) ∧ m ≤ 4 ∧ AOwnE w' w.heap.size xo m xc ∧ CurAt w' base c ao n cap ∧ w.grownBy w' (some c) := by
  have hcl := hC.lt
  have hge := hC.ge
  go_enter Tryd.func83, Tryd.ntmps83
  have ha1 := (Below.refl w.heap.size w).alloc (Nat.le_refl _) (.cells #[.int .i64 p, .slice go k gc] 64)
  have ha2 := (Below.refl _ (w.alloc (.cells #[.int .i64 p, .slice go k gc] 64))).alloc (Nat.le_refl _) (.cells #[] 50)
  have hW : AW w base c ao n cap p go k gc (some ⟨w.heap.size + 1, 0, none⟩) 0 0 ((w.alloc (.cells #[.int .i64 p, .slice go k gc] 64)).alloc (.cells #[] 50)) :=
    ⟨(hC.next ha1).next ha2, (⟨ha1.os, ha1.tape, ha1.output, ha1.size, fun k hk _ => ha1.block k hk⟩ : w.grownBy _ (some c)).trans ⟨ha2.os, ha2.tape, ha2.output, ha2.size, fun k hk _ => ha2.block k hk⟩, (gr_new w p (.slice go k gc)).next ha2, by have := aown_empty (w.alloc (.cells #[.int .i64 p, .slice go k gc] 64)) (base := w.heap.size + 1) (by simp); simpa only [World.size_alloc] using this⟩
  clear ha1 ha2
  go_wp2_with fail
  generalize ((w.alloc (.cells #[.int .i64 p, .slice go k gc] 64)).alloc (.cells #[] 50)) = W0 at hW ⊢
  refine (l1Below_any base c ao n cap 5 (by omega) (by omega) _ hW.cur).mono ?_
  rintro e w1 ⟨x, rfl, hx, hC1, hg1⟩
  replace hW := hW.step hcl hC1 hg1
  clear hC1 hg1
  go_wp2_with fail
  go_loopw [5, 6] (fun o z wr => ∃ (m q : Nat) (xo : Option Addr) (xc : Nat), q + m ≤ 4 ∧ o = .slice xo m xc ∧ z = .int .i64 (q : Int) ∧ AW w base c ao n cap p go k gc xo m xc wr) (fun _ z _ => (intOf z).toNat)
  case atStart => exact ⟨0, x, _, _, by omega, rfl, rfl, hW⟩
  case round =>
    clear hW
    obtain ⟨m, q, xo, xc, hqm, rfl, rfl, hW⟩ := hrel
    by_cases hq0 : 0 < q
    rotate_left
    · obtain rfl : q = 0 := by omega
      go_wp2
      go_ret
      exact ⟨xo, m, xc, rfl, by omega, hW.own.from (by omega), hW.cur, hW.gr⟩
    have hq0' : 0 < (q : Int) := by omega
    go_wp2_with fail
    refine (l1Below_any base c ao n cap 5 (by omega) (by omega) _ hW.cur).mono ?_
    rintro e w2 ⟨x1, rfl, hx1, hC2, hg2⟩
    replace hW := hW.step hcl hC2 hg2
    clear hC2 hg2
    go_wp2_with fail
    refine (l1Below_any base c ao n cap 5 (by omega) (by omega) _ hW.cur).mono ?_
    rintro e w3 ⟨x2, rfl, hx2, hC3, hg3⟩
    replace hW := hW.step hcl hC3 hg3
    clear hC3 hg3
    go_wp2_with fail
    refine (l1Below_any base c ao n cap 20 (by omega) (by omega) _ hW.cur).mono ?_
    rintro e w4 ⟨x3, rfl, hx3, hC4, hg4⟩
    replace hW := hW.step hcl hC4 hg4
    clear hC4 hg4
    have b1 : w4.cell? ⟨w.heap.size, 1, none⟩ = some (.slice go k gc) := hW.box.cell (j := 1) (by omega)
    have hx4 : IntKind.i64.wrap (1 + (x3 : Int)) = 1 + (x3 : Int) := by rw [IntKind.wrap_i64]; omega
    have hbl := hW.box.lt
    have ha := (Below.refl w4.heap.size w4).alloc (Nat.le_refl _) (.cells #[.int .i64 (x1 : Int), .int .i64 (x2 : Int), .int .i64 (1 + (x3 : Int))] 50)
    have hA := a3_new w4 (x1 : Int) (x2 : Int) (1 + (x3 : Int))
    have HOWN := fun x e => (hW.own.at (x := x) e).2
    replace hW := hW.next ha
    have hab : c < w4.heap.size ∧ w.heap.size + 1 ≤ w4.heap.size := by omega
    have hne9 : ∀ x, (Value.slice xo m xc).ownBlock = some x → x ≠ w4.heap.size := fun x e => by have := (HOWN x e); omega
    clear ha
    by_cases hk0 : 0 < k
    rotate_left
    · have hk0' : ¬ 0 < (k : Int) := by omega
      go_wp2_with fail
      generalize (w4.alloc (.cells #[.int .i64 (x1 : Int), .int .i64 (x2 : Int), .int .i64 (1 + (x3 : Int))] 50)) = W5 at hW hA ⊢
      generalize w4.heap.size = ab at hA hab hne9 HOWN ⊢
      refine (l1Once_any base c ao n cap 24 (by omega) (by omega) _ hW.cur).mono ?_
      rintro e wA ⟨bz, rfl, hCA, hgA⟩
      replace hW := hW.step hcl hCA hgA
      replace hA := hA.grown hgA (by simp; omega)
      clear hCA hgA
      cases bz
      · skip
        have u0 : wA.cell? ⟨ab, 0, none⟩ = some (.int .i64 ((x1 : Int))) := hA.cell (j := 0) (by omega)
        have u1 : wA.cell? ⟨ab, 1, none⟩ = some (.int .i64 ((x2 : Int))) := hA.cell (j := 1) (by omega)
        have u2 : wA.cell? ⟨ab, 2, none⟩ = some (.int .i64 (1 + (x3 : Int))) := hA.cell (j := 2) (by omega)
        have hz := hW.gr.size
        have hlb := hW.box.lt
        go_wp2_with (at_builtin; refine wpList_append_arc rfl _ _ rfl (w.heap.size + 1) m xc xo rfl (hW.own.next ((Below.refl _ _).alloc (Nat.le_refl _) (.cells #[.int .i64 ((x1 : Int)), .int .i64 ((x2 : Int)), .int .i64 (1 + (x3 : Int))] 50))) wA.heap.size rfl _ _ _ (Go.Deep.blk_alloc_new _ _) (by omega) (by simp; omega) (wfA (by omega)) (wfA (by omega)) (wfA (by omega)) ?_; intro g6 xc6 w6 hown6 hgrow6 hat6; have hW6 := (hW.next ((Below.refl _ _).alloc (Nat.le_refl _) (.cells #[.int .i64 ((x1 : Int)), .int .i64 ((x2 : Int)), .int .i64 (1 + (x3 : Int))] 50))).app hcl hgrow6 hown6)
        clear hW hA u0 u1 u2 hgrow6 hown6 hat6
        go_wp2
        go_roundw
        case rel => exact ⟨m + 1, q - 1, _, _, by omega, rfl, by go_num, hW6⟩
        case measure => simp [intOf]; omega
      have hlA := hA.lt
      have hcw := hW.cur.lt
      replace hW := hW.next ((Below.refl wA.heap.size wA).alloc (Nat.le_refl _) (.cells #[.int .i64 0, .int .i64 1000000, .int .i64 1000001] 2))
      replace hA := hA.next ((Below.refl wA.heap.size wA).alloc (Nat.le_refl _) (.cells #[.int .i64 0, .int .i64 1000000, .int .i64 1000001] 2))
      go_wp2_with fail
      refine (l1Below_any base c ao n cap 3 (by omega) (by omega) _ hW.cur).mono ?_
      rintro e w7 ⟨y, rfl, hy, hC7, hg7⟩
      replace hW := hW.step hcl hC7 hg7
      replace hA := hA.grown hg7 (by simp; omega)
      obtain ⟨v, hv, hvw⟩ := lit3W ((hg7.block wA.heap.size (by simp) (by simp <;> omega)).trans (Go.Deep.blk_alloc_new wA (.cells #[.int .i64 0, .int .i64 1000000, .int .i64 1000001] 2))) (wfA (by omega)) (wfA (by omega)) (wfA (by omega)) (show y < 3 by omega)
      have uz : w7.cell? ⟨ab, 2, none⟩ = some (.int .i64 (1 + (x3 : Int))) := hA.cell (j := 2) (by omega)
      have zz := hA.frozen 2
      have lz := hA.lt
      have hy3 : (y : Int) < 3 := by omega
      have uy0 : w7.cell? ⟨ab, 0, none⟩ = some (.int .i64 ((x1 : Int))) := hA.cell (j := 0) (by omega)
      have uy1 : w7.cell? ⟨ab, 1, none⟩ = some (.int .i64 ((x2 : Int))) := hA.cell (j := 1) (by omega)
      clear hC7 hg7
      replace hW := hW.setA hcl (ab := ab) (by omega) 2 v hA hne9
      replace hA := (hA.set 2 (.int .i64 v)).congr (g := a3 ((x1 : Int)) ((x2 : Int)) v) (fun j hj => by have : j = 0 ∨ j = 1 ∨ j = 2 := (by omega); rcases this with rfl | rfl | rfl <;> rfl)
      have u0 : (w7.setCell ⟨ab, 2, none⟩ (.int .i64 v)).cell? ⟨ab, 0, none⟩ = some (.int .i64 ((x1 : Int))) := hA.cell (j := 0) (by omega)
      have u1 : (w7.setCell ⟨ab, 2, none⟩ (.int .i64 v)).cell? ⟨ab, 1, none⟩ = some (.int .i64 ((x2 : Int))) := hA.cell (j := 1) (by omega)
      have u2 : (w7.setCell ⟨ab, 2, none⟩ (.int .i64 v)).cell? ⟨ab, 2, none⟩ = some (.int .i64 (v)) := hA.cell (j := 2) (by omega)
      have hz := hW.gr.size
      have hlb := hW.box.lt
      go_wp2_with (at_builtin; refine wpList_append_arc rfl _ _ rfl (w.heap.size + 1) m xc xo rfl (hW.own.next ((Below.refl _ _).alloc (Nat.le_refl _) (.cells #[.int .i64 ((x1 : Int)), .int .i64 ((x2 : Int)), .int .i64 (v)] 50))) w7.heap.size rfl _ _ _ (blk_at (by simp [World.setCell]) _) (by omega) (by simp; omega) (wfA (by omega)) (wfA (by omega)) (hvw) ?_; intro g6 xc6 w6 hown6 hgrow6 hat6; have hW6 := (hW.next ((Below.refl _ _).alloc (Nat.le_refl _) (.cells #[.int .i64 ((x1 : Int)), .int .i64 ((x2 : Int)), .int .i64 (v)] 50))).app hcl hgrow6 hown6)
      clear hW hA u0 u1 u2 hgrow6 hown6 hat6
      go_wp2
      go_roundw
      case rel => exact ⟨m + 1, q - 1, _, _, by omega, rfl, by go_num, hW6⟩
      case measure => simp [intOf]; omega
    have hk0' : 0 < (k : Int) := by omega
    go_wp2_with fail
    generalize (w4.alloc (.cells #[.int .i64 (x1 : Int), .int .i64 (x2 : Int), .int .i64 (1 + (x3 : Int))] 50)) = W5 at hW hA ⊢
    generalize w4.heap.size = ab at hA hab hne9 HOWN ⊢
    refine (l1Once_any base c ao n cap 20 (by omega) (by omega) _ hW.cur).mono ?_
    rintro e w5 ⟨bx, rfl, hC5, hg5⟩
    replace hW := hW.step hcl hC5 hg5
    replace hA := hA.grown hg5 (by simp; omega)
    clear hC5 hg5 b1
    cases bx
    rotate_left
    · skip
      go_wp2_with fail
      refine (l1Once_any base c ao n cap 24 (by omega) (by omega) _ hW.cur).mono ?_
      rintro e wA ⟨bz, rfl, hCA, hgA⟩
      replace hW := hW.step hcl hCA hgA
      replace hA := hA.grown hgA (by simp; omega)
      clear hCA hgA
      cases bz
      · skip
        have u0 : wA.cell? ⟨ab, 0, none⟩ = some (.int .i64 ((x1 : Int))) := hA.cell (j := 0) (by omega)
        have u1 : wA.cell? ⟨ab, 1, none⟩ = some (.int .i64 ((x2 : Int))) := hA.cell (j := 1) (by omega)
        have u2 : wA.cell? ⟨ab, 2, none⟩ = some (.int .i64 (1 + (x3 : Int))) := hA.cell (j := 2) (by omega)
        have hz := hW.gr.size
        have hlb := hW.box.lt
        go_wp2_with (at_builtin; refine wpList_append_arc rfl _ _ rfl (w.heap.size + 1) m xc xo rfl (hW.own.next ((Below.refl _ _).alloc (Nat.le_refl _) (.cells #[.int .i64 ((x1 : Int)), .int .i64 ((x2 : Int)), .int .i64 (1 + (x3 : Int))] 50))) wA.heap.size rfl _ _ _ (Go.Deep.blk_alloc_new _ _) (by omega) (by simp; omega) (wfA (by omega)) (wfA (by omega)) (wfA (by omega)) ?_; intro g6 xc6 w6 hown6 hgrow6 hat6; have hW6 := (hW.next ((Below.refl _ _).alloc (Nat.le_refl _) (.cells #[.int .i64 ((x1 : Int)), .int .i64 ((x2 : Int)), .int .i64 (1 + (x3 : Int))] 50))).app hcl hgrow6 hown6)
        clear hW hA u0 u1 u2 hgrow6 hown6 hat6
        go_wp2
        go_roundw
        case rel => exact ⟨m + 1, q - 1, _, _, by omega, rfl, by go_num, hW6⟩
        case measure => simp [intOf]; omega
      have hlA := hA.lt
      have hcw := hW.cur.lt
      replace hW := hW.next ((Below.refl wA.heap.size wA).alloc (Nat.le_refl _) (.cells #[.int .i64 0, .int .i64 1000000, .int .i64 1000001] 2))
      replace hA := hA.next ((Below.refl wA.heap.size wA).alloc (Nat.le_refl _) (.cells #[.int .i64 0, .int .i64 1000000, .int .i64 1000001] 2))
      go_wp2_with fail
      refine (l1Below_any base c ao n cap 3 (by omega) (by omega) _ hW.cur).mono ?_
      rintro e w7 ⟨y, rfl, hy, hC7, hg7⟩
      replace hW := hW.step hcl hC7 hg7
      replace hA := hA.grown hg7 (by simp; omega)
      obtain ⟨v, hv, hvw⟩ := lit3W ((hg7.block wA.heap.size (by simp) (by simp <;> omega)).trans (Go.Deep.blk_alloc_new wA (.cells #[.int .i64 0, .int .i64 1000000, .int .i64 1000001] 2))) (wfA (by omega)) (wfA (by omega)) (wfA (by omega)) (show y < 3 by omega)
      have uz : w7.cell? ⟨ab, 2, none⟩ = some (.int .i64 (1 + (x3 : Int))) := hA.cell (j := 2) (by omega)
      have zz := hA.frozen 2
      have lz := hA.lt
      have hy3 : (y : Int) < 3 := by omega
      have uy0 : w7.cell? ⟨ab, 0, none⟩ = some (.int .i64 ((x1 : Int))) := hA.cell (j := 0) (by omega)
      have uy1 : w7.cell? ⟨ab, 1, none⟩ = some (.int .i64 ((x2 : Int))) := hA.cell (j := 1) (by omega)
      clear hC7 hg7
      replace hW := hW.setA hcl (ab := ab) (by omega) 2 v hA hne9
      replace hA := (hA.set 2 (.int .i64 v)).congr (g := a3 ((x1 : Int)) ((x2 : Int)) v) (fun j hj => by have : j = 0 ∨ j = 1 ∨ j = 2 := (by omega); rcases this with rfl | rfl | rfl <;> rfl)
      have u0 : (w7.setCell ⟨ab, 2, none⟩ (.int .i64 v)).cell? ⟨ab, 0, none⟩ = some (.int .i64 ((x1 : Int))) := hA.cell (j := 0) (by omega)
      have u1 : (w7.setCell ⟨ab, 2, none⟩ (.int .i64 v)).cell? ⟨ab, 1, none⟩ = some (.int .i64 ((x2 : Int))) := hA.cell (j := 1) (by omega)
      have u2 : (w7.setCell ⟨ab, 2, none⟩ (.int .i64 v)).cell? ⟨ab, 2, none⟩ = some (.int .i64 (v)) := hA.cell (j := 2) (by omega)
      have hz := hW.gr.size
      have hlb := hW.box.lt
      go_wp2_with (at_builtin; refine wpList_append_arc rfl _ _ rfl (w.heap.size + 1) m xc xo rfl (hW.own.next ((Below.refl _ _).alloc (Nat.le_refl _) (.cells #[.int .i64 ((x1 : Int)), .int .i64 ((x2 : Int)), .int .i64 (v)] 50))) w7.heap.size rfl _ _ _ (blk_at (by simp [World.setCell]) _) (by omega) (by simp; omega) (wfA (by omega)) (wfA (by omega)) (hvw) ?_; intro g6 xc6 w6 hown6 hgrow6 hat6; have hW6 := (hW.next ((Below.refl _ _).alloc (Nat.le_refl _) (.cells #[.int .i64 ((x1 : Int)), .int .i64 ((x2 : Int)), .int .i64 (v)] 50))).app hcl hgrow6 hown6)
      clear hW hA u0 u1 u2 hgrow6 hown6 hat6
      go_wp2
      go_roundw
      case rel => exact ⟨m + 1, q - 1, _, _, by omega, rfl, by go_num, hW6⟩
      case measure => simp [intOf]; omega
    obtain ⟨bb, oo, ego, _⟩ := hr 0 hk0
    have hbc := hgc _ ego hk0
    simp only at hbc
    have b1 : w5.cell? ⟨w.heap.size, 1, none⟩ = some (.slice go k gc) := hW.box.cell (j := 1) (by omega)
    have hWd := hW.next (Below.refl w5.heap.size w5).drew
    have hAd := hA.next (Below.refl w5.heap.size w5).drew
    have hbl5 := hW.box.lt
    rw [ego] at b1
    have HCALL : Hid (∀ X, AW w base c ao n cap p go k gc xo m xc X → VHas X ab 50 3 (a3 (x1 : Int) (x2 : Int) (1 + (x3 : Int))) → Calls Tryd.prog 47 #[.pointer (some ⟨c, 0, none⟩), .int .i64 (k : Int)] X fun e w6 => ∃ y : Nat, e = .returned (.int .i64 (y : Int)) ∧ y < k ∧ AW w base c ao n cap p go k gc xo m xc w6 ∧ VHas w6 ab 50 3 (a3 (x1 : Int) (x2 : Int) (1 + (x3 : Int))) ∧ w6.cell? ⟨w.heap.size, 1, none⟩ = some (.slice (some ⟨bb, oo, none⟩) k gc) ∧ (w6.cell? ⟨bb, oo + y * 3, none⟩ = some (.int .i64 (F y)) ∧ w6.cell? ⟨bb, oo + y * 3 + 1, none⟩ = some (.int .i64 (T y)) ∧ w6.cell? ⟨bb, oo + y * 3 + 2, none⟩ = some (.int .i64 (G y))) ∧ X.grownBy w6 (some c)) := fun X hX hY => by
      refine (l1Below_any base c ao n cap (k : Int) (by omega) (by omega) _ hX.cur).mono ?_
      rintro e w6 ⟨y, rfl, hy, hC6, hg6⟩
      have hW6 := hX.step hcl hC6 hg6
      have hr6 := hr.otherB hW6.gr (fun a e h0 q => by have := hgc a e h0; simp at q; omega)
      obtain ⟨b9, o9, e9, d0, d1, d2⟩ := hr6 y (by omega)
      obtain ⟨rfl, rfl⟩ : bb = b9 ∧ oo = o9 := by rw [ego] at e9; simpa using e9
      exact ⟨y, rfl, by omega, hW6, hY.grown hg6 (by simp; omega), by rw [← ego]; exact hW6.box.cell (j := 1) (by omega), ⟨d0, d1, d2⟩, hg6⟩
    have hWz := (hW.next ((Below.refl w5.heap.size w5).alloc (Nat.le_refl _) (.cells #[.int .i64 0, .int .i64 0, .int .i64 0] 50))).next (Below.refl _ _).drew
    have hAz := (hA.next ((Below.refl w5.heap.size w5).alloc (Nat.le_refl _) (.cells #[.int .i64 0, .int .i64 0, .int .i64 0] 50))).next (Below.refl _ _).drew
    have hcw5 := hW.cur.lt
    have HOWN5 : ∀ x, (Value.slice xo m xc).ownBlock = some x → x ≠ w5.heap.size := fun x e => by have := (hW.own.at (x := x) e).2; omega
    have hlA5 := hA.lt
    have b1z : (w5.alloc (.cells #[.int .i64 0, .int .i64 0, .int .i64 0] 50)).cell? ⟨w.heap.size, 1, none⟩ = some (.slice (some ⟨bb, oo, none⟩) k gc) := keep_cell ((Below.refl w5.heap.size w5).alloc (Nat.le_refl _) _) (Nat.le_refl _) b1
    clear ego
    go_wp2_with fail
    go_region_law (first
      | (go_simp; go_at_call 47; refine (HCALL.out _ hWz hAz).mono ?_; rintro e w6b ⟨y, rfl, hy, hW6, hA6, b6, ⟨d0, d1, d2⟩, hg6⟩; have hyk : (y : Int) < (k : Int) := (by omega); have hbb := lt_of_cell d0; have hl6 := hW6.box.lt; have hlA6 := hA6.lt; have hz6 := hg6.size; have vb := (a3_new w5 0 0 0).next (Below.refl _ _).drew; replace vb := vb.grown hg6 (by simp; omega); have vb0 : w6b.cell? ⟨w5.heap.size, 0, none⟩ = some (.int .i64 0) := vb.cell (j := 0) (by omega); have vb1 : w6b.cell? ⟨w5.heap.size, 1, none⟩ = some (.int .i64 0) := vb.cell (j := 1) (by omega); have vb2 : w6b.cell? ⟨w5.heap.size, 2, none⟩ = some (.int .i64 0) := vb.cell (j := 2) (by omega); have vz0 := vb.frozen 0; have vz1 := vb.frozen 1; have vz2 := vb.frozen 2)
      | (go_simp; go_at_call 47; refine (HCALL.out _ hWd hAd).mono ?_; rintro e w6a ⟨y, rfl, hy, hW6, hA6, b6, ⟨d0, d1, d2⟩, hg6⟩; have hyk : (y : Int) < (k : Int) := (by omega); have hbb := lt_of_cell d0; have hl6 := hW6.box.lt; have hlA6 := hA6.lt))
    all_goals
      have hwy := hwf y hy
      clear hW hA HCALL hWz hAz hWd hAd
      first
      | (have hW := ((hW6.setA hcl (ab := w5.heap.size) (by omega) 0 (F y) vb HOWN5).setA hcl (ab := w5.heap.size) (by omega) 1 (T y) (vb.set 0 _) HOWN5).setA hcl (ab := w5.heap.size) (by omega) 2 (G y) ((vb.set 0 _).set 1 _) HOWN5; have hA := ((hA6.other (c := w5.heap.size) (i := 0) (by omega) (.int .i64 (F y))).other (c := w5.heap.size) (i := 1) (by omega) (.int .i64 (T y))).other (c := w5.heap.size) (i := 2) (by omega) (.int .i64 (G y)); have hBb := (((vb.set 0 (.int .i64 (F y))).set 1 (.int .i64 (T y))).set 2 (.int .i64 (G y))).congr (g := a3 (F y) (T y) (G y)) (fun j hj => by have : j = 0 ∨ j = 1 ∨ j = 2 := (by omega); rcases this with rfl | rfl | rfl <;> rfl); have hnb : ab ≠ w5.heap.size := (by omega); generalize (((w6b.setCell ⟨w5.heap.size, 0, none⟩ (.int .i64 (F y))).setCell ⟨w5.heap.size, 1, none⟩ (.int .i64 (T y))).setCell ⟨w5.heap.size, 2, none⟩ (.int .i64 (G y))) = Wz at hW hA hBb ⊢; generalize w5.heap.size = bx at hBb hnb ⊢)
      | (have hW := hW6.next ((Below.refl _ _).alloc (Nat.le_refl _) (.cells #[.int .i64 (F y), .int .i64 (T y), .int .i64 (G y)] 50)); have hA := hA6.next ((Below.refl _ _).alloc (Nat.le_refl _) (.cells #[.int .i64 (F y), .int .i64 (T y), .int .i64 (G y)] 50)); have hBb := a3_new w6a (F y) (T y) (G y); have hnb : ab ≠ w6a.heap.size := (by omega); generalize (w6a.alloc (.cells #[.int .i64 (F y), .int .i64 (T y), .int .i64 (G y)] 50)) = Wz at hW hA hBb ⊢; generalize w6a.heap.size = bx at hBb hnb ⊢)
      have q0 : Wz.cell? ⟨bx, 0, none⟩ = some (.int .i64 (F y)) := hBb.cell (j := 0) (by omega)
      have q1 : Wz.cell? ⟨bx, 1, none⟩ = some (.int .i64 (T y)) := hBb.cell (j := 1) (by omega)
      have p0 : Wz.cell? ⟨ab, 0, none⟩ = some (.int .i64 (x1 : Int)) := hA.cell (j := 0) (by omega)
      have p1 : Wz.cell? ⟨ab, 1, none⟩ = some (.int .i64 (x2 : Int)) := hA.cell (j := 1) (by omega)
      have zf0 := hA.frozen 0
      have zf1 := hA.frozen 1
      replace hW := (hW.setA hcl (ab := ab) (by omega) 0 (F y) hA hne9).setA hcl (ab := ab) (by omega) 1 (T y) (hA.set 0 _) hne9
      replace hA := ((hA.set 0 (.int .i64 (F y))).set 1 (.int .i64 (T y))).congr (g := a3 (F y) (T y) (1 + (x3 : Int))) (fun j hj => by have : j = 0 ∨ j = 1 ∨ j = 2 := (by omega); rcases this with rfl | rfl | rfl <;> rfl)
      go_wp2_with fail
      generalize ((Wz.setCell ⟨ab, 0, none⟩ (.int .i64 (F y))).setCell ⟨ab, 1, none⟩ (.int .i64 (T y))) = W9 at hW hA ⊢
      clear q0 q1 p0 p1 zf0 zf1 hBb d0 d1 d2 b6 hbb hl6 hlA6 hg6 b1 b1z hW6 hA6 HOWN5 hcw5 hlA5 hbl5 hbl hnb HOWN hyk
      (try clear vb vb0 vb1 vb2 vz0 vz1 vz2 hz6)
      clear hr hgc hbc hwf
      obtain ⟨hwy1, hwy2⟩ := hwy
      generalize F y = fy at hwy1 hA ⊢
      generalize T y = ty at hwy2 hA ⊢
      refine (l1Once_any base c ao n cap 24 (by omega) (by omega) _ hW.cur).mono ?_
      rintro e wA ⟨bz, rfl, hCA, hgA⟩
      replace hW := hW.step hcl hCA hgA
      replace hA := hA.grown hgA (by simp; omega)
      clear hCA hgA
      cases bz
      · skip
        have u0 : wA.cell? ⟨ab, 0, none⟩ = some (.int .i64 fy) := hA.cell (j := 0) (by omega)
        have u1 : wA.cell? ⟨ab, 1, none⟩ = some (.int .i64 ty) := hA.cell (j := 1) (by omega)
        have u2 : wA.cell? ⟨ab, 2, none⟩ = some (.int .i64 (1 + (x3 : Int))) := hA.cell (j := 2) (by omega)
        have hz := hW.gr.size
        have hlb := hW.box.lt
        go_wp2_with (at_builtin; refine wpList_append_arc rfl _ _ rfl (w.heap.size + 1) m xc xo rfl (hW.own.next ((Below.refl _ _).alloc (Nat.le_refl _) (.cells #[.int .i64 fy, .int .i64 ty, .int .i64 (1 + (x3 : Int))] 50))) wA.heap.size rfl _ _ _ (Go.Deep.blk_alloc_new _ _) (by omega) (by simp; omega) (hwy1) (hwy2) (wfA (by omega)) ?_; intro g6 xc6 w6 hown6 hgrow6 hat6; have hW6 := (hW.next ((Below.refl _ _).alloc (Nat.le_refl _) (.cells #[.int .i64 fy, .int .i64 ty, .int .i64 (1 + (x3 : Int))] 50))).app hcl hgrow6 hown6)
        clear hW hA u0 u1 u2 hgrow6 hown6 hat6
        go_wp2
        go_roundw
        case rel => exact ⟨m + 1, q - 1, _, _, by omega, rfl, by go_num, hW6⟩
        case measure => simp [intOf]; omega
      have hlA := hA.lt
      have hcw := hW.cur.lt
      replace hW := hW.next ((Below.refl wA.heap.size wA).alloc (Nat.le_refl _) (.cells #[.int .i64 0, .int .i64 1000000, .int .i64 1000001] 2))
      replace hA := hA.next ((Below.refl wA.heap.size wA).alloc (Nat.le_refl _) (.cells #[.int .i64 0, .int .i64 1000000, .int .i64 1000001] 2))
      go_wp2_with fail
      refine (l1Below_any base c ao n cap 3 (by omega) (by omega) _ hW.cur).mono ?_
      rintro e w7 ⟨y3, rfl, hy, hC7, hg7⟩
      replace hW := hW.step hcl hC7 hg7
      replace hA := hA.grown hg7 (by simp; omega)
      obtain ⟨v, hv, hvw⟩ := lit3W ((hg7.block wA.heap.size (by simp) (by simp <;> omega)).trans (Go.Deep.blk_alloc_new wA (.cells #[.int .i64 0, .int .i64 1000000, .int .i64 1000001] 2))) (wfA (by omega)) (wfA (by omega)) (wfA (by omega)) (show y3 < 3 by omega)
      have uz : w7.cell? ⟨ab, 2, none⟩ = some (.int .i64 (1 + (x3 : Int))) := hA.cell (j := 2) (by omega)
      have zz := hA.frozen 2
      have lz := hA.lt
      have hy3 : (y3 : Int) < 3 := by omega
      have uy0 : w7.cell? ⟨ab, 0, none⟩ = some (.int .i64 fy) := hA.cell (j := 0) (by omega)
      have uy1 : w7.cell? ⟨ab, 1, none⟩ = some (.int .i64 ty) := hA.cell (j := 1) (by omega)
      clear hC7 hg7
      replace hW := hW.setA hcl (ab := ab) (by omega) 2 v hA hne9
      replace hA := (hA.set 2 (.int .i64 v)).congr (g := a3 fy ty v) (fun j hj => by have : j = 0 ∨ j = 1 ∨ j = 2 := (by omega); rcases this with rfl | rfl | rfl <;> rfl)
      have u0 : (w7.setCell ⟨ab, 2, none⟩ (.int .i64 v)).cell? ⟨ab, 0, none⟩ = some (.int .i64 fy) := hA.cell (j := 0) (by omega)
      have u1 : (w7.setCell ⟨ab, 2, none⟩ (.int .i64 v)).cell? ⟨ab, 1, none⟩ = some (.int .i64 ty) := hA.cell (j := 1) (by omega)
      have u2 : (w7.setCell ⟨ab, 2, none⟩ (.int .i64 v)).cell? ⟨ab, 2, none⟩ = some (.int .i64 (v)) := hA.cell (j := 2) (by omega)
      have hz := hW.gr.size
      have hlb := hW.box.lt
      go_wp2_with (at_builtin; refine wpList_append_arc rfl _ _ rfl (w.heap.size + 1) m xc xo rfl (hW.own.next ((Below.refl _ _).alloc (Nat.le_refl _) (.cells #[.int .i64 fy, .int .i64 ty, .int .i64 (v)] 50))) w7.heap.size rfl _ _ _ (blk_at (by simp [World.setCell]) _) (by omega) (by simp; omega) (hwy1) (hwy2) (hvw) ?_; intro g6 xc6 w6 hown6 hgrow6 hat6; have hW6 := (hW.next ((Below.refl _ _).alloc (Nat.le_refl _) (.cells #[.int .i64 fy, .int .i64 ty, .int .i64 (v)] 50))).app hcl hgrow6 hown6)
      clear hW hA u0 u1 u2 hgrow6 hown6 hat6
      go_wp2
      go_roundw
      case rel => exact ⟨m + 1, q - 1, _, _, by omega, rfl, by go_num, hW6⟩
      case measure => simp [intOf]; omega

end Go.Proofs.YtcmeppjfjledfacDoor

/-
  A number below a greater bound is drawn: by four bytes.
-/
set_option linter.unusedVariables false
set_option linter.unusedSimpArgs false
namespace Go.Proofs.YtcmeppjfjledfacDoor
open Go.RowKit
attribute [local go_sem ↓] Go.wp_at_zero Go.wp_at_succ

set_option maxHeartbeats 1000000 in
theorem l1Below_wide (base c : Nat) (ao : Option Addr) (n cap : Nat) (m : Int) (hm0 : 1 ≤ m) (hm : m ≤ 1000000000) (w : World) (hC : CurAt w base c ao n cap) :
    Calls Tryd.prog 47 #[.pointer (some ⟨c, 0, none⟩), .int .i64 m] w fun e w' => ∃ x : Nat, e = .returned (.int .i64 (x : Int)) ∧ (x : Int) < m ∧ CurAt w' base c ao n cap ∧ w.grownBy w' (some c) := by
  by_cases hs : m ≤ 256
  · exact l1Below_any base c ao n cap m hm0 hs w hC
  have hm1 : ¬ m ≤ 0 := by omega
  have hm2 : m ≠ 0 := by omega
  have HB := fun W h => l1Byte_any base c ao n cap W h
  go_enter Tryd.func47, Tryd.ntmps47
  go_wp2_with fail
  refine (HB _ hC).mono ?_
  rintro e w1 ⟨x, rfl, hx0, hx1, hC1, hg1⟩
  go_wp2_with fail
  refine (HB _ hC1).mono ?_
  rintro e w2 ⟨y, rfl, hy0, hy1, hC2, hg2⟩
  go_wp2_with fail
  refine (HB _ hC2).mono ?_
  rintro e w3 ⟨z, rfl, hz0, hz1, hC3, hg3⟩
  go_wp2_with fail
  refine (HB _ hC3).mono ?_
  rintro e w4 ⟨v, rfl, hv0, hv1, hC4, hg4⟩
  have e1 : IntKind.i64.wrap (x * 16777216) = x * 16777216 := by rw [IntKind.wrap_i64]; omega
  have e2 : IntKind.i64.wrap (y * 65536) = y * 65536 := by rw [IntKind.wrap_i64]; omega
  have e3 : IntKind.i64.wrap (x * 16777216 + y * 65536) = x * 16777216 + y * 65536 := by rw [IntKind.wrap_i64]; omega
  have e4 : IntKind.i64.wrap (z * 256) = z * 256 := by rw [IntKind.wrap_i64]; omega
  have e5 : IntKind.i64.wrap (x * 16777216 + y * 65536 + z * 256) = x * 16777216 + y * 65536 + z * 256 := by rw [IntKind.wrap_i64]; omega
  have e6 : IntKind.i64.wrap (x * 16777216 + y * 65536 + z * 256 + v) = x * 16777216 + y * 65536 + z * 256 + v := by rw [IntKind.wrap_i64]; omega
  obtain ⟨s, hs9⟩ : ∃ s, x * 16777216 + y * 65536 + z * 256 + v = s := ⟨_, rfl⟩
  have hs0 : 0 ≤ s := by omega
  have e7 : s.tmod m = s % m := Int.tmod_eq_emod_of_nonneg hs0
  go_wp2
  have h1 := Int.emod_nonneg s hm2
  have h2 := Int.emod_lt_of_pos s (show 0 < m by omega)
  go_ret
  exact ⟨(s % m).toNat, congrArg (fun z => Ending.returned (.int .i64 z)) (by omega), by omega, hC4, ((hg1.trans hg2).trans hg3).trans hg4⟩

end Go.Proofs.YtcmeppjfjledfacDoor

/-
  Bytes of the call's own: bent, cut, put together.
-/
set_option linter.unusedVariables false
set_option linter.unusedSimpArgs false
namespace Go.Proofs.YtcmeppjfjledfacDoor
open Go.RowKit

theorem BRow.grown {w w' : World} {g cap x : Nat} {l : List UInt8} (h : BRow w g cap l) (hg : w.grownBy w' (some x)) (hx : g ≠ x) (hl : g < w.heap.size) : BRow w' g cap l := by
  have hb := hg.block g hl (by simp; exact hx)
  obtain ⟨h1, h2, h3⟩ := h
  refine ⟨h1, fun j hj => ?_, fun j c hc => ?_⟩
  · have := h2 j hj
    simp only [World.cell?, World.frozen?] at this ⊢
    rw [hb]
    exact this
  · have := h3 j c hc
    simp only [World.cell?] at this ⊢
    rw [hb]
    exact this
theorem BRow.cut {w : World} {g cap : Nat} {l : List UInt8} (h : BRow w g cap l) (k : Nat) : BRow w g cap (l.take k) := by
  obtain ⟨h1, h2, h3⟩ := h
  refine ⟨by rw [List.length_take]; omega, h2, fun j c hc => h3 j c ?_⟩
  rw [List.getElem?_take] at hc
  split at hc
  · exact hc
  · cases hc
theorem BRow.put {w : World} {g cap : Nat} {l : List UInt8} (h : BRow w g cap l) (k : Nat) (hk : k < l.length) (b : UInt8) : BRow (w.setCell ⟨g, k, none⟩ (.int .u8 (b.toNat : Int))) g cap (l.set k b) := by
  obtain ⟨h1, h2, h3⟩ := h
  have hsm := h3 k _ (List.getElem?_eq_getElem hk)
  obtain ⟨cur, t, fr, hblk⟩ : ∃ cur t fr, w.heap[g]? = some (.cells cur t fr) := by
    simp only [World.cell?] at hsm
    split at hsm
    · rename_i h
      exact ⟨_, _, _, h⟩
    · cases hsm
  have hc9 : cur[k]? = some (.int .u8 (l[k].toNat : Int)) := by simpa [World.cell?, hblk] using hsm
  have hb' : (w.setCell ⟨g, k, none⟩ (.int .u8 (b.toNat : Int))).heap[g]? = some (.cells (cur.setIfInBounds k (.int .u8 (b.toNat : Int))) t fr) := by simp [World.setCell, Array.getElem?_modify, hblk]
  have e1 : ∀ j, (w.setCell ⟨g, k, none⟩ (.int .u8 (b.toNat : Int))).cell? ⟨g, j, none⟩ = (cur.setIfInBounds k (.int .u8 (b.toNat : Int)))[j]? := fun j => by simp [World.cell?, hb']
  have e2 : ∀ j, w.cell? ⟨g, j, none⟩ = cur[j]? := fun j => by simp [World.cell?, hblk]
  have e3 : ∀ j, (w.setCell ⟨g, k, none⟩ (.int .u8 (b.toNat : Int))).frozen? ⟨g, j, none⟩ = w.frozen? ⟨g, j, none⟩ := fun j => by simp [World.frozen?, hblk, hb']
  have hkc : k < cur.size := (Array.getElem?_eq_some_iff.1 hc9).1
  refine ⟨by simpa using h1, fun j hj => ?_, fun j c hc => ?_⟩
  · have := h2 j hj
    rw [e1, e3]
    rw [e2] at this
    refine ⟨?_, this.2⟩
    rw [Array.getElem?_setIfInBounds]
    by_cases e : k = j
    · rw [if_pos e, if_pos (by omega)]
      rfl
    · rw [if_neg e]
      exact this.1
  · rw [List.getElem?_set] at hc
    rw [e1, Array.getElem?_setIfInBounds]
    by_cases e : k = j
    · subst e
      rw [if_pos rfl, if_pos hk] at hc
      obtain rfl := Option.some.inj hc
      rw [if_pos rfl, if_pos hkc]
    · rw [if_neg e] at hc ⊢
      rw [← e2]
      exact h3 j c hc
theorem brow_of_owns {w : World} {base g cap : Nat} {l : List UInt8} (h : w.ownsRow base 5 1 (.slice (some ⟨g, 0, none⟩) l.length cap) l.length (bcells l)) : BRow w g cap l ∧ base ≤ g ∧ g < w.heap.size := by
  obtain ⟨hl, h⟩ := h
  rcases h with ⟨e, _⟩ | ⟨g', cap', cur, e, hb, hblk, hnc, hcm, hsz, ht⟩
  · cases e
  · simp only [Value.slice.injEq, Option.some.injEq, Addr.mk.injEq, and_true, true_and] at e
    obtain ⟨rfl, rfl⟩ := e
    refine ⟨⟨hnc, fun j hj => ?_, fun j c hc => ?_⟩, hb, (Array.getElem?_eq_some_iff.1 hblk).1⟩
    · simp only [World.cell?, World.frozen?, hblk]
      refine ⟨?_, by simp⟩
      rw [Array.getElem?_eq_getElem (by omega)]
      rfl
    · have hjl : j < l.length := (List.getElem?_eq_some_iff.1 hc).1
      simp only [World.cell?, hblk]
      have h3 : (cur.toList.take (l.length * 1))[j]? = some (.int .u8 (c.toNat : Int)) := by rw [ht, bcells_at, hc]; rfl
      rw [List.getElem?_take, if_pos (by omega)] at h3
      simpa using h3
theorem empty_ownsB (w : World) : (w.alloc (.cells #[] 5)).ownsRow w.heap.size 5 1 (.slice (some ⟨w.heap.size, 0, none⟩) 0 0) 0 (bcells []) := by
  have := World.ownsRow_lit (base := w.heap.size) (e := 5) (size := 1) w #[] 0 (by simp) (by simp) (by simp)
  simpa [bcells] using this
/-- Bytes to be read behind a slice. -/
def BSrc (w : World) (so : Option Addr) (ls : List UInt8) : Prop := ∀ j u, (bcells ls)[j]? = some u → ∃ a, so = some a ∧ w.cell? (a.add j) = some u
theorem BRow.src {w : World} {g cap : Nat} {l : List UInt8} (h : BRow w g cap l) : BSrc w (some ⟨g, 0, none⟩) l := fun j u hu => by
  rw [bcells_at] at hu
  simp at hu
  obtain ⟨c, hc, rfl⟩ := hu
  refine ⟨_, rfl, ?_⟩
  rw [Addr.add_mid]
  simpa using h.2.2 j c hc
theorem BRow.src_drop {w : World} {g cap k : Nat} {l : List UInt8} (h : BRow w g cap l) (hk : k ≤ l.length) : BSrc w (if cap = k then some ⟨g, 0, none⟩ else some ⟨g, k, none⟩) (l.drop k) := fun j u hu => by
  rw [bcells_at] at hu
  simp at hu
  obtain ⟨c, hc, rfl⟩ := hu
  have hjl : k + j < l.length := (List.getElem?_eq_some_iff.1 hc).1
  have h1 := h.1
  rw [if_neg (by omega)]
  refine ⟨_, rfl, ?_⟩
  rw [Addr.add_mid]
  exact h.2.2 (k + j) c hc
theorem BSrc.grown {w w' : World} {so : Option Addr} {ls : List UInt8} (h : BSrc w so ls) {B : Nat} (hb : Below B w w') (hB : ∀ a, so = some a → a.block < B) : BSrc w' so ls := fun j u hu => by
  obtain ⟨a, rfl, hc⟩ := h j u hu
  refine ⟨a, rfl, ?_⟩
  have hbk : (a.add j).block = a.block := by unfold Addr.add; split <;> rfl
  rw [hb.cell (by rw [hbk]; exact hB a rfl)]
  exact hc
theorem new_byte (w : World) (b : UInt8) : BSrc (w.alloc (.cells #[.int .u8 (b.toNat : Int)] 5)) (some ⟨w.heap.size, 0, none⟩) [b] := fun j u hu => by
  obtain rfl : j = 0 := by
    rcases Nat.eq_zero_or_pos j with h | h
    · exact h
    · rw [bcells_at, List.getElem?_eq_none (by simp; omega)] at hu; cases hu
  simp [bcells] at hu
  subst hu
  exact ⟨_, rfl, by simp [go_sem]⟩

theorem run_appB_zero (ty : TypeId) (g n cap : Nat) (ao : Option Addr) (c : Nat) (hnc : n ≤ cap) (w : World) : (Builtin.append_ #[22, 22] ty #[.slice (some ⟨g, 0, none⟩) n cap, .slice ao 0 c]).run Tryd.prog w = .ok (.slice (some ⟨g, 0, none⟩) n cap) w := by
  obtain ⟨i0, hi0, hz0, hz1, hz2⟩ := info_parts Tryd.infoByte
  cases ao <;> simp [Builtin.append_, run_underlying Tryd.underlying22, sizeOf, typeInfo, hi0, Builtin.lenOf, Builtin.firstCells, hnc, storeCells, loadCells, loadCellsFrom]

theorem wp_appBy {w : World} {o : Oper} {a : Act} {K : Act → World → Prop} {Q : Exit → Act → World → Prop} (s x : Operand)
    (ho : o.op = .call { callee := .builtin .append, args := #[s, x], argTypes := #[22, 22] })
    (base g0 cap0 : Nat) (l : List UInt8) (hs : a.eval s = .slice (some ⟨g0, 0, none⟩) l.length cap0) (hown : w.ownsRow base 5 1 (.slice (some ⟨g0, 0, none⟩) l.length cap0) l.length (bcells l))
    (so : Option Addr) (c : Nat) (ls : List UInt8) (hx : a.eval x = .slice so ls.length c) (hr : BSrc w so ls) (hm : l.length + ls.length ≤ 1000000) (hbase : base ≤ w.heap.size)
    (h : ∀ g cap w', w'.ownsRow base 5 1 (.slice (some ⟨g, 0, none⟩) (l ++ ls).length cap) (l ++ ls).length (bcells (l ++ ls)) → Below base w w' → K (a.put o.dst (.slice (some ⟨g, 0, none⟩) (l ++ ls).length cap)) w') : o.wp Tryd.prog a w K Q := by
  have hg0 : base ≤ g0 ∧ l.length ≤ cap0 := by
    rcases hown.2 with ⟨e, _⟩ | ⟨g, cap, cur, e, h1, _, h2, _⟩
    · cases e
    · simp only [Value.slice.injEq, Option.some.injEq, Addr.mk.injEq, and_true, true_and] at e
      obtain ⟨rfl, rfl⟩ := e
      exact ⟨h1, h2⟩
  have hap : bcells l ++ bcells ls = bcells (l ++ ls) := by simp [bcells]
  have hlen : (l ++ ls).length = l.length + ls.length := by simp
  by_cases hz : 0 < ls.length
  · obtain ⟨a1, rfl, _⟩ := hr 0 _ (by rw [bcells_at, List.getElem?_eq_getElem hz]; rfl)
    obtain ⟨i0, hi0, hz0, hz1, hz2⟩ := info_parts Tryd.infoByte
    refine wp_append_lies w s x _ ho base 5 i0 _ 1 1 Tryd.underlying22 hi0 hz0 hz1 hz2 rfl (by omega) _ l.length (bcells l) hs hown a1 ls.length c (bcells ls) hx (by simp [bcells]) (fun j u hu => by
      obtain ⟨a2, e, hc⟩ := hr j u hu
      obtain rfl := Option.some.inj e
      exact hc) (fun u hu => by
      simp only [bcells, List.mem_map] at hu
      obtain ⟨b, _, rfl⟩ := hu
      rfl) hz (by unfold maxLen; omega) (by omega) hbase w.heap.size rfl ?_
    intro g cap w' hown' hgrow _ _
    rw [← hlen, hap] at hown'
    have := h g cap w' hown' (gr_below (b := g0) hgrow hg0.1 hbase)
    rw [hlen] at this
    exact this
  · obtain rfl : ls = [] := List.eq_nil_of_length_eq_zero (by omega)
    have hrun := run_appB_zero o.type g0 l.length cap0 so c hg0.2 w
    have hx' : a.eval x = .slice so 0 c := hx
    unfold Oper.wp execOp
    simp only [ho, resolve, invoke, builtin, Sem.run_bind, Sem.run_pure, Result.andThen_ok, List.map_toArray, List.map_cons, List.map_nil, hs, hx', hrun]
    have := h g0 cap0 w (by rw [List.append_nil]; exact hown) (Below.refl _ _)
    rw [List.append_nil] at this
    exact this

end Go.Proofs.YtcmeppjfjledfacDoor

/-
  l1Bend: some text comes, not much longer.
-/
set_option linter.unusedVariables false
set_option linter.unusedSimpArgs false
namespace Go.Proofs.YtcmeppjfjledfacDoor
open Go.RowKit
attribute [local go_sem ↓] Go.wp_at_zero Go.wp_at_succ

theorem grB_then {w w1 w2 : World} {row : Option Nat} {B : Nat} (h : w.grownBy w1 row) (hb : Below B w1 w2) (hB : w.heap.size ≤ B) : w.grownBy w2 row :=
  ⟨hb.os.trans h.os, hb.tape.trans h.tape, hb.output.trans h.output, Nat.le_trans h.size hb.size, fun k hk hne => (hb.block k (by omega)).trans (h.block k hk hne)⟩
theorem CurAt.keepB {w w' : World} {base c B : Nat} {ao : Option Addr} {n cap : Nat} (h : CurAt w base c ao n cap) (hb : Below B w w') (hB : c < B) : CurAt w' base c ao n cap := by
  obtain ⟨hge, hlen, hby, i, h0, h1, h2, hv⟩ := h
  exact ⟨hge, hlen, hby.below hb (by omega), i, h0, h1, h2, hv.below hb hB⟩
theorem owns_grB {w w' : World} {base : Nat} {e : TypeId} {size x : Nat} {v : Value} {k : Nat} {xs : List Value} (h : w.ownsRow base e size v k xs) (hg : w.grownBy w' (some x)) (hx : x < base) : w'.ownsRow base e size v k xs := by
  obtain ⟨hl, ho⟩ := h
  refine ⟨hl, ?_⟩
  rcases ho with h | ⟨g, cap, cur, e, hb, hblk, h1, h2, h3, h4⟩
  · exact .inl h
  · exact .inr ⟨g, cap, cur, e, hb, by rw [hg.block g (Array.getElem?_eq_some_iff.1 hblk).1 (by simp; omega)]; exact hblk, h1, h2, h3, h4⟩
theorem owns_alB {w : World} {base : Nat} {e : TypeId} {size : Nat} {v : Value} {k : Nat} {xs : List Value} (h : w.ownsRow base e size v k xs) (o : Obj) : (w.alloc o).ownsRow base e size v k xs := by
  obtain ⟨hl, ho⟩ := h
  refine ⟨hl, ?_⟩
  rcases ho with h | ⟨g, cap, cur, e, hb, hblk, h1, h2, h3, h4⟩
  · exact .inl h
  · exact .inr ⟨g, cap, cur, e, hb, by rw [((Below.refl w.heap.size w).alloc (Nat.le_refl _) o).block g (Array.getElem?_eq_some_iff.1 hblk).1]; exact hblk, h1, h2, h3, h4⟩
theorem BSrc.blk {w w' : World} {so : Option Addr} {ls : List UInt8} (h : BSrc w so ls) (hB : ∀ a, so = some a → w'.heap[a.block]? = w.heap[a.block]?) : BSrc w' so ls := fun j u hu => by
  obtain ⟨a, rfl, hc⟩ := h j u hu
  refine ⟨a, rfl, ?_⟩
  have hbk : (a.add j).block = a.block := by unfold Addr.add; split <;> rfl
  have := hB a rfl
  rw [← hbk] at this
  simp only [World.cell?] at hc ⊢
  rw [this]
  exact hc
/-- What stands while a text is bent. -/
structure Bnt (w : World) (base c : Nat) (ao : Option Addr) (n cap : Nat) (wr : World) (g bc : Nat) (l : List UInt8) : Prop where
  row : BRow wr g bc l
  ge : w.heap.size ≤ g
  lt : g < wr.heap.size
  cur : CurAt wr base c ao n cap
  gr : w.grownBy wr (some c)
theorem Bnt.draw {w wr w' : World} {base c n cap g bc : Nat} {ao : Option Addr} {l : List UInt8} (h : Bnt w base c ao n cap wr g bc l) (hcl : c < w.heap.size) (hC : CurAt w' base c ao n cap) (hg : wr.grownBy w' (some c)) : Bnt w base c ao n cap w' g bc l :=
  ⟨h.row.grown hg (by have := h.ge; omega) h.lt, h.ge, Nat.lt_of_lt_of_le h.lt hg.size, hC, h.gr.trans hg⟩

set_option maxRecDepth 100000 in
set_option maxHeartbeats 4000000 in
theorem l1Bend_some (sg : ByteArray) (hsg : 1 ≤ sg.size ∧ sg.size ≤ 256) (base c : Nat) (ao : Option Addr) (n cap : Nat) (ls : List UInt8) (hs : ls.length ≤ 50000) (w : World) (hC : CurAt w base c ao n cap) :
    Calls Tryd.prog 43 #[.pointer (some ⟨c, 0, none⟩), txt ls, .string sg] w fun e w' => ∃ l : List UInt8, e = .returned (txt l) ∧ l.length ≤ 60000 ∧ CurAt w' base c ao n cap ∧ w.grownBy w' (some c) := by
  have hcb := conv_bytes
  have hcl := hC.lt
  have hb0 := brow_new ls w (grownCap w ls.length 0 5) (grownCap_ge w _ 0 5)
  have hal0 := ((Below.refl w.heap.size w).alloc (Nat.le_refl _) (.cells (bytesRow ⟨ls.toArray⟩ (grownCap w ls.length 0 5)) 5 ((bytesRow ⟨ls.toArray⟩ (grownCap w ls.length 0 5)).size, (bytesRow ⟨ls.toArray⟩ (grownCap w ls.length 0 5)).size + 1))).drew
  have hB0 : Bnt w base c ao n cap _ w.heap.size (grownCap w ls.length 0 5) ls := ⟨hb0, Nat.le_refl _, by simp, hC.next hal0, ⟨hal0.os, hal0.tape, hal0.output, hal0.size, fun k hk _ => hal0.block k hk⟩⟩
  clear hb0 hal0
  go_enter Tryd.func43, Tryd.ntmps43
  go_wp2_with fail
  refine (l1Below_any base c ao n cap 3 (by omega) (by omega) _ hB0.cur).mono ?_
  rintro e w1 ⟨x, rfl, hx, hC1, hg1⟩
  have hB1 := hB0.draw hcl hC1 hg1
  clear hcb hB0 hC1 hg1
  go_wp2
  go_loopw [7, 8] (fun a q wr => ∃ (g bc r : Nat) (l : List UInt8), a = .slice (some ⟨g, 0, none⟩) l.length bc ∧ q = .int .i64 r ∧ r + l.length ≤ 50003 ∧ Bnt w base c ao n cap wr g bc l) (fun _ q _ => (intOf q).toNat)
  case atStart => exact ⟨_, _, x, ls, rfl, rfl, by omega, hB1⟩
  case round =>
    obtain ⟨g, bc, r, l, rfl, rfl, hrl, hB⟩ := hrel
    have hcv := conv_txt hB.row
    by_cases hz : 0 < r
    rotate_left
    · obtain rfl : r = 0 := by omega
      go_wp2
      go_ret
      exact ⟨l, rfl, by omega, hB.cur, hB.gr⟩
    have hz' : (0 : Int) < (r : Int) := by omega
    by_cases hl0 : 0 < l.length
    rotate_left
    · obtain rfl : l = [] := List.eq_nil_of_length_eq_zero (by omega)
      simp only [List.length_nil] at hcv
      go_wp2
      go_ret
      exact ⟨[], rfl, by simp, hB.cur, hB.gr⟩
    clear hcv
    have hl0' : (0 : Int) < (l.length : Int) := by omega
    have hrw : IntKind.i64.wrap ((r : Int) - 1) = ((r - 1 : Nat) : Int) := by rw [IntKind.wrap_i64]; omega
    go_wp2_with fail
    refine (l1Below_wide base c ao n cap (l.length : Int) (by omega) (by omega) _ hB.cur).mono ?_
    rintro e w2 ⟨k, rfl, hk, hC2, hg2⟩
    have hB2 := hB.draw hcl hC2 hg2
    clear hB hC2 hg2
    go_wp2_with fail
    refine (l1Below_any base c ao n cap 4 (by omega) (by omega) _ hB2.cur).mono ?_
    rintro e w3 ⟨y, rfl, hy, hC3, hg3⟩
    have hB3 := hB2.draw hcl hC3 hg3
    clear hB2 hC3 hg3
    have hkl : k < l.length := by omega
    have hbc := hB3.row.1
    have hcase : y = 0 ∨ y = 1 ∨ y = 2 ∨ y = 3 := by omega
    rcases hcase with rfl | rfl | rfl | rfl
    · go_wp2_with fail
      refine (l1Below_any base c ao n cap (sg.size : Int) (by omega) (by omega) _ hB3.cur).mono ?_
      rintro e w4 ⟨v, rfl, hv, hC4, hg4⟩
      have hB4 := hB3.draw hcl hC4 hg4
      clear hB3 hC4 hg4
      have hkc : k < bc := by omega
      have c0 := hB4.row.2.2 k _ (List.getElem?_eq_getElem hkl)
      have z0 := (hB4.row.2.1 k hkc).2
      have hv2 : v < sg.size := by omega
      have hv3 : (v : Int) < (sg.size : Int) := by omega
      obtain ⟨bt, hbt⟩ : ∃ bt : UInt8, ∀ (W : World), (Instr.index 9 (.string sg) (.int .i64 (v : Int))).run Tryd.prog W = .ok (.int .u8 (bt.toNat : Int)) W := by
        refine ⟨sg[v]'hv2, fun W => ?_⟩
        rw [run_index_string W 9 _ _ _ Tryd.underlying9, dif_pos ⟨by omega, hv3⟩]
        rfl
      have R := hB4.row.put k hkl bt
      have hge := hB4.ge
      have hcne : c ≠ g := by omega
      have S1 : w.grownBy (w4.setCell ⟨g, k, none⟩ (.int .u8 (bt.toNat : Int))) (some c) := grB_then hB4.gr ((Below.refl w.heap.size w4).setCell (p := ⟨g, k, none⟩) hge _) (Nat.le_refl _)
      have S2 : CurAt (w4.setCell ⟨g, k, none⟩ (.int .u8 (bt.toNat : Int))) base c ao n cap := hB4.cur.keepB ((Below.refl w.heap.size w4).setCell (p := ⟨g, k, none⟩) hge _) hcl
      have S3 : g < (w4.setCell ⟨g, k, none⟩ (.int .u8 (bt.toNat : Int))).heap.size := by have := hB4.lt; simpa [World.setCell] using this
      have hlk : (l.set k bt).length = l.length := by simp
      clear hB4
      go_wp2
      go_roundw
      case rel => exact ⟨g, bc, r - 1, l.set k bt, by rw [hlk], by go_num, by rw [hlk]; omega, ⟨R, hge, S3, S2, S1⟩⟩
      case measure => simp [intOf]; omega
    · have hlk : (l.take k).length = k := by rw [List.length_take]; omega
      have f1 : (k : Int) ≤ (bc : Int) := by omega
      go_wp2
      go_roundw
      case rel => exact ⟨g, bc, r - 1, l.take k, by rw [hlk], by go_num, by rw [hlk]; omega, ⟨hB3.row.cut k, hB3.ge, hB3.lt, hB3.cur, hB3.gr⟩⟩
      case measure => simp [intOf]; omega
    · have f1 : (k : Int) ≤ (bc : Int) := by omega
      have f2 : IntKind.i64.wrap ((k : Int) + 1) = (k : Int) + 1 := by rw [IntKind.wrap_i64]; omega
      have f3 : ((k : Int) + 1).toNat = k + 1 := by omega
      have f4 : (k : Int) + 1 ≤ (l.length : Int) := by omega
      have hlk : (l.take k).length = k := by rw [List.length_take]; omega
      have hld : (l.drop (k + 1)).length = l.length - (k + 1) := by rw [List.length_drop]
      have s1 := (hB3.row.cut k).src
      have s2 := hB3.row.src_drop (k := k + 1) (by omega)
      obtain ⟨so, hso⟩ : ∃ so, (if bc = k + 1 then some (⟨g, 0, none⟩ : Addr) else some ⟨g, k + 1, none⟩) = so := ⟨_, rfl⟩
      have hsoB : ∀ a, so = some a → a.block < w3.heap.size := fun a ha => by
        rw [← hso] at ha
        have := hB3.lt
        split at ha <;> · obtain rfl := Option.some.inj ha; simpa using this
      rw [hso] at s2
      have hwl := hB3.gr.size
      have hgl := hB3.lt
      go_wp2_with fail
      refine wp_region_held_drew (S := fun _ => True) (by kernel_rfl) trivial (fun _ => ?_)
      refine takeH 1 (some 48) (.slice (some ⟨g, 0, none⟩) l.length bc) rfl rfl (by kernel_rfl) (by kernel_rfl) (by kernel_rfl) (fun _ _ _ h => h) (by rfl) trivial (fun w _ => by go_simp <;> first | omega | (rw [IntKind.wrap_i64]; omega)) ?_
      simp only [Act.put, List.setIfInBounds_toArray, List.set_cons_zero, List.set_cons_succ]
      refine takeH 2 (some 49) (.int .i64 (k : Int)) rfl rfl (by kernel_rfl) (by kernel_rfl) (by kernel_rfl) (fun _ _ _ h => h) (by rfl) trivial (fun w _ => by go_simp <;> first | omega | (rw [IntKind.wrap_i64]; omega)) ?_
      simp only [Act.put, List.setIfInBounds_toArray, List.set_cons_zero, List.set_cons_succ]
      refine takeH 3 (some 50) (.slice (some ⟨g, 0, none⟩) k bc) rfl rfl (by kernel_rfl) (by kernel_rfl) (by kernel_rfl) (fun _ _ _ h => h) (by rfl) trivial (fun w _ => by go_simp <;> first | omega | (rw [IntKind.wrap_i64]; omega)) ?_
      simp only [Act.put, List.setIfInBounds_toArray, List.set_cons_zero, List.set_cons_succ]
      refine takeH 5 (some 52) (.slice (some ⟨g, 0, none⟩) l.length bc) rfl rfl (by kernel_rfl) (by kernel_rfl) (by kernel_rfl) (fun _ _ _ h => h) (by rfl) trivial (fun w _ => by go_simp <;> first | omega | (rw [IntKind.wrap_i64]; omega)) ?_
      simp only [Act.put, List.setIfInBounds_toArray, List.set_cons_zero, List.set_cons_succ]
      refine takeH 6 (some 53) (.int .i64 (k : Int)) rfl rfl (by kernel_rfl) (by kernel_rfl) (by kernel_rfl) (fun _ _ _ h => h) (by rfl) trivial (fun w _ => by go_simp <;> first | omega | (rw [IntKind.wrap_i64]; omega)) ?_
      simp only [Act.put, List.setIfInBounds_toArray, List.set_cons_zero, List.set_cons_succ]
      refine takeH 7 (some 54) (.int .i64 ((k : Int) + 1)) rfl rfl (by kernel_rfl) (by kernel_rfl) (by kernel_rfl) (fun _ _ _ h => h) (by rfl) trivial (fun w _ => by go_simp <;> first | omega | (rw [IntKind.wrap_i64]; omega)) ?_
      simp only [Act.put, List.setIfInBounds_toArray, List.set_cons_zero, List.set_cons_succ]
      refine takeH 8 (some 55) (.slice so (l.length - (k + 1)) (bc - (k + 1))) rfl rfl (by kernel_rfl) (by kernel_rfl) (by kernel_rfl) (fun _ _ _ h => h) (by rfl) trivial (fun w _ => by rw [← hso]; go_simp <;> first | omega | (rw [IntKind.wrap_i64]; omega)) ?_
      simp only [Act.put, List.setIfInBounds_toArray, List.set_cons_zero, List.set_cons_succ]
      refine step1H 0 _ rfl (by kernel_rfl) (by rfl) ?_
      go_simp
      have hZ : Below w3.heap.size w3 ((w3.alloc (.cells #[] 5)).drew) := ((Below.refl _ _).alloc (Nat.le_refl _) _).drew
      refine step1H 4 _ rfl (by kernel_rfl) (by rfl) ?_
      refine wp_appBy _ _ rfl w3.heap.size w3.heap.size 0 [] rfl (empty_ownsB w3) (some ⟨g, 0, none⟩) bc (l.take k) (by rw [hlk]; rfl) (s1.grown hZ (fun a ha => by obtain rfl := Option.some.inj ha; exact hgl)) (by rw [hlk]; simp; omega) (by simp) ?_
      intro g4 cap4 w4 hown4 hb4
      have hZ4 : Below w3.heap.size w3 w4 := hZ.trans hb4
      refine ⟨trivial, ?_⟩
      refine step1H 9 _ rfl (by kernel_rfl) (by rfl) ?_
      refine wp_appBy _ _ rfl w3.heap.size g4 cap4 ([] ++ l.take k) rfl hown4 so (bc - (k + 1)) (l.drop (k + 1)) (by rw [hld]; rfl) (s2.grown hZ4 hsoB) (by simp; omega) hZ4.size ?_
      intro g5 cap5 w5 hown5 hb5
      refine ⟨trivial, ?_⟩
      have hZ5 : Below w3.heap.size w3 w5 := hZ4.trans hb5
      have hR5 := brow_of_owns hown5
      have hl5 : ([] ++ l.take k ++ l.drop (k + 1)).length = l.length - 1 := by simp; omega
      refine takeH 10 (some 7) (.slice (some ⟨g5, 0, none⟩) ([] ++ l.take k ++ l.drop (k + 1)).length cap5) rfl rfl (by kernel_rfl) (by kernel_rfl) (by kernel_rfl) (fun _ _ _ h => h) (by rfl) trivial (fun w _ => by go_simp) ?_
      simp only [Act.put, List.setIfInBounds_toArray, List.set_cons_zero, List.set_cons_succ]
      refine wpAnyH_done (by kernel_rfl) ?_ _
      have hBn : Bnt w base c ao n cap w5 g5 cap5 ([] ++ l.take k ++ l.drop (k + 1)) := ⟨hR5.1, Nat.le_trans hwl hR5.2.1, hR5.2.2, hB3.cur.keepB hZ5 (by omega), grB_then hB3.gr hZ5 hwl⟩
      generalize ([] ++ l.take k ++ l.drop (k + 1)) = lx at hBn hl5 ⊢
      clear hown4 hown5 hR5 s1 s2 hB3
      go_wp2
      go_roundw
      case rel => exact ⟨g5, cap5, r - 1, lx, by rw [hl5], by go_num, by omega, hBn⟩
      case measure => simp [intOf]; omega
    · have f1 : (k : Int) ≤ (bc : Int) := by omega
      have f4 : (k : Int) ≤ (l.length : Int) := by omega
      have hlk : (l.take k).length = k := by rw [List.length_take]; omega
      have hld : (l.drop k).length = l.length - k := by rw [List.length_drop]
      have s1 := (hB3.row.cut k).src
      have s2 := hB3.row.src_drop (k := k) (by omega)
      obtain ⟨so, hso⟩ : ∃ so, (if bc = k then some (⟨g, 0, none⟩ : Addr) else some ⟨g, k, none⟩) = so := ⟨_, rfl⟩
      have hsoB : ∀ a, so = some a → a.block = g := fun a ha => by
        rw [← hso] at ha
        split at ha <;> · obtain rfl := Option.some.inj ha; rfl
      rw [hso] at s2
      have hwl := hB3.gr.size
      have hgl := hB3.lt
      have hge := hB3.ge
      go_wp2_with fail
      refine wp_region_held_drew (S := fun _ => True) (by kernel_rfl) trivial (fun _ => ?_)
      refine takeH 1 (some 60) (.slice (some ⟨g, 0, none⟩) l.length bc) rfl rfl (by kernel_rfl) (by kernel_rfl) (by kernel_rfl) (fun _ _ _ h => h) (by rfl) trivial (fun w _ => by go_simp <;> first | omega | (rw [IntKind.wrap_i64]; omega)) ?_
      simp only [Act.put, List.setIfInBounds_toArray, List.set_cons_zero, List.set_cons_succ]
      refine takeH 2 (some 61) (.int .i64 (k : Int)) rfl rfl (by kernel_rfl) (by kernel_rfl) (by kernel_rfl) (fun _ _ _ h => h) (by rfl) trivial (fun w _ => by go_simp <;> first | omega | (rw [IntKind.wrap_i64]; omega)) ?_
      simp only [Act.put, List.setIfInBounds_toArray, List.set_cons_zero, List.set_cons_succ]
      refine takeH 3 (some 62) (.slice (some ⟨g, 0, none⟩) k bc) rfl rfl (by kernel_rfl) (by kernel_rfl) (by kernel_rfl) (fun _ _ _ h => h) (by rfl) trivial (fun w _ => by go_simp <;> first | omega | (rw [IntKind.wrap_i64]; omega)) ?_
      simp only [Act.put, List.setIfInBounds_toArray, List.set_cons_zero, List.set_cons_succ]
      refine takeH 5 (some 64) (.string sg) rfl rfl (by kernel_rfl) (by kernel_rfl) (by kernel_rfl) (fun _ _ _ h => h) (by rfl) trivial (fun w _ => by go_simp <;> first | omega | (rw [IntKind.wrap_i64]; omega)) ?_
      simp only [Act.put, List.setIfInBounds_toArray, List.set_cons_zero, List.set_cons_succ]
      refine takeH 6 (some 65) (.pointer (some ⟨c, 0, none⟩)) rfl rfl (by kernel_rfl) (by kernel_rfl) (by kernel_rfl) (fun _ _ _ h => h) (by rfl) trivial (fun w _ => by go_simp <;> first | omega | (rw [IntKind.wrap_i64]; omega)) ?_
      simp only [Act.put, List.setIfInBounds_toArray, List.set_cons_zero, List.set_cons_succ]
      refine takeH 7 (some 66) (.string sg) rfl rfl (by kernel_rfl) (by kernel_rfl) (by kernel_rfl) (fun _ _ _ h => h) (by rfl) trivial (fun w _ => by go_simp <;> first | omega | (rw [IntKind.wrap_i64]; omega)) ?_
      simp only [Act.put, List.setIfInBounds_toArray, List.set_cons_zero, List.set_cons_succ]
      refine takeH 8 (some 67) (.int .i64 (sg.size : Int)) rfl rfl (by kernel_rfl) (by kernel_rfl) (by kernel_rfl) (fun _ _ _ h => h) (by rfl) trivial (fun w _ => by go_simp <;> first | omega | (rw [IntKind.wrap_i64]; omega)) ?_
      simp only [Act.put, List.setIfInBounds_toArray, List.set_cons_zero, List.set_cons_succ]
      refine takeH 13 (some 72) (.slice (some ⟨g, 0, none⟩) l.length bc) rfl rfl (by kernel_rfl) (by kernel_rfl) (by kernel_rfl) (fun _ _ _ h => h) (by rfl) trivial (fun w _ => by go_simp <;> first | omega | (rw [IntKind.wrap_i64]; omega)) ?_
      simp only [Act.put, List.setIfInBounds_toArray, List.set_cons_zero, List.set_cons_succ]
      refine takeH 14 (some 73) (.int .i64 (k : Int)) rfl rfl (by kernel_rfl) (by kernel_rfl) (by kernel_rfl) (fun _ _ _ h => h) (by rfl) trivial (fun w _ => by go_simp <;> first | omega | (rw [IntKind.wrap_i64]; omega)) ?_
      simp only [Act.put, List.setIfInBounds_toArray, List.set_cons_zero, List.set_cons_succ]
      refine takeH 15 (some 74) (.slice so (l.length - k) (bc - k)) rfl rfl (by kernel_rfl) (by kernel_rfl) (by kernel_rfl) (fun _ _ _ h => h) (by rfl) trivial (fun w _ => by rw [← hso]; go_simp <;> first | omega | (rw [IntKind.wrap_i64]; omega)) ?_
      simp only [Act.put, List.setIfInBounds_toArray, List.set_cons_zero, List.set_cons_succ]
      refine step1H 0 _ rfl (by kernel_rfl) (by rfl) ?_
      go_simp
      have hZ : Below w3.heap.size w3 ((w3.alloc (.cells #[] 5)).drew) := ((Below.refl _ _).alloc (Nat.le_refl _) _).drew
      refine step1H 4 _ rfl (by kernel_rfl) (by rfl) ?_
      refine wp_appBy _ _ rfl w3.heap.size w3.heap.size 0 [] rfl (empty_ownsB w3) (some ⟨g, 0, none⟩) bc (l.take k) (by rw [hlk]; rfl) (s1.grown hZ (fun a ha => by obtain rfl := Option.some.inj ha; exact hgl)) (by rw [hlk]; simp; omega) (by simp) ?_
      intro g4 cap4 w4 hown4 hb4
      simp only [List.nil_append] at hown4 ⊢
      rw [hlk]
      have hZ4 : Below w3.heap.size w3 w4 := hZ.trans hb4
      refine ⟨trivial, ?_⟩
      refine step1H 9 _ rfl (by kernel_rfl) (by rfl) ?_
      go_simp
      refine (l1Below_any base c ao n cap (sg.size : Int) (by omega) (by omega) _ (hB3.cur.keepB hZ4 (by omega))).mono ?_
      rintro e w5 ⟨v, rfl, hv, hC5, hg5⟩
      have hv2 : v < sg.size := by omega
      have hv3 : (v : Int) < (sg.size : Int) := by omega
      obtain ⟨bt, hbt⟩ : ∃ bt : UInt8, ∀ (W : World), (Instr.index 9 (.string sg) (.int .i64 (v : Int))).run Tryd.prog W = .ok (.int .u8 (bt.toNat : Int)) W := by
        refine ⟨sg[v]'hv2, fun W => ?_⟩
        rw [run_index_string W 9 _ _ _ Tryd.underlying9, dif_pos ⟨by omega, hv3⟩]
        rfl
      have hown5 := owns_grB hown4 hg5 (by omega)
      have hgr5 : w.grownBy w5 (some c) := (grB_then hB3.gr hZ4 hwl).trans hg5
      have hz5 : w3.heap.size ≤ w5.heap.size := Nat.le_trans hZ4.size hg5.size
      have s5 : BSrc w5 so (l.drop k) := s2.blk (fun a ha => by
        have hag := hsoB a ha
        rw [hag, hg5.block g (Nat.lt_of_lt_of_le hgl hZ4.size) (by simp; omega), hZ4.block g hgl])
      refine takeH 10 (some 69) (.int .u8 (bt.toNat : Int)) rfl rfl (by kernel_rfl) (by kernel_rfl) (by kernel_rfl) (fun _ _ _ h => h) (by rfl) trivial (fun w _ => by go_simp <;> first | omega | (rw [IntKind.wrap_i64]; omega)) ?_
      simp only [Act.put, List.setIfInBounds_toArray, List.set_cons_zero, List.set_cons_succ]
      refine step1H 11 _ rfl (by kernel_rfl) (by rfl) ?_
      go_simp
      have hZ6 : Below w3.heap.size w5 (w5.alloc (.cells #[.int .u8 (bt.toNat : Int)] 5)) := (Below.refl _ _).alloc hz5 _
      refine step1H 12 _ rfl (by kernel_rfl) (by rfl) ?_
      refine wp_appBy _ _ rfl w3.heap.size g4 cap4 (l.take k) (by rw [hlk]; rfl) (owns_alB hown5 _) (some ⟨w5.heap.size, 0, none⟩) 1 [bt] rfl (new_byte w5 bt) (by simp; omega) (by simp; omega) ?_
      intro g6 cap6 w6 hown6 hb6
      have hZ56 : Below w3.heap.size w5 w6 := hZ6.trans hb6
      refine ⟨trivial, ?_⟩
      refine step1H 16 _ rfl (by kernel_rfl) (by rfl) ?_
      refine wp_appBy _ _ rfl w3.heap.size g6 cap6 (l.take k ++ [bt]) rfl hown6 so (bc - k) (l.drop k) (by rw [hld]; rfl) (s5.grown hZ56 (fun a ha => by rw [hsoB a ha]; exact hgl)) (by simp; omega) (Nat.le_trans hz5 hZ56.size) ?_
      intro g7 cap7 w7 hown7 hb7
      refine ⟨trivial, ?_⟩
      have hZ57 : Below w3.heap.size w5 w7 := hZ56.trans hb7
      have hR7 := brow_of_owns hown7
      have hl7 : (l.take k ++ [bt] ++ l.drop k).length = l.length + 1 := by simp; omega
      refine takeH 17 (some 7) (.slice (some ⟨g7, 0, none⟩) (l.take k ++ [bt] ++ l.drop k).length cap7) rfl rfl (by kernel_rfl) (by kernel_rfl) (by kernel_rfl) (fun _ _ _ h => h) (by rfl) trivial (fun w _ => by go_simp) ?_
      simp only [Act.put, List.setIfInBounds_toArray, List.set_cons_zero, List.set_cons_succ]
      refine wpAnyH_done (by kernel_rfl) ?_ _
      have hBn : Bnt w base c ao n cap w7 g7 cap7 (l.take k ++ [bt] ++ l.drop k) := ⟨hR7.1, Nat.le_trans hwl hR7.2.1, hR7.2.2, hC5.keepB hZ57 (by omega), grB_then hgr5 hZ57 hwl⟩
      generalize (l.take k ++ [bt] ++ l.drop k) = lx at hBn hl7 ⊢
      clear hown4 hown5 hown6 hown7 hR7 s1 s2 s5 hB3
      go_wp2
      go_roundw
      case rel => exact ⟨g7, cap7, r - 1, lx, by rw [hl7], by go_num, by omega, hBn⟩
      case measure => simp [intOf]; omega

end Go.Proofs.YtcmeppjfjledfacDoor

/-
  The document's draws of commands: l8Draw.
-/
set_option linter.unusedVariables false
set_option linter.unusedSimpArgs false
namespace Go.Proofs.YtcmeppjfjledfacDoor
open Go.RowKit Go.Maps
attribute [local go_sem ↓] Go.wp_at_zero Go.wp_at_succ

theorem st4_belowR {w : World} (W : World) {b : Nat} (hb : w.heap.size ≤ b) (v0 v1 v2 v3 : Value) : Below w.heap.size W ((((W.setCell ⟨b, 0, none⟩ v0).setCell ⟨b, 1, none⟩ v1).setCell ⟨b, 2, none⟩ v2).setCell ⟨b, 3, none⟩ v3) :=
  ((((Below.refl w.heap.size W).setCell (p := ⟨b, 0, none⟩) hb v0).setCell (p := ⟨b, 1, none⟩) hb v1).setCell (p := ⟨b, 2, none⟩) hb v2).setCell (p := ⟨b, 3, none⟩) hb v3

set_option maxRecDepth 100000 in
set_option maxHeartbeats 2000000 in
theorem l8Draw_any (base c : Nat) (ao : Option Addr) (n cap : Nat) (p : Int) (go : Option Addr) (k gc : Nat) (hk : k ≤ 81) (w : World) (hC : CurAt w base c ao n cap) (hO : AOwnE w (c + 1) go k gc) :
    Calls Tryd.prog 68 #[.pointer (some ⟨c, 0, none⟩), .agg #[.int .i64 p, .slice go k gc]] w fun e w' => ∃ (K : Int) (xo : Option Addr) (m xc : Nat) (a b : Int), e = .returned (.agg #[.int .i64 K, .slice xo m xc, .int .i64 a, .int .i64 b]) ∧ (K = 1 ∨ K = 2 ∨ K = 3) ∧ m ≤ 4 ∧ AOwnE w' w.heap.size xo m xc ∧ CurAt w' base c ao n cap ∧ w.grownBy w' (some c) := by
  have hcl := hC.lt
  have hal : Below w.heap.size w ((w.alloc (.cells #[.int .i64 p, .slice go k gc] 64)).alloc (.cells #[.int .i64 0, .slice none 0 0, .int .i64 0, .int .i64 0] 26)) := ((Below.refl _ _).alloc (Nat.le_refl _) _).alloc (by simp) _
  have v0 : VHas ((w.alloc (.cells #[.int .i64 p, .slice go k gc] 64)).alloc (.cells #[.int .i64 0, .slice none 0 0, .int .i64 0, .int .i64 0] 26)) (w.heap.size + 1) 26 4 (c4 (.int .i64 0) (.slice none 0 0) (.int .i64 0) (.int .i64 0)) := by
    have := c4_new (w.alloc (.cells #[.int .i64 p, .slice go k gc] 64)) (.int .i64 0) (.slice none 0 0) (.int .i64 0) (.int .i64 0) 26
    rwa [World.size_alloc] at this
  have g0 : ((w.alloc (.cells #[.int .i64 p, .slice go k gc] 64)).alloc (.cells #[.int .i64 0, .slice none 0 0, .int .i64 0, .int .i64 0] 26)).cell? ⟨w.heap.size, 0, none⟩ = some (.int .i64 p) := by simp [go_sem]
  have g1 : ((w.alloc (.cells #[.int .i64 p, .slice go k gc] 64)).alloc (.cells #[.int .i64 0, .slice none 0 0, .int .i64 0, .int .i64 0] 26)).cell? ⟨w.heap.size, 1, none⟩ = some (.slice go k gc) := by simp [go_sem]
  have hgr0 : w.grownBy ((w.alloc (.cells #[.int .i64 p, .slice go k gc] 64)).alloc (.cells #[.int .i64 0, .slice none 0 0, .int .i64 0, .int .i64 0] 26)) (some c) := ⟨hal.os, hal.tape, hal.output, hal.size, fun k hk _ => hal.block k hk⟩
  have hC0 := hC.next hal
  have hO0 := hO.next hal
  go_enter Tryd.func68, Tryd.ntmps68
  go_wp2_with fail
  generalize ((w.alloc (.cells #[.int .i64 p, .slice go k gc] 64)).alloc (.cells #[.int .i64 0, .slice none 0 0, .int .i64 0, .int .i64 0] 26)) = w0 at hal v0 g0 g1 hgr0 hC0 hO0 ⊢
  refine (l1Below_any base c ao n cap 6 (by omega) (by omega) _ hC0).mono ?_
  rintro e w1 ⟨x, rfl, hx, hC1, hg1⟩
  have v1 := v0.grown hg1 (by simp; omega)
  have g01 := hg1.cell g0 (by simp; omega)
  have g11 := hg1.cell g1 (by simp; omega)
  have hgr1 := hgr0.trans hg1
  have hO1 := hO0.grown hg1 (by omega)
  have r0 : w1.cell? ⟨w.heap.size + 1, 0, none⟩ = some (.int .i64 0) := v1.cell (j := 0) (by omega)
  have r1 : w1.cell? ⟨w.heap.size + 1, 1, none⟩ = some (.slice none 0 0) := v1.cell (j := 1) (by omega)
  have r2 : w1.cell? ⟨w.heap.size + 1, 2, none⟩ = some (.int .i64 0) := v1.cell (j := 2) (by omega)
  have r3 : w1.cell? ⟨w.heap.size + 1, 3, none⟩ = some (.int .i64 0) := v1.cell (j := 3) (by omega)
  have z0 := v1.frozen 0
  have z1 := v1.frozen 1
  have z2 := v1.frozen 2
  have z3 := v1.frozen 3
  clear hC0 hO0 v0 g0 g1 hgr0 hal hg1
  have hcase : x = 0 ∨ (x = 1 ∨ x = 2) ∨ 3 ≤ x := by omega
  rcases hcase with rfl | hx12 | hx3
  · go_wp2
    obtain ⟨s0, s1, s2, s3⟩ := st4 v1 (.int .i64 1) (.slice none 0 0) (.int .i64 0) (.int .i64 0)
    have hB4 := st4_belowR (w := w) w1 (b := w.heap.size + 1) (by omega) (.int .i64 1) (.slice none 0 0) (.int .i64 0) (.int .i64 0)
    exact bodyPost_ret (v := .agg #[.int .i64 1, .slice none 0 0, .int .i64 0, .int .i64 0]) (by simp [results, Tryd.results68, go_sem, s0, s1, s2, s3]) rfl ⟨_, _, _, _, _, _, rfl, by omega, by omega, aown_nil _ _, hC1.keepB hB4 hcl, grB_then hgr1 hB4 (Nat.le_refl _)⟩
  · obtain ⟨F, T, G, hrow, hwf, hgA⟩ := hO1.rowW
    have hdr := fun W hC hr hgc => l1DrawArcs_any base c ao n cap p go k gc F T G (by omega) hwf W hC hr hgc
    clear r0 r1 r2 r3 z0 z1 z2 z3
    have hgc : ∀ a, go = some a → 0 < k → a.block ≠ c ∧ a.block < w1.heap.size := fun a e h0 => by
      have := hO1.at (x := a.block) (by simp [e, Value.ownBlock])
      omega
    rcases hx12 with rfl | rfl
    · go_wp2_with fail
      refine (hdr w1 hC1 hrow hgc).mono ?_
      rintro e w2 ⟨xo, m, xc, rfl, hm, hO2, hC2, hg2⟩
      have v2 := v1.grown hg2 (by simp; omega)
      have hgr2 := hgr1.trans hg2
      clear hdr hrow hgc hgA hwf
      have hal2 : Below w.heap.size w2 (w2.alloc (.cells #[.int .i64 2, .slice xo m xc, .int .i64 0, .int .i64 0] 26)) := (Below.refl _ _).alloc (by have := hgr2.size; omega) _
      have v3 := v2.alloc (.cells #[.int .i64 2, .slice xo m xc, .int .i64 0, .int .i64 0] 26)
      have hC3 := hC2.next ((Below.refl _ w2).alloc (Nat.le_refl _) (.cells #[.int .i64 2, .slice xo m xc, .int .i64 0, .int .i64 0] 26))
      have hgr3 := grB_then hgr2 hal2 (Nat.le_refl _)
      have hlt1 := v1.lt
      have hO2' := hO2.next ((Below.refl _ w2).alloc (Nat.le_refl _) (.cells #[.int .i64 2, .slice xo m xc, .int .i64 0, .int .i64 0] 26))
      have hm0 : m = 0 ∨ 0 < m := by omega
      rcases hm0 with rfl | hm0
      · go_wp2_with fail
        refine (l1Below_any base c ao n cap 9 (by omega) (by omega) _ hC3).mono ?_
        rintro e w7 ⟨ya, rfl, hya, hC7, hg7⟩
        have v7 := v3.grown hg7 (by simp; omega)
        have hgr7 := hgr3.trans hg7
        go_wp2_with fail
        refine (l1Below_any base c ao n cap 9 (by omega) (by omega) _ hC7).mono ?_
        rintro e w8 ⟨yb, rfl, hyb, hC8, hg8⟩
        have v8 := v7.grown hg8 (by simp; omega)
        have hgr8 := hgr7.trans hg8
        have r0 := v8.cell (j := 0) (by omega)
        have r1 := v8.cell (j := 1) (by omega)
        have r2 := v8.cell (j := 2) (by omega)
        have r3 := v8.cell (j := 3) (by omega)
        have z0 := v8.frozen 0
        have z1 := v8.frozen 1
        have z2 := v8.frozen 2
        have z3 := v8.frozen 3
        go_wp2
        obtain ⟨s0, s1, s2, s3⟩ := st4 v8 (.int .i64 3) (.slice none 0 0) (.int .i64 (ya : Int)) (.int .i64 (yb : Int))
        have hB4 := st4_belowR (w := w) w8 (b := w.heap.size + 1) (by omega) (.int .i64 3) (.slice none 0 0) (.int .i64 (ya : Int)) (.int .i64 (yb : Int))
        exact bodyPost_ret (v := .agg #[.int .i64 3, .slice none 0 0, .int .i64 (ya : Int), .int .i64 (yb : Int)]) (by simp [results, Tryd.results68, go_sem, s0, s1, s2, s3]) rfl ⟨_, _, _, _, _, _, rfl, by omega, by omega, aown_nil _ _, hC8.keepB hB4 hcl, grB_then hgr8 hB4 (Nat.le_refl _)⟩
      · have r0 := v3.cell (j := 0) (by omega)
        have r1 := v3.cell (j := 1) (by omega)
        have r2 := v3.cell (j := 2) (by omega)
        have r3 := v3.cell (j := 3) (by omega)
        have z0 := v3.frozen 0
        have z1 := v3.frozen 1
        have z2 := v3.frozen 2
        have z3 := v3.frozen 3
        have hO5 := ((((hO2'.grown (gr_setCell _ (w.heap.size + 1) 0 (.int .i64 2)) (by omega)).grown (gr_setCell _ (w.heap.size + 1) 1 (.slice xo m xc)) (by omega)).grown (gr_setCell _ (w.heap.size + 1) 2 (.int .i64 0)) (by omega)).grown (gr_setCell _ (w.heap.size + 1) 3 (.int .i64 0)) (by omega)).from (base' := w.heap.size) (by omega)
        go_wp2
        obtain ⟨s0, s1, s2, s3⟩ := st4 v3 (.int .i64 2) (.slice xo m xc) (.int .i64 0) (.int .i64 0)
        have hB4 := st4_belowR (w := w) (w2.alloc (.cells #[.int .i64 2, .slice xo m xc, .int .i64 0, .int .i64 0] 26)) (b := w.heap.size + 1) (by omega) (.int .i64 2) (.slice xo m xc) (.int .i64 0) (.int .i64 0)
        exact bodyPost_ret (v := .agg #[.int .i64 2, .slice xo m xc, .int .i64 0, .int .i64 0]) (by simp [results, Tryd.results68, go_sem, s0, s1, s2, s3]) rfl ⟨_, _, _, _, _, _, rfl, by omega, by omega, hO5, hC3.keepB hB4 hcl, grB_then hgr3 hB4 (Nat.le_refl _)⟩
    · go_wp2_with fail
      refine (hdr w1 hC1 hrow hgc).mono ?_
      rintro e w2 ⟨xo, m, xc, rfl, hm, hO2, hC2, hg2⟩
      have v2 := v1.grown hg2 (by simp; omega)
      have hgr2 := hgr1.trans hg2
      clear hdr hrow hgc hgA hwf
      have hal2 : Below w.heap.size w2 (w2.alloc (.cells #[.int .i64 2, .slice xo m xc, .int .i64 0, .int .i64 0] 26)) := (Below.refl _ _).alloc (by have := hgr2.size; omega) _
      have v3 := v2.alloc (.cells #[.int .i64 2, .slice xo m xc, .int .i64 0, .int .i64 0] 26)
      have hC3 := hC2.next ((Below.refl _ w2).alloc (Nat.le_refl _) (.cells #[.int .i64 2, .slice xo m xc, .int .i64 0, .int .i64 0] 26))
      have hgr3 := grB_then hgr2 hal2 (Nat.le_refl _)
      have hlt1 := v1.lt
      have hO2' := hO2.next ((Below.refl _ w2).alloc (Nat.le_refl _) (.cells #[.int .i64 2, .slice xo m xc, .int .i64 0, .int .i64 0] 26))
      have hm0 : m = 0 ∨ 0 < m := by omega
      rcases hm0 with rfl | hm0
      · go_wp2_with fail
        refine (l1Below_any base c ao n cap 9 (by omega) (by omega) _ hC3).mono ?_
        rintro e w7 ⟨ya, rfl, hya, hC7, hg7⟩
        have v7 := v3.grown hg7 (by simp; omega)
        have hgr7 := hgr3.trans hg7
        go_wp2_with fail
        refine (l1Below_any base c ao n cap 9 (by omega) (by omega) _ hC7).mono ?_
        rintro e w8 ⟨yb, rfl, hyb, hC8, hg8⟩
        have v8 := v7.grown hg8 (by simp; omega)
        have hgr8 := hgr7.trans hg8
        have r0 := v8.cell (j := 0) (by omega)
        have r1 := v8.cell (j := 1) (by omega)
        have r2 := v8.cell (j := 2) (by omega)
        have r3 := v8.cell (j := 3) (by omega)
        have z0 := v8.frozen 0
        have z1 := v8.frozen 1
        have z2 := v8.frozen 2
        have z3 := v8.frozen 3
        go_wp2
        obtain ⟨s0, s1, s2, s3⟩ := st4 v8 (.int .i64 3) (.slice none 0 0) (.int .i64 (ya : Int)) (.int .i64 (yb : Int))
        have hB4 := st4_belowR (w := w) w8 (b := w.heap.size + 1) (by omega) (.int .i64 3) (.slice none 0 0) (.int .i64 (ya : Int)) (.int .i64 (yb : Int))
        exact bodyPost_ret (v := .agg #[.int .i64 3, .slice none 0 0, .int .i64 (ya : Int), .int .i64 (yb : Int)]) (by simp [results, Tryd.results68, go_sem, s0, s1, s2, s3]) rfl ⟨_, _, _, _, _, _, rfl, by omega, by omega, aown_nil _ _, hC8.keepB hB4 hcl, grB_then hgr8 hB4 (Nat.le_refl _)⟩
      · have r0 := v3.cell (j := 0) (by omega)
        have r1 := v3.cell (j := 1) (by omega)
        have r2 := v3.cell (j := 2) (by omega)
        have r3 := v3.cell (j := 3) (by omega)
        have z0 := v3.frozen 0
        have z1 := v3.frozen 1
        have z2 := v3.frozen 2
        have z3 := v3.frozen 3
        have hO5 := ((((hO2'.grown (gr_setCell _ (w.heap.size + 1) 0 (.int .i64 2)) (by omega)).grown (gr_setCell _ (w.heap.size + 1) 1 (.slice xo m xc)) (by omega)).grown (gr_setCell _ (w.heap.size + 1) 2 (.int .i64 0)) (by omega)).grown (gr_setCell _ (w.heap.size + 1) 3 (.int .i64 0)) (by omega)).from (base' := w.heap.size) (by omega)
        go_wp2
        obtain ⟨s0, s1, s2, s3⟩ := st4 v3 (.int .i64 2) (.slice xo m xc) (.int .i64 0) (.int .i64 0)
        have hB4 := st4_belowR (w := w) (w2.alloc (.cells #[.int .i64 2, .slice xo m xc, .int .i64 0, .int .i64 0] 26)) (b := w.heap.size + 1) (by omega) (.int .i64 2) (.slice xo m xc) (.int .i64 0) (.int .i64 0)
        exact bodyPost_ret (v := .agg #[.int .i64 2, .slice xo m xc, .int .i64 0, .int .i64 0]) (by simp [results, Tryd.results68, go_sem, s0, s1, s2, s3]) rfl ⟨_, _, _, _, _, _, rfl, by omega, by omega, hO5, hC3.keepB hB4 hcl, grB_then hgr3 hB4 (Nat.le_refl _)⟩
  · have h1 : ¬ (x : Int) = 0 := by omega
    have h2 : ¬ (x : Int) = 1 := by omega
    have h3 : ¬ (x : Int) = 2 := by omega
    clear r0 r1 r2 r3 z0 z1 z2 z3
    go_wp2_with fail
    refine (l1Below_any base c ao n cap 9 (by omega) (by omega) _ hC1).mono ?_
    rintro e w7 ⟨ya, rfl, hya, hC7, hg7⟩
    have v7 := v1.grown hg7 (by simp; omega)
    have hgr7 := hgr1.trans hg7
    go_wp2_with fail
    refine (l1Below_any base c ao n cap 9 (by omega) (by omega) _ hC7).mono ?_
    rintro e w8 ⟨yb, rfl, hyb, hC8, hg8⟩
    have v8 := v7.grown hg8 (by simp; omega)
    have hgr8 := hgr7.trans hg8
    have r0 := v8.cell (j := 0) (by omega)
    have r1 := v8.cell (j := 1) (by omega)
    have r2 := v8.cell (j := 2) (by omega)
    have r3 := v8.cell (j := 3) (by omega)
    have z0 := v8.frozen 0
    have z1 := v8.frozen 1
    have z2 := v8.frozen 2
    have z3 := v8.frozen 3
    go_wp2
    obtain ⟨s0, s1, s2, s3⟩ := st4 v8 (.int .i64 3) (.slice none 0 0) (.int .i64 (ya : Int)) (.int .i64 (yb : Int))
    have hB4 := st4_belowR (w := w) w8 (b := w.heap.size + 1) (by omega) (.int .i64 3) (.slice none 0 0) (.int .i64 (ya : Int)) (.int .i64 (yb : Int))
    exact bodyPost_ret (v := .agg #[.int .i64 3, .slice none 0 0, .int .i64 (ya : Int), .int .i64 (yb : Int)]) (by simp [results, Tryd.results68, go_sem, s0, s1, s2, s3]) rfl ⟨_, _, _, _, _, _, rfl, by omega, by omega, aown_nil _ _, hC8.keepB hB4 hcl, grB_then hgr8 hB4 (Nat.le_refl _)⟩

end Go.Proofs.YtcmeppjfjledfacDoor
