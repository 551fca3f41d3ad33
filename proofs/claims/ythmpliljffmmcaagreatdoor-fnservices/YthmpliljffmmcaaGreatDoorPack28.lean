/-
  Helpers: DrawAr, TxtP, RdP, ArcL, BendC, DrawCm.
-/
import Derived.Test.YthmpliljffmmcaaGreatDoorPack1
import Derived.Test.YthmpliljffmmcaaGreatDoorPack27
import Derived.Test.YthmpliljffmmcaaGreatDoorRows
import Derived.Test.YthmpliljffmmcaaGreatDoorPack14
import Derived.Test.YthmpliljffmmcaaGreatDoorPack5
import Derived.Deep.RegionLaw
set_option linter.unusedVariables false
set_option linter.unusedSimpArgs false
namespace Go.Proofs.YthmpliljffmmcaaGreatDoor
section
open Go.RowKit Go.Maps Go.Deep Go.Joins
attribute [local go_sem ↓] Go.wp_at_zero Go.wp_at_succ
theorem aown_empty (w : World) {base : Nat} (hb : base ≤ w.heap.size) : AOwnE (w.alloc (.cells #[] 67)) base (some ⟨w.heap.size, 0, none⟩) 0 0 := by
  have := World.ownsRow_lit (base := base) (e := 67) (size := 3) w #[] 0 hb (by simp) (by simp)
  exact ⟨fun _ => 0, fun _ => wfA (x := 0) (by omega), by simpa [cellsOf] using this⟩
theorem blk_at {W : World} {B : Nat} (h : W.heap.size = B) (o : Obj) : (W.alloc o).heap[B]? = some o := by rw [← h]; exact Go.Deep.blk_alloc_new W o
structure AW (w : World) (base c : Nat) (ao : Option Addr) (n cap : Nat) (p : Int) (go : Option Addr) (k gc : Nat) (xo : Option Addr) (m xc : Nat) (W : World) : Prop where
  cur : CurAt W base c ao n cap
  gr : w.grownBy W (some c)
  box : VHas W w.heap.size 26 2 (grV p (.slice go k gc))
  own : AOwnE W (w.heap.size + 1) xo m xc
section
variable {w W W' : World} {base c : Nat} {ao : Option Addr} {n cap : Nat} {p : Int} {go : Option Addr} {k gc : Nat} {xo : Option Addr} {m xc : Nat}
theorem AW.step (h : AW w base c ao n cap p go k gc xo m xc W) (hc : c < w.heap.size) (hC : CurAt W' base c ao n cap) (hg : W.grownBy W' (some c)) : AW w base c ao n cap p go k gc xo m xc W' :=
  ⟨hC, h.gr.trans hg, h.box.grown hg (by simp; omega), h.own.grown hg (by omega)⟩
theorem AW.next (h : AW w base c ao n cap p go k gc xo m xc W) (hb : Below W.heap.size W W') : AW w base c ao n cap p go k gc xo m xc W' :=
  ⟨h.cur.next hb, h.gr.trans ⟨hb.os, hb.tape, hb.output, hb.size, fun k hk _ => hb.block k hk⟩, h.box.next hb, h.own.next hb⟩
theorem AW.app (h : AW w base c ao n cap p go k gc xo m xc W) (hc : c < w.heap.size) (hg : W.grownBy W' (Value.slice xo m xc).ownBlock) {g' m' gc' : Nat} (hown : AOwnE W' (w.heap.size + 1) (some ⟨g', 0, none⟩) m' gc') : AW w base c ao n cap p go k gc (some ⟨g', 0, none⟩) m' gc' W' := by
  have hr : ∀ x, (Value.slice xo m xc).ownBlock = some x → w.heap.size + 1 ≤ x := fun x e => (h.own.at e).1
  exact ⟨h.cur.far hg hr (by omega), gr_far h.gr hg hr (by omega), h.box.grown hg (fun e => by have := hr _ e.symm; omega), hown⟩
theorem AW.setA (h : AW w base c ao n cap p go k gc xo m xc W) (hc : c < w.heap.size) {ab : Nat} (hab : w.heap.size + 1 ≤ ab) (i : Nat) (v : Int) {f : Nat → Value} (hA : VHas W ab 67 3 f) (hne : ∀ x, (Value.slice xo m xc).ownBlock = some x → x ≠ ab) : AW w base c ao n cap p go k gc xo m xc (W.setCell ⟨ab, i, none⟩ (.int .i64 v)) := by
  have h1 := gr_setCell W ab i (.int .i64 v)
  have hge := h.cur.ge
  refine ⟨h.cur.grown h1 (by omega) (by omega), gr_far h.gr h1 (fun g e => by cases e; exact Nat.le_refl _) (by omega), h.box.grown h1 (by simp; omega), ?_⟩
  obtain ⟨f', hw9, hl, h0 | ⟨g, cap', cur, hv, hb, hh, rest⟩⟩ := h.own
  · exact ⟨f', hw9, hl, .inl h0⟩
  · exact ⟨f', hw9, hl, .inr ⟨g, cap', cur, hv, hb, (h1.block g (Array.getElem?_eq_some_iff.1 hh).1 (by simp; exact hne g (by rw [hv]; rfl))).trans hh, rest⟩⟩
def a3 (x y z : Int) (j : Nat) : Value := if j = 0 then .int .i64 x else if j = 1 then .int .i64 y else .int .i64 z
theorem a3_new (w : World) (x y z : Int) : VHas (w.alloc (.cells #[.int .i64 x, .int .i64 y, .int .i64 z] 67)) w.heap.size 67 3 (a3 x y z) :=
  ⟨_, Go.Deep.blk_alloc_new _ _, by simp, fun j hj => by
    have : j = 0 ∨ j = 1 ∨ j = 2 := by omega
    rcases this with rfl | rfl | rfl <;> rfl⟩
end
theorem lit3W {W : World} {b : Nat} {a0 a1 a2 : Int} {t : TypeId} (h : W.heap[b]? = some (.cells #[.int .i64 a0, .int .i64 a1, .int .i64 a2] t (0, 0))) (h0 : (Lit.int .i64 a0).wf = true) (h1 : (Lit.int .i64 a1).wf = true) (h2 : (Lit.int .i64 a2).wf = true) {y : Nat} (hy : y < 3) : ∃ v, W.cell? ⟨b, y, none⟩ = some (.int .i64 v) ∧ (Lit.int .i64 v).wf = true := by
  have : y = 0 ∨ y = 1 ∨ y = 2 := by omega
  rcases this with rfl | rfl | rfl
  · exact ⟨a0, by simp [World.cell?, h], h0⟩
  · exact ⟨a1, by simp [World.cell?, h], h1⟩
  · exact ⟨a2, by simp [World.cell?, h], h2⟩
set_option maxRecDepth 100000 in
set_option maxHeartbeats 8000000 in
theorem l1DrawArcs_any (base c : Nat) (ao : Option Addr) (n cap : Nat) (p : Int) (go : Option Addr) (k gc : Nat) (F T G : Nat → Int) (hk : k ≤ 200) (hwf : ∀ j, j < k → (Lit.int .i64 (F j)).wf = true ∧ (Lit.int .i64 (T j)).wf = true) (w : World) (hC : CurAt w base c ao n cap) (hr : Row w go k F T G) (hgc : ∀ a, go = some a → 0 < k → a.block ≠ c ∧ a.block < w.heap.size) :
    Calls Tryz.prog 77 #[.pointer (some ⟨c, 0, none⟩), .agg #[.int .i64 p, .slice go k gc]] w fun e w' => ∃ (xo : Option Addr) (m xc : Nat), e = .returned (.slice xo m xc) ∧ m ≤ 4 ∧ AOwnE w' w.heap.size xo m xc ∧ CurAt w' base c ao n cap ∧ w.grownBy w' (some c) := by
  have hcl := hC.lt
  have hge := hC.ge
  go_enter Tryz.func77, Tryz.ntmps77
  have ha1 := (Below.refl w.heap.size w).alloc nl (.cells #[.int .i64 p, .slice go k gc] 26)
  have ha2 := (Below.refl _ (w.alloc (.cells #[.int .i64 p, .slice go k gc] 26))).alloc nl (.cells #[] 67)
  have hW : AW w base c ao n cap p go k gc (some ⟨w.heap.size + 1, 0, none⟩) 0 0 ((w.alloc (.cells #[.int .i64 p, .slice go k gc] 26)).alloc (.cells #[] 67)) :=
    ⟨(hC.next ha1).next ha2, (⟨ha1.os, ha1.tape, ha1.output, ha1.size, fun k hk _ => ha1.block k hk⟩ : w.grownBy _ (some c)).trans ⟨ha2.os, ha2.tape, ha2.output, ha2.size, fun k hk _ => ha2.block k hk⟩, (gr_new w p (.slice go k gc)).next ha2, by have := aown_empty (w.alloc (.cells #[.int .i64 p, .slice go k gc] 26)) (base := w.heap.size + 1) (by simp); simpa only [World.size_alloc] using this⟩
  clear ha1 ha2
  go_wp2_with fail
  generalize ((w.alloc (.cells #[.int .i64 p, .slice go k gc] 26)).alloc (.cells #[] 67)) = W0 at hW ⊢
  refine (l1Below_any base c ao n cap 5 (by omega) (by omega) _ hW.cur).mono ?_
  rintro e w1 ⟨x, rfl, hx, hC1, hg1⟩
  replace hW := hW.step hcl hC1 hg1
  clear hC1 hg1
  go_wp2_with fail
  go_loopw [5, 6] (fun o z wr => ∃ (m q : Nat) (xo : Option Addr) (xc : Nat), q + m ≤ 4 ∧ o = .slice xo m xc ∧ z = .int .i64 (q : Int) ∧ AW w base c ao n cap p go k gc xo m xc wr) (fun _ z _ => (intOf z).toNat)
  case atStart => exact ⟨0, x, _, _, by omega, rfl, rfl, hW⟩
  case round =>
    clear hW
    obtain ⟨m, q, xo, xc, hqm, rfl, rfl, hW⟩ := hrel
    by_cases hq0 : 0 < q
    rotate_left
    · obtain rfl : q = 0 := by omega
      go_wp2
      go_ret
      exact ⟨xo, m, xc, rfl, by omega, hW.own.from (by omega), hW.cur, hW.gr⟩
    have hq0' : 0 < (q : Int) := by omega
    go_wp2_with fail
    refine (l1Below_any base c ao n cap 5 (by omega) (by omega) _ hW.cur).mono ?_
    rintro e w2 ⟨x1, rfl, hx1, hC2, hg2⟩
    replace hW := hW.step hcl hC2 hg2
    clear hC2 hg2
    go_wp2_with fail
    refine (l1Below_any base c ao n cap 5 (by omega) (by omega) _ hW.cur).mono ?_
    rintro e w3 ⟨x2, rfl, hx2, hC3, hg3⟩
    replace hW := hW.step hcl hC3 hg3
    clear hC3 hg3
    go_wp2_with fail
    refine (l1Below_any base c ao n cap 20 (by omega) (by omega) _ hW.cur).mono ?_
    rintro e w4 ⟨x3, rfl, hx3, hC4, hg4⟩
    replace hW := hW.step hcl hC4 hg4
    clear hC4 hg4
    have b1 : w4.cell? ⟨w.heap.size, 1, none⟩ = some (.slice go k gc) := hW.box.cell (j := 1) (by omega)
    have hx4 : IntKind.i64.wrap (1 + (x3 : Int)) = 1 + (x3 : Int) := by rw [IntKind.wrap_i64]; omega
    have hbl := hW.box.lt
    have ha := (Below.refl w4.heap.size w4).alloc nl (.cells #[.int .i64 (x1 : Int), .int .i64 (x2 : Int), .int .i64 (1 + (x3 : Int))] 67)
    have hA := a3_new w4 (x1 : Int) (x2 : Int) (1 + (x3 : Int))
    have HOWN := fun x e => (hW.own.at (x := x) e).2
    replace hW := hW.next ha
    have hab : c < w4.heap.size ∧ w.heap.size + 1 ≤ w4.heap.size := by omega
    have hne9 : ∀ x, (Value.slice xo m xc).ownBlock = some x → x ≠ w4.heap.size := fun x e => by have := (HOWN x e); omega
    clear ha
    by_cases hk0 : 0 < k
    rotate_left
    · have hk0' : ¬ 0 < (k : Int) := by omega
      go_wp2_with fail
      generalize (w4.alloc (.cells #[.int .i64 (x1 : Int), .int .i64 (x2 : Int), .int .i64 (1 + (x3 : Int))] 67)) = W5 at hW hA ⊢
      generalize w4.heap.size = ab at hA hab hne9 HOWN ⊢
      refine (l1Once_any base c ao n cap 24 (by omega) (by omega) _ hW.cur).mono ?_
      rintro e wA ⟨bz, rfl, hCA, hgA⟩
      replace hW := hW.step hcl hCA hgA
      replace hA := hA.grown hgA (by simp; omega)
      clear hCA hgA
      cases bz
      · skip
        have u0 : wA.cell? ⟨ab, 0, none⟩ = some (.int .i64 ((x1 : Int))) := hA.cell (j := 0) (by omega)
        have u1 : wA.cell? ⟨ab, 1, none⟩ = some (.int .i64 ((x2 : Int))) := hA.cell (j := 1) (by omega)
        have u2 : wA.cell? ⟨ab, 2, none⟩ = some (.int .i64 (1 + (x3 : Int))) := hA.cell (j := 2) (by omega)
        have hz := hW.gr.size
        have hlb := hW.box.lt
        go_wp2_with (at_builtin; refine wpList_append_arc rfl _ _ rfl (w.heap.size + 1) m xc xo rfl (hW.own.next ((Below.refl _ _).alloc nl (.cells #[.int .i64 ((x1 : Int)), .int .i64 ((x2 : Int)), .int .i64 (1 + (x3 : Int))] 67))) wA.heap.size rfl _ _ _ (Go.Deep.blk_alloc_new _ _) (by omega) (by simp; omega) (wfA (by omega)) (wfA (by omega)) (wfA (by omega)) ?_; intro g6 xc6 w6 hown6 hgrow6 hat6; have hW6 := (hW.next ((Below.refl _ _).alloc nl (.cells #[.int .i64 ((x1 : Int)), .int .i64 ((x2 : Int)), .int .i64 (1 + (x3 : Int))] 67))).app hcl hgrow6 hown6)
        clear hW hA u0 u1 u2 hgrow6 hown6 hat6
        go_wp2
        go_roundw
        case rel => exact ⟨m + 1, q - 1, _, _, by omega, rfl, by go_num, hW6⟩
        case measure => simp [intOf]; omega
      have hlA := hA.lt
      have hcw := hW.cur.lt
      replace hW := hW.next ((Below.refl wA.heap.size wA).alloc nl (.cells #[.int .i64 0, .int .i64 1000000, .int .i64 1000001] 2))
      replace hA := hA.next ((Below.refl wA.heap.size wA).alloc nl (.cells #[.int .i64 0, .int .i64 1000000, .int .i64 1000001] 2))
      go_wp2_with fail
      refine (l1Below_any base c ao n cap 3 (by omega) (by omega) _ hW.cur).mono ?_
      rintro e w7 ⟨y, rfl, hy, hC7, hg7⟩
      replace hW := hW.step hcl hC7 hg7
      replace hA := hA.grown hg7 (by simp; omega)
      obtain ⟨v, hv, hvw⟩ := lit3W ((hg7.block wA.heap.size (by simp) (by simp <;> omega)).trans (Go.Deep.blk_alloc_new wA (.cells #[.int .i64 0, .int .i64 1000000, .int .i64 1000001] 2))) (wfA (by omega)) (wfA (by omega)) (wfA (by omega)) (show y < 3 by omega)
      have uz : w7.cell? ⟨ab, 2, none⟩ = some (.int .i64 (1 + (x3 : Int))) := hA.cell (j := 2) (by omega)
      have zz := hA.frozen 2
      have lz := hA.lt
      have hy3 : (y : Int) < 3 := by omega
      have uy0 : w7.cell? ⟨ab, 0, none⟩ = some (.int .i64 ((x1 : Int))) := hA.cell (j := 0) (by omega)
      have uy1 : w7.cell? ⟨ab, 1, none⟩ = some (.int .i64 ((x2 : Int))) := hA.cell (j := 1) (by omega)
      clear hC7 hg7
      replace hW := hW.setA hcl (ab := ab) (by omega) 2 v hA hne9
      replace hA := (hA.set 2 (.int .i64 v)).congr (g := a3 ((x1 : Int)) ((x2 : Int)) v) (fun j hj => by have : j = 0 ∨ j = 1 ∨ j = 2 := (by omega); rcases this with rfl | rfl | rfl <;> rfl)
      have u0 : (w7.setCell ⟨ab, 2, none⟩ (.int .i64 v)).cell? ⟨ab, 0, none⟩ = some (.int .i64 ((x1 : Int))) := hA.cell (j := 0) (by omega)
      have u1 : (w7.setCell ⟨ab, 2, none⟩ (.int .i64 v)).cell? ⟨ab, 1, none⟩ = some (.int .i64 ((x2 : Int))) := hA.cell (j := 1) (by omega)
      have u2 : (w7.setCell ⟨ab, 2, none⟩ (.int .i64 v)).cell? ⟨ab, 2, none⟩ = some (.int .i64 (v)) := hA.cell (j := 2) (by omega)
      have hz := hW.gr.size
      have hlb := hW.box.lt
      go_wp2_with (at_builtin; refine wpList_append_arc rfl _ _ rfl (w.heap.size + 1) m xc xo rfl (hW.own.next ((Below.refl _ _).alloc nl (.cells #[.int .i64 ((x1 : Int)), .int .i64 ((x2 : Int)), .int .i64 (v)] 67))) w7.heap.size rfl _ _ _ (blk_at (by simp [World.setCell]) _) (by omega) (by simp; omega) (wfA (by omega)) (wfA (by omega)) (hvw) ?_; intro g6 xc6 w6 hown6 hgrow6 hat6; have hW6 := (hW.next ((Below.refl _ _).alloc nl (.cells #[.int .i64 ((x1 : Int)), .int .i64 ((x2 : Int)), .int .i64 (v)] 67))).app hcl hgrow6 hown6)
      clear hW hA u0 u1 u2 hgrow6 hown6 hat6
      go_wp2
      go_roundw
      case rel => exact ⟨m + 1, q - 1, _, _, by omega, rfl, by go_num, hW6⟩
      case measure => simp [intOf]; omega
    have hk0' : 0 < (k : Int) := by omega
    go_wp2_with fail
    generalize (w4.alloc (.cells #[.int .i64 (x1 : Int), .int .i64 (x2 : Int), .int .i64 (1 + (x3 : Int))] 67)) = W5 at hW hA ⊢
    generalize w4.heap.size = ab at hA hab hne9 HOWN ⊢
    refine (l1Once_any base c ao n cap 20 (by omega) (by omega) _ hW.cur).mono ?_
    rintro e w5 ⟨bx, rfl, hC5, hg5⟩
    replace hW := hW.step hcl hC5 hg5
    replace hA := hA.grown hg5 (by simp; omega)
    clear hC5 hg5 b1
    cases bx
    rotate_left
    · skip
      go_wp2_with fail
      refine (l1Once_any base c ao n cap 24 (by omega) (by omega) _ hW.cur).mono ?_
      rintro e wA ⟨bz, rfl, hCA, hgA⟩
      replace hW := hW.step hcl hCA hgA
      replace hA := hA.grown hgA (by simp; omega)
      clear hCA hgA
      cases bz
      · skip
        have u0 : wA.cell? ⟨ab, 0, none⟩ = some (.int .i64 ((x1 : Int))) := hA.cell (j := 0) (by omega)
        have u1 : wA.cell? ⟨ab, 1, none⟩ = some (.int .i64 ((x2 : Int))) := hA.cell (j := 1) (by omega)
        have u2 : wA.cell? ⟨ab, 2, none⟩ = some (.int .i64 (1 + (x3 : Int))) := hA.cell (j := 2) (by omega)
        have hz := hW.gr.size
        have hlb := hW.box.lt
        go_wp2_with (at_builtin; refine wpList_append_arc rfl _ _ rfl (w.heap.size + 1) m xc xo rfl (hW.own.next ((Below.refl _ _).alloc nl (.cells #[.int .i64 ((x1 : Int)), .int .i64 ((x2 : Int)), .int .i64 (1 + (x3 : Int))] 67))) wA.heap.size rfl _ _ _ (Go.Deep.blk_alloc_new _ _) (by omega) (by simp; omega) (wfA (by omega)) (wfA (by omega)) (wfA (by omega)) ?_; intro g6 xc6 w6 hown6 hgrow6 hat6; have hW6 := (hW.next ((Below.refl _ _).alloc nl (.cells #[.int .i64 ((x1 : Int)), .int .i64 ((x2 : Int)), .int .i64 (1 + (x3 : Int))] 67))).app hcl hgrow6 hown6)
        clear hW hA u0 u1 u2 hgrow6 hown6 hat6
        go_wp2
        go_roundw
        case rel => exact ⟨m + 1, q - 1, _, _, by omega, rfl, by go_num, hW6⟩
        case measure => simp [intOf]; omega
      have hlA := hA.lt
      have hcw := hW.cur.lt
      replace hW := hW.next ((Below.refl wA.heap.size wA).alloc nl (.cells #[.int .i64 0, .int .i64 1000000, .int .i64 1000001] 2))
      replace hA := hA.next ((Below.refl wA.heap.size wA).alloc nl (.cells #[.int .i64 0, .int .i64 1000000, .int .i64 1000001] 2))
      go_wp2_with fail
      refine (l1Below_any base c ao n cap 3 (by omega) (by omega) _ hW.cur).mono ?_
      rintro e w7 ⟨y, rfl, hy, hC7, hg7⟩
      replace hW := hW.step hcl hC7 hg7
      replace hA := hA.grown hg7 (by simp; omega)
      obtain ⟨v, hv, hvw⟩ := lit3W ((hg7.block wA.heap.size (by simp) (by simp <;> omega)).trans (Go.Deep.blk_alloc_new wA (.cells #[.int .i64 0, .int .i64 1000000, .int .i64 1000001] 2))) (wfA (by omega)) (wfA (by omega)) (wfA (by omega)) (show y < 3 by omega)
      have uz : w7.cell? ⟨ab, 2, none⟩ = some (.int .i64 (1 + (x3 : Int))) := hA.cell (j := 2) (by omega)
      have zz := hA.frozen 2
      have lz := hA.lt
      have hy3 : (y : Int) < 3 := by omega
      have uy0 : w7.cell? ⟨ab, 0, none⟩ = some (.int .i64 ((x1 : Int))) := hA.cell (j := 0) (by omega)
      have uy1 : w7.cell? ⟨ab, 1, none⟩ = some (.int .i64 ((x2 : Int))) := hA.cell (j := 1) (by omega)
      clear hC7 hg7
      replace hW := hW.setA hcl (ab := ab) (by omega) 2 v hA hne9
      replace hA := (hA.set 2 (.int .i64 v)).congr (g := a3 ((x1 : Int)) ((x2 : Int)) v) (fun j hj => by have : j = 0 ∨ j = 1 ∨ j = 2 := (by omega); rcases this with rfl | rfl | rfl <;> rfl)
      have u0 : (w7.setCell ⟨ab, 2, none⟩ (.int .i64 v)).cell? ⟨ab, 0, none⟩ = some (.int .i64 ((x1 : Int))) := hA.cell (j := 0) (by omega)
      have u1 : (w7.setCell ⟨ab, 2, none⟩ (.int .i64 v)).cell? ⟨ab, 1, none⟩ = some (.int .i64 ((x2 : Int))) := hA.cell (j := 1) (by omega)
      have u2 : (w7.setCell ⟨ab, 2, none⟩ (.int .i64 v)).cell? ⟨ab, 2, none⟩ = some (.int .i64 (v)) := hA.cell (j := 2) (by omega)
      have hz := hW.gr.size
      have hlb := hW.box.lt
      go_wp2_with (at_builtin; refine wpList_append_arc rfl _ _ rfl (w.heap.size + 1) m xc xo rfl (hW.own.next ((Below.refl _ _).alloc nl (.cells #[.int .i64 ((x1 : Int)), .int .i64 ((x2 : Int)), .int .i64 (v)] 67))) w7.heap.size rfl _ _ _ (blk_at (by simp [World.setCell]) _) (by omega) (by simp; omega) (wfA (by omega)) (wfA (by omega)) (hvw) ?_; intro g6 xc6 w6 hown6 hgrow6 hat6; have hW6 := (hW.next ((Below.refl _ _).alloc nl (.cells #[.int .i64 ((x1 : Int)), .int .i64 ((x2 : Int)), .int .i64 (v)] 67))).app hcl hgrow6 hown6)
      clear hW hA u0 u1 u2 hgrow6 hown6 hat6
      go_wp2
      go_roundw
      case rel => exact ⟨m + 1, q - 1, _, _, by omega, rfl, by go_num, hW6⟩
      case measure => simp [intOf]; omega
    obtain ⟨bb, oo, ego, _⟩ := hr 0 hk0
    have hbc := hgc _ ego hk0
    simp only at hbc
    have b1 : w5.cell? ⟨w.heap.size, 1, none⟩ = some (.slice go k gc) := hW.box.cell (j := 1) (by omega)
    have hWd := hW.next (Below.refl w5.heap.size w5).drew
    have hAd := hA.next (Below.refl w5.heap.size w5).drew
    have hbl5 := hW.box.lt
    rw [ego] at b1
    have HCALL : Hid (∀ X, AW w base c ao n cap p go k gc xo m xc X → VHas X ab 67 3 (a3 (x1 : Int) (x2 : Int) (1 + (x3 : Int))) → Calls Tryz.prog 49 #[.pointer (some ⟨c, 0, none⟩), .int .i64 (k : Int)] X fun e w6 => ∃ y : Nat, e = .returned (.int .i64 (y : Int)) ∧ y < k ∧ AW w base c ao n cap p go k gc xo m xc w6 ∧ VHas w6 ab 67 3 (a3 (x1 : Int) (x2 : Int) (1 + (x3 : Int))) ∧ w6.cell? ⟨w.heap.size, 1, none⟩ = some (.slice (some ⟨bb, oo, none⟩) k gc) ∧ (w6.cell? ⟨bb, oo + y * 3, none⟩ = some (.int .i64 (F y)) ∧ w6.cell? ⟨bb, oo + y * 3 + 1, none⟩ = some (.int .i64 (T y)) ∧ w6.cell? ⟨bb, oo + y * 3 + 2, none⟩ = some (.int .i64 (G y))) ∧ X.grownBy w6 (some c)) := fun X hX hY => by
      refine (l1Below_any base c ao n cap (k : Int) (by omega) (by omega) _ hX.cur).mono ?_
      rintro e w6 ⟨y, rfl, hy, hC6, hg6⟩
      have hW6 := hX.step hcl hC6 hg6
      have hr6 := hr.otherB hW6.gr (fun a e h0 q => by have := hgc a e h0; simp at q; omega)
      obtain ⟨b9, o9, e9, d0, d1, d2⟩ := hr6 y (by omega)
      obtain ⟨rfl, rfl⟩ : bb = b9 ∧ oo = o9 := by rw [ego] at e9; simpa using e9
      exact ⟨y, rfl, by omega, hW6, hY.grown hg6 (by simp; omega), by rw [← ego]; exact hW6.box.cell (j := 1) (by omega), ⟨d0, d1, d2⟩, hg6⟩
    have hWz := (hW.next ((Below.refl w5.heap.size w5).alloc nl (.cells #[.int .i64 0, .int .i64 0, .int .i64 0] 67))).next (Below.refl _ _).drew
    have hAz := (hA.next ((Below.refl w5.heap.size w5).alloc nl (.cells #[.int .i64 0, .int .i64 0, .int .i64 0] 67))).next (Below.refl _ _).drew
    have hcw5 := hW.cur.lt
    have HOWN5 : ∀ x, (Value.slice xo m xc).ownBlock = some x → x ≠ w5.heap.size := fun x e => by have := (hW.own.at (x := x) e).2; omega
    have hlA5 := hA.lt
    have b1z : (w5.alloc (.cells #[.int .i64 0, .int .i64 0, .int .i64 0] 67)).cell? ⟨w.heap.size, 1, none⟩ = some (.slice (some ⟨bb, oo, none⟩) k gc) := keep_cell ((Below.refl w5.heap.size w5).alloc nl _) nl b1
    clear ego
    go_wp2_with fail
    go_region_law (first
      | (go_simp; go_at_call 49; refine (HCALL.out _ hWz hAz).mono ?_; rintro e w6b ⟨y, rfl, hy, hW6, hA6, b6, ⟨d0, d1, d2⟩, hg6⟩; have hyk : (y : Int) < (k : Int) := (by omega); have hbb := lt_of_cell d0; have hl6 := hW6.box.lt; have hlA6 := hA6.lt; have hz6 := hg6.size; have vb := (a3_new w5 0 0 0).next (Below.refl _ _).drew; replace vb := vb.grown hg6 (by simp; omega); have vb0 : w6b.cell? ⟨w5.heap.size, 0, none⟩ = some (.int .i64 0) := vb.cell (j := 0) (by omega); have vb1 : w6b.cell? ⟨w5.heap.size, 1, none⟩ = some (.int .i64 0) := vb.cell (j := 1) (by omega); have vb2 : w6b.cell? ⟨w5.heap.size, 2, none⟩ = some (.int .i64 0) := vb.cell (j := 2) (by omega); obtain ⟨vz0, vz1, vz2⟩ := vb.z3)
      | (go_simp; go_at_call 49; refine (HCALL.out _ hWd hAd).mono ?_; rintro e w6a ⟨y, rfl, hy, hW6, hA6, b6, ⟨d0, d1, d2⟩, hg6⟩; have hyk : (y : Int) < (k : Int) := (by omega); have hbb := lt_of_cell d0; have hl6 := hW6.box.lt; have hlA6 := hA6.lt))
    all_goals
      have hwy := hwf y hy
      clear hW hA HCALL hWz hAz hWd hAd
      first
      | (have hW := ((hW6.setA hcl (ab := w5.heap.size) (by omega) 0 (F y) vb HOWN5).setA hcl (ab := w5.heap.size) (by omega) 1 (T y) (vb.set 0 _) HOWN5).setA hcl (ab := w5.heap.size) (by omega) 2 (G y) ((vb.set 0 _).set 1 _) HOWN5; have hA := ((hA6.other (c := w5.heap.size) (i := 0) (by omega) (.int .i64 (F y))).other (c := w5.heap.size) (i := 1) (by omega) (.int .i64 (T y))).other (c := w5.heap.size) (i := 2) (by omega) (.int .i64 (G y)); have hBb := (((vb.set 0 (.int .i64 (F y))).set 1 (.int .i64 (T y))).set 2 (.int .i64 (G y))).congr (g := a3 (F y) (T y) (G y)) (fun j hj => by have : j = 0 ∨ j = 1 ∨ j = 2 := (by omega); rcases this with rfl | rfl | rfl <;> rfl); have hnb : ab ≠ w5.heap.size := (by omega); generalize (((w6b.setCell ⟨w5.heap.size, 0, none⟩ (.int .i64 (F y))).setCell ⟨w5.heap.size, 1, none⟩ (.int .i64 (T y))).setCell ⟨w5.heap.size, 2, none⟩ (.int .i64 (G y))) = Wz at hW hA hBb ⊢; generalize w5.heap.size = bx at hBb hnb ⊢)
      | (have hW := hW6.next ((Below.refl _ _).alloc nl (.cells #[.int .i64 (F y), .int .i64 (T y), .int .i64 (G y)] 67)); have hA := hA6.next ((Below.refl _ _).alloc nl (.cells #[.int .i64 (F y), .int .i64 (T y), .int .i64 (G y)] 67)); have hBb := a3_new w6a (F y) (T y) (G y); have hnb : ab ≠ w6a.heap.size := (by omega); generalize (w6a.alloc (.cells #[.int .i64 (F y), .int .i64 (T y), .int .i64 (G y)] 67)) = Wz at hW hA hBb ⊢; generalize w6a.heap.size = bx at hBb hnb ⊢)
      have q0 : Wz.cell? ⟨bx, 0, none⟩ = some (.int .i64 (F y)) := hBb.cell (j := 0) (by omega)
      have q1 : Wz.cell? ⟨bx, 1, none⟩ = some (.int .i64 (T y)) := hBb.cell (j := 1) (by omega)
      have p0 : Wz.cell? ⟨ab, 0, none⟩ = some (.int .i64 (x1 : Int)) := hA.cell (j := 0) (by omega)
      have p1 : Wz.cell? ⟨ab, 1, none⟩ = some (.int .i64 (x2 : Int)) := hA.cell (j := 1) (by omega)
      obtain ⟨zf0, zf1⟩ := hA.z2
      replace hW := (hW.setA hcl (ab := ab) (by omega) 0 (F y) hA hne9).setA hcl (ab := ab) (by omega) 1 (T y) (hA.set 0 _) hne9
      replace hA := ((hA.set 0 (.int .i64 (F y))).set 1 (.int .i64 (T y))).congr (g := a3 (F y) (T y) (1 + (x3 : Int))) (fun j hj => by have : j = 0 ∨ j = 1 ∨ j = 2 := (by omega); rcases this with rfl | rfl | rfl <;> rfl)
      go_wp2_with fail
      generalize ((Wz.setCell ⟨ab, 0, none⟩ (.int .i64 (F y))).setCell ⟨ab, 1, none⟩ (.int .i64 (T y))) = W9 at hW hA ⊢
      clear q0 q1 p0 p1 zf0 zf1 hBb d0 d1 d2 b6 hbb hl6 hlA6 hg6 b1 b1z hW6 hA6 HOWN5 hcw5 hlA5 hbl5 hbl hnb HOWN hyk
      (try clear vb vb0 vb1 vb2 vz0 vz1 vz2 hz6)
      clear hr hgc hbc hwf
      obtain ⟨hwy1, hwy2⟩ := hwy
      generalize F y = fy at hwy1 hA ⊢
      generalize T y = ty at hwy2 hA ⊢
      refine (l1Once_any base c ao n cap 24 (by omega) (by omega) _ hW.cur).mono ?_
      rintro e wA ⟨bz, rfl, hCA, hgA⟩
      replace hW := hW.step hcl hCA hgA
      replace hA := hA.grown hgA (by simp; omega)
      clear hCA hgA
      cases bz
      · skip
        have u0 : wA.cell? ⟨ab, 0, none⟩ = some (.int .i64 fy) := hA.cell (j := 0) (by omega)
        have u1 : wA.cell? ⟨ab, 1, none⟩ = some (.int .i64 ty) := hA.cell (j := 1) (by omega)
        have u2 : wA.cell? ⟨ab, 2, none⟩ = some (.int .i64 (1 + (x3 : Int))) := hA.cell (j := 2) (by omega)
        have hz := hW.gr.size
        have hlb := hW.box.lt
        go_wp2_with (at_builtin; refine wpList_append_arc rfl _ _ rfl (w.heap.size + 1) m xc xo rfl (hW.own.next ((Below.refl _ _).alloc nl (.cells #[.int .i64 fy, .int .i64 ty, .int .i64 (1 + (x3 : Int))] 67))) wA.heap.size rfl _ _ _ (Go.Deep.blk_alloc_new _ _) (by omega) (by simp; omega) (hwy1) (hwy2) (wfA (by omega)) ?_; intro g6 xc6 w6 hown6 hgrow6 hat6; have hW6 := (hW.next ((Below.refl _ _).alloc nl (.cells #[.int .i64 fy, .int .i64 ty, .int .i64 (1 + (x3 : Int))] 67))).app hcl hgrow6 hown6)
        clear hW hA u0 u1 u2 hgrow6 hown6 hat6
        go_wp2
        go_roundw
        case rel => exact ⟨m + 1, q - 1, _, _, by omega, rfl, by go_num, hW6⟩
        case measure => simp [intOf]; omega
      have hlA := hA.lt
      have hcw := hW.cur.lt
      replace hW := hW.next ((Below.refl wA.heap.size wA).alloc nl (.cells #[.int .i64 0, .int .i64 1000000, .int .i64 1000001] 2))
      replace hA := hA.next ((Below.refl wA.heap.size wA).alloc nl (.cells #[.int .i64 0, .int .i64 1000000, .int .i64 1000001] 2))
      go_wp2_with fail
      refine (l1Below_any base c ao n cap 3 (by omega) (by omega) _ hW.cur).mono ?_
      rintro e w7 ⟨y3, rfl, hy, hC7, hg7⟩
      replace hW := hW.step hcl hC7 hg7
      replace hA := hA.grown hg7 (by simp; omega)
      obtain ⟨v, hv, hvw⟩ := lit3W ((hg7.block wA.heap.size (by simp) (by simp <;> omega)).trans (Go.Deep.blk_alloc_new wA (.cells #[.int .i64 0, .int .i64 1000000, .int .i64 1000001] 2))) (wfA (by omega)) (wfA (by omega)) (wfA (by omega)) (show y3 < 3 by omega)
      have uz : w7.cell? ⟨ab, 2, none⟩ = some (.int .i64 (1 + (x3 : Int))) := hA.cell (j := 2) (by omega)
      have zz := hA.frozen 2
      have lz := hA.lt
      have hy3 : (y3 : Int) < 3 := by omega
      have uy0 : w7.cell? ⟨ab, 0, none⟩ = some (.int .i64 fy) := hA.cell (j := 0) (by omega)
      have uy1 : w7.cell? ⟨ab, 1, none⟩ = some (.int .i64 ty) := hA.cell (j := 1) (by omega)
      clear hC7 hg7
      replace hW := hW.setA hcl (ab := ab) (by omega) 2 v hA hne9
      replace hA := (hA.set 2 (.int .i64 v)).congr (g := a3 fy ty v) (fun j hj => by have : j = 0 ∨ j = 1 ∨ j = 2 := (by omega); rcases this with rfl | rfl | rfl <;> rfl)
      have u0 : (w7.setCell ⟨ab, 2, none⟩ (.int .i64 v)).cell? ⟨ab, 0, none⟩ = some (.int .i64 fy) := hA.cell (j := 0) (by omega)
      have u1 : (w7.setCell ⟨ab, 2, none⟩ (.int .i64 v)).cell? ⟨ab, 1, none⟩ = some (.int .i64 ty) := hA.cell (j := 1) (by omega)
      have u2 : (w7.setCell ⟨ab, 2, none⟩ (.int .i64 v)).cell? ⟨ab, 2, none⟩ = some (.int .i64 (v)) := hA.cell (j := 2) (by omega)
      have hz := hW.gr.size
      have hlb := hW.box.lt
      go_wp2_with (at_builtin; refine wpList_append_arc rfl _ _ rfl (w.heap.size + 1) m xc xo rfl (hW.own.next ((Below.refl _ _).alloc nl (.cells #[.int .i64 fy, .int .i64 ty, .int .i64 (v)] 67))) w7.heap.size rfl _ _ _ (blk_at (by simp [World.setCell]) _) (by omega) (by simp; omega) (hwy1) (hwy2) (hvw) ?_; intro g6 xc6 w6 hown6 hgrow6 hat6; have hW6 := (hW.next ((Below.refl _ _).alloc nl (.cells #[.int .i64 fy, .int .i64 ty, .int .i64 (v)] 67))).app hcl hgrow6 hown6)
      clear hW hA u0 u1 u2 hgrow6 hown6 hat6
      go_wp2
      go_roundw
      case rel => exact ⟨m + 1, q - 1, _, _, by omega, rfl, by go_num, hW6⟩
      case measure => simp [intOf]; omega
end
section
def dg (c : UInt8) : Int := (c.toNat : Int) - 48
def val (l : List UInt8) : Int := l.foldl (fun n c => n * 10 + dg c) 0

end
section
open Go.RowKit Go.Maps
def c4 (v0 v1 v2 v3 : Value) (j : Nat) : Value := if j = 0 then v0 else if j = 1 then v1 else if j = 2 then v2 else v3
theorem c4_new (w : World) (v0 v1 v2 v3 : Value) (t : TypeId) : VHas (w.alloc (.cells #[v0, v1, v2, v3] t)) w.heap.size t 4 (c4 v0 v1 v2 v3) :=
  ⟨_, Go.Deep.blk_alloc_new _ _, by simp, fun j hj => by
    have : j = 0 ∨ j = 1 ∨ j = 2 ∨ j = 3 := by omega
    rcases this with rfl | rfl | rfl | rfl <;> rfl⟩
theorem st4 {W : World} {b : Nat} {t : TypeId} {f : Nat → Value} (h : VHas W b t 4 f) (v0 v1 v2 v3 : Value) :
    ((((W.setCell ⟨b, 0, none⟩ v0).setCell ⟨b, 1, none⟩ v1).setCell ⟨b, 2, none⟩ v2).setCell ⟨b, 3, none⟩ v3).cell? ⟨b, 0, none⟩ = some v0 ∧ ((((W.setCell ⟨b, 0, none⟩ v0).setCell ⟨b, 1, none⟩ v1).setCell ⟨b, 2, none⟩ v2).setCell ⟨b, 3, none⟩ v3).cell? ⟨b, 1, none⟩ = some v1 ∧
    ((((W.setCell ⟨b, 0, none⟩ v0).setCell ⟨b, 1, none⟩ v1).setCell ⟨b, 2, none⟩ v2).setCell ⟨b, 3, none⟩ v3).cell? ⟨b, 2, none⟩ = some v2 ∧ ((((W.setCell ⟨b, 0, none⟩ v0).setCell ⟨b, 1, none⟩ v1).setCell ⟨b, 2, none⟩ v2).setCell ⟨b, 3, none⟩ v3).cell? ⟨b, 3, none⟩ = some v3 := by
  have u := (((h.set 0 v0).set 1 v1).set 2 v2).set 3 v3
  exact ⟨u.cell (j := 0) (by omega), u.cell (j := 1) (by omega), u.cell (j := 2) (by omega), u.cell (j := 3) (by omega)⟩
theorem OwnS.from {W : World} {B B' n : Nat} {ao : Option Addr} {f : Nat → Int} (h : OwnS W B ao n f) (hb : B' ≤ B) : OwnS W B' ao n f := fun k hk => by
  obtain ⟨g, e, hB, hh⟩ := h k hk
  exact ⟨g, e, by omega, hh⟩
end
section
open Go.RowKit
attribute [local go_sem ↓] Go.wp_at_zero Go.wp_at_succ
theorem grB_then {w w1 w2 : World} {row : Option Nat} {B : Nat} (h : w.grownBy w1 row) (hb : Below B w1 w2) (hB : w.heap.size ≤ B) : w.grownBy w2 row :=
  ⟨hb.os.trans h.os, hb.tape.trans h.tape, hb.output.trans h.output, Nat.le_trans h.size hb.size, fun k hk hne => (hb.block k (by omega)).trans (h.block k hk hne)⟩
theorem CurAt.keepB {w w' : World} {base c B : Nat} {ao : Option Addr} {n cap : Nat} (h : CurAt w base c ao n cap) (hb : Below B w w') (hB : c < B) : CurAt w' base c ao n cap := by
  obtain ⟨hge, hlen, hby, i, h0, h1, h2, hv⟩ := h
  exact ⟨hge, hlen, hby.below hb (by omega), i, h0, h1, h2, hv.below hb hB⟩
end
section
open Go.RowKit Go.Maps
attribute [local go_sem ↓] Go.wp_at_zero Go.wp_at_succ
theorem st4_belowR {w : World} (W : World) {b : Nat} (hb : w.heap.size ≤ b) (v0 v1 v2 v3 : Value) : Below w.heap.size W ((((W.setCell ⟨b, 0, none⟩ v0).setCell ⟨b, 1, none⟩ v1).setCell ⟨b, 2, none⟩ v2).setCell ⟨b, 3, none⟩ v3) :=
  ((((Below.refl w.heap.size W).setCell (p := ⟨b, 0, none⟩) hb v0).setCell (p := ⟨b, 1, none⟩) hb v1).setCell (p := ⟨b, 2, none⟩) hb v2).setCell (p := ⟨b, 3, none⟩) hb v3
def ArcsE (w : World) (c : Nat) (go : Option Addr) (k : Nat) : Prop := ∃ F T G : Nat → Int, Row w go k F T G ∧ (∀ j, j < k → (Lit.int .i64 (F j)).wf = true ∧ (Lit.int .i64 (T j)).wf = true) ∧ ∀ a, go = some a → 0 < k → a.block ≠ c ∧ a.block < w.heap.size
theorem ArcsE.next {w w' : World} {c : Nat} {go : Option Addr} {k : Nat} (h : ArcsE w c go k) (hb : Below w.heap.size w w') : ArcsE w' c go k := by
  obtain ⟨F, T, G, hr, hw, hc⟩ := h
  exact ⟨F, T, G, hr.below hb nl, hw, fun a e h0 => ⟨(hc a e h0).1, Nat.lt_of_lt_of_le (hc a e h0).2 hb.size⟩⟩
theorem ArcsE.grown {w w' : World} {c : Nat} {go : Option Addr} {k : Nat} (h : ArcsE w c go k) (hg : w.grownBy w' (some c)) : ArcsE w' c go k := by
  obtain ⟨F, T, G, hr, hw, hc⟩ := h
  exact ⟨F, T, G, hr.otherB hg (fun a e h0 q => (hc a e h0).1 (Option.some.inj q)), hw, fun a e h0 => ⟨(hc a e h0).1, Nat.lt_of_lt_of_le (hc a e h0).2 hg.size⟩⟩
theorem AOwnE.arcsE {w : World} {c : Nat} {go : Option Addr} {k gc : Nat} (h : AOwnE w (c + 1) go k gc) : ArcsE w c go k := by
  obtain ⟨F, T, G, hr, hw, _⟩ := h.rowW
  exact ⟨F, T, G, hr, hw, fun a e h0 => by have := h.at (x := a.block) (by simp [e, Value.ownBlock]); omega⟩
set_option maxRecDepth 100000 in
set_option maxHeartbeats 2000000 in
theorem l8Draw_any (base c : Nat) (ao : Option Addr) (n cap : Nat) (p : Int) (go : Option Addr) (k gc : Nat) (hk : k ≤ 200) (w : World) (hC : CurAt w base c ao n cap) (hO : ArcsE w c go k) :
    Calls Tryz.prog 50 #[.pointer (some ⟨c, 0, none⟩), .agg #[.int .i64 p, .slice go k gc]] w fun e w' => ∃ (K : Int) (xo : Option Addr) (m xc : Nat) (a b : Int), e = .returned (.agg #[.int .i64 K, .slice xo m xc, .int .i64 a, .int .i64 b]) ∧ (K = 1 ∨ K = 2 ∨ K = 3) ∧ m ≤ 4 ∧ AOwnE w' w.heap.size xo m xc ∧ CurAt w' base c ao n cap ∧ w.grownBy w' (some c) := by
  have hcl := hC.lt
  have hal : Below w.heap.size w ((w.alloc (.cells #[.int .i64 p, .slice go k gc] 26)).alloc (.cells #[.int .i64 0, .slice none 0 0, .int .i64 0, .int .i64 0] 35)) := ((Below.refl _ _).alloc nl _).alloc (by simp) _
  have v0 : VHas ((w.alloc (.cells #[.int .i64 p, .slice go k gc] 26)).alloc (.cells #[.int .i64 0, .slice none 0 0, .int .i64 0, .int .i64 0] 35)) (w.heap.size + 1) 35 4 (c4 (.int .i64 0) (.slice none 0 0) (.int .i64 0) (.int .i64 0)) := by
    have := c4_new (w.alloc (.cells #[.int .i64 p, .slice go k gc] 26)) (.int .i64 0) (.slice none 0 0) (.int .i64 0) (.int .i64 0) 35
    rwa [World.size_alloc] at this
  have g0 : ((w.alloc (.cells #[.int .i64 p, .slice go k gc] 26)).alloc (.cells #[.int .i64 0, .slice none 0 0, .int .i64 0, .int .i64 0] 35)).cell? ⟨w.heap.size, 0, none⟩ = some (.int .i64 p) := by simp [go_sem]
  have g1 : ((w.alloc (.cells #[.int .i64 p, .slice go k gc] 26)).alloc (.cells #[.int .i64 0, .slice none 0 0, .int .i64 0, .int .i64 0] 35)).cell? ⟨w.heap.size, 1, none⟩ = some (.slice go k gc) := by simp [go_sem]
  have hgr0 : w.grownBy ((w.alloc (.cells #[.int .i64 p, .slice go k gc] 26)).alloc (.cells #[.int .i64 0, .slice none 0 0, .int .i64 0, .int .i64 0] 35)) (some c) := ⟨hal.os, hal.tape, hal.output, hal.size, fun k hk _ => hal.block k hk⟩
  have hC0 := hC.next hal
  have hO0 := hO.next hal
  go_enter Tryz.func50, Tryz.ntmps50
  go_wp2_with fail
  generalize ((w.alloc (.cells #[.int .i64 p, .slice go k gc] 26)).alloc (.cells #[.int .i64 0, .slice none 0 0, .int .i64 0, .int .i64 0] 35)) = w0 at hal v0 g0 g1 hgr0 hC0 hO0 ⊢
  refine (l1Below_any base c ao n cap 6 (by omega) (by omega) _ hC0).mono ?_
  rintro e w1 ⟨x, rfl, hx, hC1, hg1⟩
  have v1 := v0.grown hg1 (by simp; omega)
  have g01 := hg1.cell g0 (by simp; omega)
  have g11 := hg1.cell g1 (by simp; omega)
  have hgr1 := hgr0.trans hg1
  have hO1 := hO0.grown hg1
  have r0 : w1.cell? ⟨w.heap.size + 1, 0, none⟩ = some (.int .i64 0) := v1.cell (j := 0) (by omega)
  have r1 : w1.cell? ⟨w.heap.size + 1, 1, none⟩ = some (.slice none 0 0) := v1.cell (j := 1) (by omega)
  have r2 : w1.cell? ⟨w.heap.size + 1, 2, none⟩ = some (.int .i64 0) := v1.cell (j := 2) (by omega)
  have r3 : w1.cell? ⟨w.heap.size + 1, 3, none⟩ = some (.int .i64 0) := v1.cell (j := 3) (by omega)
  obtain ⟨z0, z1, z2, z3⟩ := v1.z4
  clear hC0 hO0 v0 g0 g1 hgr0 hal hg1
  have hcase : x = 0 ∨ (x = 1 ∨ x = 2) ∨ 3 ≤ x := by omega
  rcases hcase with rfl | hx12 | hx3
  · go_wp2
    obtain ⟨s0, s1, s2, s3⟩ := st4 v1 (.int .i64 1) (.slice none 0 0) (.int .i64 0) (.int .i64 0)
    have hB4 := st4_belowR (w := w) w1 (b := w.heap.size + 1) (by omega) (.int .i64 1) (.slice none 0 0) (.int .i64 0) (.int .i64 0)
    exact bodyPost_ret (v := .agg #[.int .i64 1, .slice none 0 0, .int .i64 0, .int .i64 0]) (by simp [results, Tryz.results50, go_sem, s0, s1, s2, s3]) rfl ⟨_, _, _, _, _, _, rfl, by omega, by omega, aown_nil _ _, hC1.keepB hB4 hcl, grB_then hgr1 hB4 nl⟩
  · obtain ⟨F, T, G, hrow, hwf, hgc⟩ := hO1
    have hdr := fun W hC hr hgc => l1DrawArcs_any base c ao n cap p go k gc F T G (by omega) hwf W hC hr hgc
    clear r0 r1 r2 r3 z0 z1 z2 z3
    rcases hx12 with rfl | rfl
    · go_wp2_with fail
      refine (hdr w1 hC1 hrow hgc).mono ?_
      rintro e w2 ⟨xo, m, xc, rfl, hm, hO2, hC2, hg2⟩
      have v2 := v1.grown hg2 (by simp; omega)
      have hgr2 := hgr1.trans hg2
      clear hdr hrow hgc hwf
      have hal2 : Below w.heap.size w2 (w2.alloc (.cells #[.int .i64 2, .slice xo m xc, .int .i64 0, .int .i64 0] 35)) := (Below.refl _ _).alloc (by have := hgr2.size; omega) _
      have v3 := v2.alloc (.cells #[.int .i64 2, .slice xo m xc, .int .i64 0, .int .i64 0] 35)
      have hC3 := hC2.next ((Below.refl _ w2).alloc nl (.cells #[.int .i64 2, .slice xo m xc, .int .i64 0, .int .i64 0] 35))
      have hgr3 := grB_then hgr2 hal2 nl
      have hlt1 := v1.lt
      have hO2' := hO2.next ((Below.refl _ w2).alloc nl (.cells #[.int .i64 2, .slice xo m xc, .int .i64 0, .int .i64 0] 35))
      have hm0 : m = 0 ∨ 0 < m := by omega
      rcases hm0 with rfl | hm0
      · go_wp2_with fail
        refine (l1Below_any base c ao n cap 9 (by omega) (by omega) _ hC3).mono ?_
        rintro e w7 ⟨ya, rfl, hya, hC7, hg7⟩
        have v7 := v3.grown hg7 (by simp; omega)
        have hgr7 := hgr3.trans hg7
        go_wp2_with fail
        refine (l1Below_any base c ao n cap 9 (by omega) (by omega) _ hC7).mono ?_
        rintro e w8 ⟨yb, rfl, hyb, hC8, hg8⟩
        have v8 := v7.grown hg8 (by simp; omega)
        have hgr8 := hgr7.trans hg8
        obtain ⟨r0, r1, r2, r3⟩ := v8.c4
        obtain ⟨z0, z1, z2, z3⟩ := v8.z4
        go_wp2
        obtain ⟨s0, s1, s2, s3⟩ := st4 v8 (.int .i64 3) (.slice none 0 0) (.int .i64 (ya : Int)) (.int .i64 (yb : Int))
        have hB4 := st4_belowR (w := w) w8 (b := w.heap.size + 1) (by omega) (.int .i64 3) (.slice none 0 0) (.int .i64 (ya : Int)) (.int .i64 (yb : Int))
        exact bodyPost_ret (v := .agg #[.int .i64 3, .slice none 0 0, .int .i64 (ya : Int), .int .i64 (yb : Int)]) (by simp [results, Tryz.results50, go_sem, s0, s1, s2, s3]) rfl ⟨_, _, _, _, _, _, rfl, by omega, by omega, aown_nil _ _, hC8.keepB hB4 hcl, grB_then hgr8 hB4 nl⟩
      · have r0 := v3.cell (j := 0) (by omega)
        have r1 := v3.cell (j := 1) (by omega)
        have r2 := v3.cell (j := 2) (by omega)
        have r3 := v3.cell (j := 3) (by omega)
        obtain ⟨z0, z1, z2, z3⟩ := v3.z4
        have hO5 := ((((hO2'.grown (gr_setCell _ (w.heap.size + 1) 0 (.int .i64 2)) (by omega)).grown (gr_setCell _ (w.heap.size + 1) 1 (.slice xo m xc)) (by omega)).grown (gr_setCell _ (w.heap.size + 1) 2 (.int .i64 0)) (by omega)).grown (gr_setCell _ (w.heap.size + 1) 3 (.int .i64 0)) (by omega)).from (base' := w.heap.size) (by omega)
        go_wp2
        obtain ⟨s0, s1, s2, s3⟩ := st4 v3 (.int .i64 2) (.slice xo m xc) (.int .i64 0) (.int .i64 0)
        have hB4 := st4_belowR (w := w) (w2.alloc (.cells #[.int .i64 2, .slice xo m xc, .int .i64 0, .int .i64 0] 35)) (b := w.heap.size + 1) (by omega) (.int .i64 2) (.slice xo m xc) (.int .i64 0) (.int .i64 0)
        exact bodyPost_ret (v := .agg #[.int .i64 2, .slice xo m xc, .int .i64 0, .int .i64 0]) (by simp [results, Tryz.results50, go_sem, s0, s1, s2, s3]) rfl ⟨_, _, _, _, _, _, rfl, by omega, by omega, hO5, hC3.keepB hB4 hcl, grB_then hgr3 hB4 nl⟩
    · go_wp2_with fail
      refine (hdr w1 hC1 hrow hgc).mono ?_
      rintro e w2 ⟨xo, m, xc, rfl, hm, hO2, hC2, hg2⟩
      have v2 := v1.grown hg2 (by simp; omega)
      have hgr2 := hgr1.trans hg2
      clear hdr hrow hgc hwf
      have hal2 : Below w.heap.size w2 (w2.alloc (.cells #[.int .i64 2, .slice xo m xc, .int .i64 0, .int .i64 0] 35)) := (Below.refl _ _).alloc (by have := hgr2.size; omega) _
      have v3 := v2.alloc (.cells #[.int .i64 2, .slice xo m xc, .int .i64 0, .int .i64 0] 35)
      have hC3 := hC2.next ((Below.refl _ w2).alloc nl (.cells #[.int .i64 2, .slice xo m xc, .int .i64 0, .int .i64 0] 35))
      have hgr3 := grB_then hgr2 hal2 nl
      have hlt1 := v1.lt
      have hO2' := hO2.next ((Below.refl _ w2).alloc nl (.cells #[.int .i64 2, .slice xo m xc, .int .i64 0, .int .i64 0] 35))
      have hm0 : m = 0 ∨ 0 < m := by omega
      rcases hm0 with rfl | hm0
      · go_wp2_with fail
        refine (l1Below_any base c ao n cap 9 (by omega) (by omega) _ hC3).mono ?_
        rintro e w7 ⟨ya, rfl, hya, hC7, hg7⟩
        have v7 := v3.grown hg7 (by simp; omega)
        have hgr7 := hgr3.trans hg7
        go_wp2_with fail
        refine (l1Below_any base c ao n cap 9 (by omega) (by omega) _ hC7).mono ?_
        rintro e w8 ⟨yb, rfl, hyb, hC8, hg8⟩
        have v8 := v7.grown hg8 (by simp; omega)
        have hgr8 := hgr7.trans hg8
        obtain ⟨r0, r1, r2, r3⟩ := v8.c4
        obtain ⟨z0, z1, z2, z3⟩ := v8.z4
        go_wp2
        obtain ⟨s0, s1, s2, s3⟩ := st4 v8 (.int .i64 3) (.slice none 0 0) (.int .i64 (ya : Int)) (.int .i64 (yb : Int))
        have hB4 := st4_belowR (w := w) w8 (b := w.heap.size + 1) (by omega) (.int .i64 3) (.slice none 0 0) (.int .i64 (ya : Int)) (.int .i64 (yb : Int))
        exact bodyPost_ret (v := .agg #[.int .i64 3, .slice none 0 0, .int .i64 (ya : Int), .int .i64 (yb : Int)]) (by simp [results, Tryz.results50, go_sem, s0, s1, s2, s3]) rfl ⟨_, _, _, _, _, _, rfl, by omega, by omega, aown_nil _ _, hC8.keepB hB4 hcl, grB_then hgr8 hB4 nl⟩
      · have r0 := v3.cell (j := 0) (by omega)
        have r1 := v3.cell (j := 1) (by omega)
        have r2 := v3.cell (j := 2) (by omega)
        have r3 := v3.cell (j := 3) (by omega)
        obtain ⟨z0, z1, z2, z3⟩ := v3.z4
        have hO5 := ((((hO2'.grown (gr_setCell _ (w.heap.size + 1) 0 (.int .i64 2)) (by omega)).grown (gr_setCell _ (w.heap.size + 1) 1 (.slice xo m xc)) (by omega)).grown (gr_setCell _ (w.heap.size + 1) 2 (.int .i64 0)) (by omega)).grown (gr_setCell _ (w.heap.size + 1) 3 (.int .i64 0)) (by omega)).from (base' := w.heap.size) (by omega)
        go_wp2
        obtain ⟨s0, s1, s2, s3⟩ := st4 v3 (.int .i64 2) (.slice xo m xc) (.int .i64 0) (.int .i64 0)
        have hB4 := st4_belowR (w := w) (w2.alloc (.cells #[.int .i64 2, .slice xo m xc, .int .i64 0, .int .i64 0] 35)) (b := w.heap.size + 1) (by omega) (.int .i64 2) (.slice xo m xc) (.int .i64 0) (.int .i64 0)
        exact bodyPost_ret (v := .agg #[.int .i64 2, .slice xo m xc, .int .i64 0, .int .i64 0]) (by simp [results, Tryz.results50, go_sem, s0, s1, s2, s3]) rfl ⟨_, _, _, _, _, _, rfl, by omega, by omega, hO5, hC3.keepB hB4 hcl, grB_then hgr3 hB4 nl⟩
  · have h1 : ¬ (x : Int) = 0 := by omega
    have h2 : ¬ (x : Int) = 1 := by omega
    have h3 : ¬ (x : Int) = 2 := by omega
    clear r0 r1 r2 r3 z0 z1 z2 z3
    go_wp2_with fail
    refine (l1Below_any base c ao n cap 9 (by omega) (by omega) _ hC1).mono ?_
    rintro e w7 ⟨ya, rfl, hya, hC7, hg7⟩
    have v7 := v1.grown hg7 (by simp; omega)
    have hgr7 := hgr1.trans hg7
    go_wp2_with fail
    refine (l1Below_any base c ao n cap 9 (by omega) (by omega) _ hC7).mono ?_
    rintro e w8 ⟨yb, rfl, hyb, hC8, hg8⟩
    have v8 := v7.grown hg8 (by simp; omega)
    have hgr8 := hgr7.trans hg8
    obtain ⟨r0, r1, r2, r3⟩ := v8.c4
    obtain ⟨z0, z1, z2, z3⟩ := v8.z4
    go_wp2
    obtain ⟨s0, s1, s2, s3⟩ := st4 v8 (.int .i64 3) (.slice none 0 0) (.int .i64 (ya : Int)) (.int .i64 (yb : Int))
    have hB4 := st4_belowR (w := w) w8 (b := w.heap.size + 1) (by omega) (.int .i64 3) (.slice none 0 0) (.int .i64 (ya : Int)) (.int .i64 (yb : Int))
    exact bodyPost_ret (v := .agg #[.int .i64 3, .slice none 0 0, .int .i64 (ya : Int), .int .i64 (yb : Int)]) (by simp [results, Tryz.results50, go_sem, s0, s1, s2, s3]) rfl ⟨_, _, _, _, _, _, rfl, by omega, by omega, aown_nil _ _, hC8.keepB hB4 hcl, grB_then hgr8 hB4 nl⟩
end
end Go.Proofs.YthmpliljffmmcaaGreatDoor
