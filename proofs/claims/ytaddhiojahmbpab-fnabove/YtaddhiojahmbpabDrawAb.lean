/-
  The document's draw of edges and a rank.
-/
import Derived.Test.YtaddhiojahmbpabDrawEd
import Derived.Test.YtaddhiojahmbpabDrawEd2
import Derived.Test.YtaddhiojahmbpabDrawPl
set_option linter.unusedVariables false
set_option linter.unusedSimpArgs false
namespace Go.Proofs.Ytaddhiojahmbpab
open Go.ChangeShapes Go.WideShapes Go.ChangeAt Go.RowKit Go.Deep Go.Joins
attribute [local go_sem ↓] Go.wp_at_zero Go.wp_at_succ

theorem drawAbove_any (ao : Option Addr) (n cap : Nat) (hn : n ≤ 4096) (w : World) (hr : ByRow w w.heap.size ao n) :
    Calls Try.prog 5 #[.slice ao n cap] w fun e w' => ∃ (g ec : Nat) (l : List (Int × Int)) (x y : Int), e = .returned (.tuple #[.slice (some ⟨g, 0, none⟩) l.length ec, .int .i64 x, .int .i64 y]) ∧ l.length ≤ 300 ∧ ERow w' (some ⟨g, 0, none⟩) l.length (Lf l) (Hf l) ∧ Below w.heap.size w w' := by
  go_enter Try.func5, Try.ntmps5
  go_wp2_with fail
  refine (l1New_any ao n cap hn _ hr).mono ?_
  rintro e w1 ⟨c, rfl, hC1, hb1⟩
  have hcg := hC1.ge
  have hcl := hC1.lt
  go_wp2_with fail
  refine (l4Draw_any _ c ao n cap _ hC1).mono ?_
  rintro e w2 ⟨g, ec, l, x, rfl, hl, hE⟩
  have hb2 : Below w.heap.size w w2 := hb1.trans (gr_below hE.gr hcg hb1.size)
  clear hC1 hb1
  go_wp2_with fail
  refine (l1DrawPlace_any _ c ao n cap _ hE.cur).mono ?_
  rintro e w3 ⟨y, rfl, hC3, hg3⟩
  have hE3 := hE.step hcl hC3 hg3
  have hb3 : Below w.heap.size w w3 := hb2.trans (gr_below hg3 hcg hb2.size)
  have hrow := hE3.own.has.row
  clear hE hC3 hE3
  go_wp2
  exact bodyPost_ret (v := .tuple #[.slice (some ⟨g, 0, none⟩) l.length ec, .int .i64 x, .int .i64 y]) (by simp [results, Try.results5, go_sem]) rfl ⟨g, ec, l, x, y, rfl, hl, hrow, hb3⟩

end Go.Proofs.Ytaddhiojahmbpab
