/-
  The program's WeightOf answers what the document's does.
-/
import Derived.Test.YthcgibpiogmmdaaWeighSpec
set_option linter.unusedVariables false
set_option linter.unusedSimpArgs false
namespace Go.Proofs.Ythcgibpiogmmdaa
open Go.RowKit Go.Maps

set_option maxHeartbeats 1000000 in
theorem implWeightOf_any (p : Int) (ao : Option Addr) (n cap : Nat) (F T G : Nat → Int) (a c : Int) (ha : (Lit.int .i64 a).wf = true) (hc : (Lit.int .i64 c).wf = true) (hn : n ≤ 1048576) (w : World) (hr : Row w ao n F T G) :
    Calls Try.prog 13 #[.agg #[.int .i64 p, .slice ao n cap], .int .i64 a, .int .i64 c] w fun e w' => e = .returned (.int .i64 (wOf p n F T G a c)) ∧ Below w.heap.size w w' := by
  rcases Bool.eq_false_or_eq_true (graphB p n F T G) with h | h
  rotate_left
  · go_enter Try.func13, Try.ntmps13
    go_wp2_with (first | (go_at_call 15; refine (implGraphOk_any p ao n cap F T G hn _ (hr.alloc _)).mono ?_; rintro e w1 ⟨rfl, hb1⟩))
    go_ret
    exact ⟨ret_i64 (by simp [wOf, h]), unbox hb1 (by simp)⟩
  have harcs := (graphB_arcs h).2
  have hwf := wf_small (graphB_p h) harcs
  have hkey := key_ends a c ha hc
  have HW : Hid (wOf p n F T G a c = lastW F T G a c n) := by show wOf p n F T G a c = lastW F T G a c n; simp [wOf, h]
  have HA : Hid (arcsB p F T G n = true) := harcs
  clear harcs
  rcases nums_look F T a c ha hc n hwf with ⟨l1, l2⟩ | ⟨k, hk, l1, l2, l3, l4⟩
  · have L2 : Hid (∀ k, k < n → ¬ (F k = a ∧ T k = c)) := l2
    clear l2
    go_enter Try.func13, Try.ntmps13
    go_wp2_with (first | (go_at_call 15; refine (implGraphOk_any p ao n cap F T G hn _ (hr.alloc _)).mono ?_; rintro e w1 ⟨rfl, hb1⟩; obtain ⟨hcc, hff⟩ := bcell hb1) | (go_at_call 45; refine (arcNumbers_any p ao n cap F T G hn hwf _ ((hr.alloc _).below hb1 (Nat.le_refl _))).mono ?_; rintro e w2 ⟨rfl, hown, hb2⟩) | (at_lookup; refine wpList_lookup_own_ok_int _ rfl _ _ 63 rfl 67 3 .i64 Try.keyLaw Try.underlying63 Try.underlying3 (Try.mapZero _) _ n _ rfl hown _ _ rfl hkey ?_; intro cc hat hwc))
    go_ret
    exact ⟨ret_i64 (by rw [HW.out, lastW_none n L2.out]), unbox (below_next hb1 (Nat.le_refl _) hb2) (by simp)⟩
  · have L4 : Hid ((nums F T n).atKey (kl a c) (.lit (.int .i64 0)) = .lit (.int .i64 (k : Int))) := l4
    have E1 : Hid (F k = a) := l1
    have E2 : Hid (T k = c) := l2
    clear l1 l2 l4
    obtain ⟨b, o, hao, c0, c1, c2⟩ := hr k hk
    subst hao
    go_enter Try.func13, Try.ntmps13
    go_wp2_with (first | (go_at_call 15; refine (implGraphOk_any p _ n cap F T G hn _ (hr.alloc _)).mono ?_; rintro e w1 ⟨rfl, hb1⟩; obtain ⟨hcc, hff⟩ := bcell hb1) | (go_at_call 45; refine (arcNumbers_any p _ n cap F T G hn hwf _ ((hr.alloc _).below hb1 (Nat.le_refl _))).mono ?_; rintro e w2 ⟨rfl, hown, hb2⟩; have hA := below_next (boxed hb1) (by simp) hb2; obtain ⟨x0, x1, xs⟩ := box2 hA; have y2 := keep_cell (unbox hA (by omega)) (Nat.le_refl _) c2) | (at_lookup; refine wpList_lookup_own_ok_int _ rfl _ _ 63 rfl 67 3 .i64 Try.keyLaw Try.underlying63 Try.underlying3 (Try.mapZero _) _ n _ rfl hown _ _ rfl hkey ?_; intro cc hat hwc; obtain rfl : cc = (k : Int) := by (rw [L4.out] at hat; simpa using hat.symm)))
    go_ret
    exact ⟨ret_i64 (by rw [HW.out, lastW_at n (fun j hj e1 e2 => unique HA.out hj hk (e1.trans E1.out.symm) (e2.trans E2.out.symm)) hk E1.out E2.out]), unbox hA (by omega)⟩

end Go.Proofs.Ythcgibpiogmmdaa
