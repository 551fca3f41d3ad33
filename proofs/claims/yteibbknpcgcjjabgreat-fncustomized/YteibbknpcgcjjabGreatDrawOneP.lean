/-
  The document's l1Draw: some map comes.
-/
import Derived.Test.YteibbknpcgcjjabGreatPack4
set_option linter.unusedVariables false
set_option linter.unusedSimpArgs false
namespace Go.Proofs.YteibbknpcgcjjabGreat
open Go.RowKit Go.Maps
attribute [local go_sem ↓] Go.wp_at_zero Go.wp_at_succ

set_option maxRecDepth 100000 in
set_option maxHeartbeats 4000000 in
theorem l1Draw_any (base c : Nat) (ao : Option Addr) (n cap : Nat) (w : World) (hC : CurAt w base c ao n cap) :
    Calls Tryz.prog 124 #[.pointer (some ⟨c, 0, none⟩)] w fun e w' => ∃ (p : Nat) (go : Option Addr) (k gc : Nat), e = .returned (.agg #[.int .i64 (p : Int), .slice go k gc]) ∧ (1 ≤ p ∧ p ≤ 9) ∧ k ≤ 81 ∧ AOwnE w' w.heap.size go k gc ∧ CurAt w' base c ao n cap ∧ w.grownBy w' (some c) := by
  have hcl := hC.lt
  have hC0 := hC.next ((Below.refl _ w).alloc (Nat.le_refl _) (.cells #[.int .i64 0, .slice none 0 0] 26))
  go_enter Tryz.func124, Tryz.ntmps124
  go_wp2_with fail
  refine (l1Below_any base c ao n cap 9 (by omega) (by omega) _ hC0).mono ?_
  rintro e w1 ⟨x, rfl, hx, hC1, hg1⟩
  have hrb1 := (gr_new w 0 (.slice none 0 0)).grown hg1 (by simp; omega)
  have hs1 := hrb1.lt
  have hD1 : DS w base c ao n cap w.heap.size w1.heap.size ((x + 1 : Nat) : Int) none 0 0 (w1.alloc (.cells #[.int .i64 ((x + 1 : Nat) : Int), .slice none 0 0] 26)) :=
    ⟨hC1.next ((Below.refl _ w1).alloc (Nat.le_refl _) _), gr_new w1 _ _, aown_nil _ _, (fun a e => by cases e), hrb1.alloc _, ((World.grownBy_alloc w _ _).trans hg1).trans (World.grownBy_alloc w1 _ _)⟩
  have hx9 : x + 1 ≤ 9 := by omega
  have hx1 : 1 ≤ x + 1 := by omega
  go_wp2_with fail
  have hp : (1 + (x : Int)) = ((x + 1 : Nat) : Int) := by omega
  rw [hp]
  clear hp
  generalize x + 1 = p at hD1 hx9 hx1 ⊢
  refine (l1Below_any base c ao n cap 5 (by omega) (by omega) _ hD1.cur).mono ?_
  rintro e w2 ⟨y, rfl, hy, hC2, hg2⟩
  have hD2 := hD1.step ⟨hcl, hs1⟩ hC2 hg2
  clear hD1 hC2 hg2 hC1 hg1 hrb1
  obtain ⟨gb, hgb⟩ : ∃ gb, w1.heap.size = gb := ⟨_, rfl⟩
  rw [hgb] at hD2 hs1 ⊢
  clear hgb
  obtain ⟨i0, hi0, hz0, hz1, hz2⟩ := info_parts Tryz.infoArc
  have hgw : w.heap.size ≤ gb := by omega
  go_wp2_with fail
  go_loopw [5] (fun x wr => ∃ (a k gc : Nat) (go : Option Addr), a ≤ p ∧ k ≤ 9 * a ∧ x = .int .i64 a ∧ DS w base c ao n cap w.heap.size gb p go k gc wr) (fun x _ => p - (intOf x).toNat)
  case atStart => exact ⟨0, 0, 0, none, Nat.zero_le _, Nat.zero_le _, rfl, hD2⟩
  case round =>
    clear hD2
    obtain ⟨a, k, gc, go, ha, hk, rfl, hD⟩ := hrel
    have b0 : wr.cell? ⟨gb, 0, none⟩ = some (.int .i64 (p : Int)) := hD.box.cell (j := 0) (by omega)
    have b1 : wr.cell? ⟨gb, 1, none⟩ = some (.slice go k gc) := hD.box.cell (j := 1) (by omega)
    by_cases hlt : a < p
    rotate_left
    · have hap : a = p := by omega
      subst hap
      have r0 : wr.cell? ⟨w.heap.size, 0, none⟩ = some (.int .i64 0) := hD.res.cell (j := 0) (by omega)
      have r1 : wr.cell? ⟨w.heap.size, 1, none⟩ = some (.slice none 0 0) := hD.res.cell (j := 1) (by omega)
      have z0 := hD.res.frozen 0
      have z1 := hD.res.frozen 1
      obtain ⟨q0, q1, q2⟩ := res_cells hD.res (a : Int) (.slice go k gc)
      obtain ⟨o1, o2, o3⟩ := hD.out ⟨⟨hcl, hs1⟩, Nat.le_refl _⟩ (.int .i64 (a : Int)) (.slice go k gc)
      go_wp2
      simp [bodyPost, results, Tryz.results124, go_sem, q0, q1, q2]
      exact ⟨a, go, k, gc, ⟨rfl, rfl, rfl, rfl⟩, ⟨hx1, hx9⟩, by omega, o1, o2, o3⟩
    have hlt' : (a : Int) < (p : Int) := by omega
    go_wp2
    go_loopw [6] (fun x wr2 => ∃ (b k gc : Nat) (go : Option Addr), b ≤ p ∧ k ≤ 9 * a + b ∧ x = .int .i64 b ∧ DS w base c ao n cap w.heap.size gb p go k gc wr2) (fun x _ => p - (intOf x).toNat)
    case atStart => exact ⟨0, k, gc, go, Nat.zero_le _, by omega, rfl, hD⟩
    case round =>
      clear hD b0 b1 hk k gc go
      obtain ⟨b, k, gc, go, hb, hk, rfl, hD⟩ := hrel
      have b0 : wr.cell? ⟨gb, 0, none⟩ = some (.int .i64 (p : Int)) := hD.box.cell (j := 0) (by omega)
      by_cases hltb : b < p
      rotate_left
      · have hbp : b = p := by omega
        subst hbp
        go_wp2
        go_roundw
        case rel => exact ⟨a + 1, k, gc, go, by omega, by omega, by go_num, hD⟩
        case measure => simp [intOf]; omega
      have hltb' : (b : Int) < (p : Int) := by omega
      by_cases hab : a = b
      · subst hab
        go_wp2
        go_roundw
        case rel => exact ⟨a + 1, k, gc, go, by omega, by omega, by go_num, hD⟩
        case measure => simp [intOf]; omega
      have hab' : ¬ (a : Int) = (b : Int) := by omega
      by_cases hba : b = a + 1
      · subst hba
        clear hab hab' hltb'
        have hltb2 : (a : Int) + 1 < (p : Int) := by omega
        have hab2 : ¬ (a : Int) = (a : Int) + 1 := by omega
        have hab3 : ((a : Int) != (a : Int) + 1) = true := by rw [bne_iff_ne]; omega
        go_wp2_with fail
        refine (l1Once_any base c ao n cap _ (by omega) (by omega) _ hD.cur).mono ?_
        rintro e w9 ⟨bx, rfl, hC9, hg9⟩
        have hD9 := hD.step ⟨hcl, hs1⟩ hC9 hg9
        clear hC9 hg9 hD b0
        cases bx
        · go_wp2_with fail
          refine (l1Once_any base c ao n cap _ (by omega) (by omega) _ hD9.cur).mono ?_
          rintro e w10 ⟨bx, rfl, hC10, hg10⟩
          have hD10 := hD9.step ⟨hcl, hs1⟩ hC10 hg10
          clear hC10 hg10 hD9
          cases bx
          · skip
            have b1 : w10.cell? ⟨gb, 1, none⟩ = some (.slice go k gc) := hD10.box.cell (j := 1) (by omega)
            have hDd := hD10.next (Below.refl _ w10).drew
            clear hD10
            go_wp2
            go_region_law (first | (go_simp; go_at_call 64; refine (l1Below_any base c ao n cap 20 (by omega) (by omega) _ hDd.cur).mono ?_; rintro e w5 ⟨zz, rfl, hzz, hC5, hg5⟩; have hD5 := hDd.step ⟨hcl, hs1⟩ hC5 hg5; have b5 : w5.cell? ⟨gb, 1, none⟩ = some (.slice go k gc) := hD5.box.cell (j := 1) (by omega); have hl5 := hD5.box.lt) | (refine step_append_arc ?_ (.tmp 47) (.tmp 54) ?_ (w.heap.size + 1) k gc go ?_ (hD5.own.next ((Below.refl _ _).alloc (Nat.le_refl _) _)) w5.heap.size ?_ _ _ _ (Go.Deep.blk_alloc_new _ _) (by omega) (by have := hD5.box.lt; simp; omega) (by first | exact wfA (by omega) | exact wf_wrap _) (by first | exact wfA (by omega) | exact wf_wrap _) (by first | exact wfA (by omega) | exact wf_wrap _) ?_; rfl; rfl; rfl; rfl; intro g' gc' w6 hown6 hgrow hr6; have hbx6 := (hD5.box.alloc _).grown hgrow (fun e => (hD5.row e.symm).2 rfl); have hb6 : w6.cell? ⟨gb, 1, none⟩ = some (.slice go k gc) := hbx6.cell (j := 1) (by omega); have hz6 := hbx6.frozen 1))
            all_goals
              have R := (hD5.next ((Below.refl _ _).alloc (Nat.le_refl _) _)).appended ⟨⟨hcl, hs1⟩, Nat.le_refl _⟩ hgrow hown6 hr6
              clear hbx6 hb6 hz6 hD5 hgrow hDd hown6 hC5 hg5
              go_wp2
              go_roundw
              case rel => exact ⟨a + 1 + 1, k + 1, gc', _, by omega, by omega, by go_num, R⟩
              case measure => simp [intOf]; omega
          · go_wp2
            go_roundw
            case rel => exact ⟨a + 1 + 1, k, gc, go, by omega, by omega, by go_num, hD10⟩
            case measure => simp [intOf]; omega
        · skip
          have b1 : w9.cell? ⟨gb, 1, none⟩ = some (.slice go k gc) := hD9.box.cell (j := 1) (by omega)
          have hDd := hD9.next (Below.refl _ w9).drew
          clear hD9
          go_wp2
          go_region_law (first | (go_simp; go_at_call 64; refine (l1Below_any base c ao n cap 20 (by omega) (by omega) _ hDd.cur).mono ?_; rintro e w5 ⟨zz, rfl, hzz, hC5, hg5⟩; have hD5 := hDd.step ⟨hcl, hs1⟩ hC5 hg5; have b5 : w5.cell? ⟨gb, 1, none⟩ = some (.slice go k gc) := hD5.box.cell (j := 1) (by omega); have hl5 := hD5.box.lt) | (refine step_append_arc ?_ (.tmp 47) (.tmp 54) ?_ (w.heap.size + 1) k gc go ?_ (hD5.own.next ((Below.refl _ _).alloc (Nat.le_refl _) _)) w5.heap.size ?_ _ _ _ (Go.Deep.blk_alloc_new _ _) (by omega) (by have := hD5.box.lt; simp; omega) (by first | exact wfA (by omega) | exact wf_wrap _) (by first | exact wfA (by omega) | exact wf_wrap _) (by first | exact wfA (by omega) | exact wf_wrap _) ?_; rfl; rfl; rfl; rfl; intro g' gc' w6 hown6 hgrow hr6; have hbx6 := (hD5.box.alloc _).grown hgrow (fun e => (hD5.row e.symm).2 rfl); have hb6 : w6.cell? ⟨gb, 1, none⟩ = some (.slice go k gc) := hbx6.cell (j := 1) (by omega); have hz6 := hbx6.frozen 1))
          all_goals
            have R := (hD5.next ((Below.refl _ _).alloc (Nat.le_refl _) _)).appended ⟨⟨hcl, hs1⟩, Nat.le_refl _⟩ hgrow hown6 hr6
            clear hbx6 hb6 hz6 hD5 hgrow hDd hown6 hC5 hg5
            go_wp2
            go_roundw
            case rel => exact ⟨a + 1 + 1, k + 1, gc', _, by omega, by omega, by go_num, R⟩
            case measure => simp [intOf]; omega
      · have hba2 : ¬ (b : Int) = (a : Int) + 1 := by omega
        have hab3 : ((a : Int) != (b : Int)) = true := by rw [bne_iff_ne]; omega
        go_wp2_with fail
        refine (l1Once_any base c ao n cap _ (by omega) (by omega) _ hD.cur).mono ?_
        rintro e w9 ⟨bx, rfl, hC9, hg9⟩
        have hD9 := hD.step ⟨hcl, hs1⟩ hC9 hg9
        clear hC9 hg9 hD b0
        cases bx
        · go_wp2
          go_roundw
          case rel => exact ⟨b + 1, k, gc, go, by omega, by omega, by go_num, hD9⟩
          case measure => simp [intOf]; omega
        · skip
          have b1 : w9.cell? ⟨gb, 1, none⟩ = some (.slice go k gc) := hD9.box.cell (j := 1) (by omega)
          have hDd := hD9.next (Below.refl _ w9).drew
          clear hD9
          go_wp2
          go_region_law (first | (go_simp; go_at_call 64; refine (l1Below_any base c ao n cap 20 (by omega) (by omega) _ hDd.cur).mono ?_; rintro e w5 ⟨zz, rfl, hzz, hC5, hg5⟩; have hD5 := hDd.step ⟨hcl, hs1⟩ hC5 hg5; have b5 : w5.cell? ⟨gb, 1, none⟩ = some (.slice go k gc) := hD5.box.cell (j := 1) (by omega); have hl5 := hD5.box.lt) | (refine step_append_arc ?_ (.tmp 47) (.tmp 54) ?_ (w.heap.size + 1) k gc go ?_ (hD5.own.next ((Below.refl _ _).alloc (Nat.le_refl _) _)) w5.heap.size ?_ _ _ _ (Go.Deep.blk_alloc_new _ _) (by omega) (by have := hD5.box.lt; simp; omega) (by first | exact wfA (by omega) | exact wf_wrap _) (by first | exact wfA (by omega) | exact wf_wrap _) (by first | exact wfA (by omega) | exact wf_wrap _) ?_; rfl; rfl; rfl; rfl; intro g' gc' w6 hown6 hgrow hr6; have hbx6 := (hD5.box.alloc _).grown hgrow (fun e => (hD5.row e.symm).2 rfl); have hb6 : w6.cell? ⟨gb, 1, none⟩ = some (.slice go k gc) := hbx6.cell (j := 1) (by omega); have hz6 := hbx6.frozen 1))
          all_goals
            have R := (hD5.next ((Below.refl _ _).alloc (Nat.le_refl _) _)).appended ⟨⟨hcl, hs1⟩, Nat.le_refl _⟩ hgrow hown6 hr6
            clear hbx6 hb6 hz6 hD5 hgrow hDd hown6 hC5 hg5
            go_wp2
            go_roundw
            case rel => exact ⟨b + 1, k + 1, gc', _, by omega, by omega, by go_num, R⟩
            case measure => simp [intOf]; omega

end Go.Proofs.YteibbknpcgcjjabGreat
