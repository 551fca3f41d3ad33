/-
  Parents, the program's. For every list of at most 2^20 edges.
-/
import Derived.Test.YtaddhiojahmbpabPar
set_option linter.unusedVariables false
set_option linter.unusedSimpArgs false
namespace Go.Proofs.Ytaddhiojahmbpab
open Go.RowKit
attribute [local go_sem ↓] Go.wp_at_zero Go.wp_at_succ

set_option maxHeartbeats 1600000 in
theorem implParents_any (p : Int) (ao : Option Addr) (n cap : Nat) (L H : Nat → Int) (hn : n ≤ 1048576) (w : World) (hr : ERow w ao n L H) :
    Calls Try.prog 15 #[.slice ao n cap, .int .i64 p] w fun e w' => Ans w w' e (lenP p n L H) (sp L H n n) := by
  rcases Bool.eq_false_or_eq_true (edgesB p n L H) with h | h
  rotate_left
  · have hL : lenP p n L H = 0 := by simp [lenP, h]
    rw [hL]
    go_enter Try.func15, Try.ntmps15
    go_wp2_with (go_at_call 29; refine (edgesOk_any p ao n cap L H hn _ hr).mono ?_; rintro e w1 ⟨rfl, hb1⟩)
    go_ret
    exact ⟨_, _, rfl, fun h => by omega, hb1.alloc (by have := hb1.size; omega) _⟩
  have hL : lenP p n L H = p.toNat := by simp [lenP, h]
  rw [hL]
  have h' : (1 ≤ p ∧ p ≤ 24) ∧ edB p L H n = true := by simpa [edgesB, inB] using h
  obtain ⟨⟨hp1, hp2⟩, hed⟩ := h'
  obtain ⟨m, rfl⟩ : ∃ m : Nat, p = (m : Int) := ⟨p.toNat, by omega⟩
  have HE : Hid (∀ k, k < n → edgeB (L k) (H k) m = true) := edB_at n hed
  have hm1 : 1 ≤ m := by omega
  have hm2 : m ≤ 24 := by omega
  clear hed hL
  simp only [Int.toNat_natCast]
  have hmk := make_ints m (by omega)
  go_enter Try.func15, Try.ntmps15
  go_wp2_with (go_at_call 29; refine (edgesOk_any m ao n cap L H hn _ hr).mono ?_; rintro e w1 ⟨rfl, hb1⟩)
  clear hmk
  have hM := made_ints w1 m
  have hs1 := hb1.size
  have hB1 := hb1.alloc (o := .cells (madeCells #[.int .i64 0] m) 2) hs1
  go_loopw [18] (fun i wr => ∃ k : Nat, k ≤ m ∧ i = .int .i64 k ∧ IHas wr w1.heap.size m (fun j => if j < k then -1 else 0) ∧ Below w.heap.size w wr) (fun i _ => m - (intOf i).toNat)
  case atStart => exact ⟨0, Nat.zero_le _, rfl, hM.congr (fun j _ => by simp), hB1⟩
  case round =>
    clear hM hB1
    obtain ⟨k, hk, rfl, hown, hbel⟩ := hrel
    by_cases hlt : k < m
    · have d0 := hown.cell hlt
      have z0 := hown.frozen k
      have R := hown.set k (-1)
      have S := hbel.setCell (p := ⟨w1.heap.size, k, none⟩) hs1 (.int .i64 (-1))
      clear hown
      go_wp2
      go_roundw
      case rel =>
        refine ⟨k + 1, by omega, by go_num, R.congr (fun j hj => ?_), S⟩
        by_cases e : j = k
        · subst e; simp
        · simp only [if_neg e]
          by_cases hl : j < k
          · rw [if_pos hl, if_pos (by omega)]
          · rw [if_neg hl, if_neg (by omega)]
      case measure => simp [intOf]; omega
    have hkn : k = m := by omega
    subst hkn
    have hown0 := hown.congr (g := pr L H 0) (fun j hj => by simp [pr, hj])
    clear hown
    go_wp2
    go_loopw [27] (fun i wq => ∃ y : Nat, y ≤ n ∧ i = .int .i64 y ∧ IHas wq w1.heap.size k (pr L H y) ∧ Below w.heap.size w wq) (fun i _ => n - (intOf i).toNat)
    case atStart => exact ⟨0, Nat.zero_le _, rfl, hown0, hbel⟩
    case round =>
      clear hown0 hbel
      obtain ⟨y, hy, rfl, hI, hbel⟩ := hrel
      by_cases hlt : y < n
      rotate_left
      · have hyn : y = n := by omega
        subst hyn
        have HI := hI.congr (g := sp L H y y) (fun j _ => pr_is_sp (fun k hk => by have := edgeB_in (HE.out k hk); omega) j)
        clear hI
        go_wp2
        go_ret
        exact ⟨_, _, rfl, fun _ => ⟨_, rfl, hs1, HI⟩, hbel⟩
      obtain ⟨b, o, hao, c0, c1⟩ := (hr.below hbel (Nat.le_refl _)) y hlt
      subst hao
      obtain ⟨h0, h1, h2⟩ := edgeB_in (HE.out y hlt)
      obtain ⟨q, hq⟩ : ∃ q : Nat, L y = (q : Int) := ⟨(L y).toNat, by omega⟩
      have hS : Hid (∀ j, pr L H (y + 1) j = if j = q ∧ pr L H y j < 0 then H y else pr L H y j) := pr_at hq
      rw [hq] at c0 h0 h1
      clear hq
      have hqn : q < k := by omega
      have d0 := hI.cell hqn
      have z0 := hI.frozen q
      have hqn' : (q : Int) < (k : Int) := by omega
      have hIl := hI.lt
      have hsz := hbel.size
      have HI : IHas (wr.alloc (.cells #[.int .i64 (q : Int), .int .i64 (H y)] 38)) w1.heap.size k (pr L H y) := hI.below ((Below.refl _ _).alloc (Nat.le_refl _) _) hIl
      have HB : Below w.heap.size w (wr.alloc (.cells #[.int .i64 (q : Int), .int .i64 (H y)] 38)) := hbel.alloc hsz _
      by_cases hlo : pr L H y q < 0
      · have R0 := hI.set q (H y)
        have R := R0.below ((Below.refl _ _).alloc (o := .cells #[.int .i64 (q : Int), .int .i64 (H y)] 38) (Nat.le_refl _)) R0.lt
        have S0 := hbel.setCell (p := ⟨w1.heap.size, q, none⟩) hs1 (.int .i64 (H y))
        have S := S0.alloc (o := .cells #[.int .i64 (q : Int), .int .i64 (H y)] 38) S0.size
        clear R0 S0
        clear hI HI
        go_wp2
        go_roundw
        case rel => exact ⟨y + 1, by omega, by go_num, R.congr (fun j _ => by rw [hS.out]; by_cases e : j = q <;> simp [e, hlo]), S⟩
        case measure => simp [intOf]; omega
      · go_wp2
        go_roundw
        case rel => exact ⟨y + 1, by omega, by go_num, HI.congr (fun j _ => by rw [hS.out]; by_cases e : j = q <;> simp [e, hlo]), HB⟩
        case measure => simp [intOf]; omega

end Go.Proofs.Ytaddhiojahmbpab
