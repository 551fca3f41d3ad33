/-
  WeightOf: the document's and the program's, each held against one plain function of the arcs.
-/
import Derived.Test.YtaddhiojahmbpaaNums
set_option linter.unusedVariables false
set_option linter.unusedSimpArgs false
namespace Go.Proofs.Ytaddhiojahmbpaa
open Go.RowKit Go.Maps

def lastW (F T G : Nat → Int) (a b : Int) : Nat → Int
  | 0 => 1000000000000
  | k + 1 => if F k = a ∧ T k = b then G k else lastW F T G a b k
def wOf (p : Int) (n : Nat) (F T G : Nat → Int) (a b : Int) : Int := if graphB p n F T G then lastW F T G a b n else 1000000000000

theorem graphB_arcs {p : Int} {n : Nat} {F T G : Nat → Int} (h : graphB p n F T G = true) : n ≤ 100 ∧ arcsB p F T G n = true := by
  simp [graphB] at h; exact ⟨h.2.1, h.2.2⟩
theorem arcsB_each {p : Int} {F T G : Nat → Int} : ∀ n, arcsB p F T G n = true → ∀ k, k < n → arcB (F k) (T k) (G k) p = true ∧ (0 < k → upB (F (k - 1)) (T (k - 1)) (F k) (T k) = true)
  | 0, _, k, hk => by omega
  | n + 1, h, k, hk => by
    simp [arcsB] at h
    by_cases e : k = n
    · subst e; exact ⟨h.2.1, fun h0 => by rcases h.2.2 with h' | h'; omega; exact h'⟩
    · exact arcsB_each n h.1 k (by omega)
theorem upB_iff {f t f' t' : Int} : upB f t f' t' = true ↔ f < f' ∨ (f = f' ∧ t < t') := by simp [upB]
theorem rising {p : Int} {F T G : Nat → Int} {n : Nat} (h : arcsB p F T G n = true) (i : Nat) : ∀ j, i < j → j < n → F i < F j ∨ (F i = F j ∧ T i < T j)
  | 0, hi, _ => by omega
  | j + 1, hi, hj => by
    have hu := upB_iff.1 ((arcsB_each n h (j + 1) hj).2 (by omega))
    simp at hu
    by_cases e : i = j
    · subst e; exact hu
    · have := rising h i j (by omega) (by omega); omega
theorem unique {p : Int} {F T G : Nat → Int} {n : Nat} (h : arcsB p F T G n = true) {i j : Nat} (hi : i < n) (hj : j < n) (hF : F i = F j) (hT : T i = T j) : i = j := by
  rcases Nat.lt_trichotomy i j with hlt | e | hlt
  · have := rising h i j hlt hj; omega
  · exact e
  · have := rising h j i hlt hi; omega
theorem lastW_at {F T G : Nat → Int} {a b : Int} {k : Nat} : ∀ n, (∀ j, j < n → F j = a → T j = b → j = k) → k < n → F k = a → T k = b → lastW F T G a b n = G k
  | 0, _, hk, _, _ => by omega
  | n + 1, hu, hk, hF, hT => by
    unfold lastW
    by_cases h : F n = a ∧ T n = b
    · rw [if_pos h, hu n (by omega) h.1 h.2]
    · rw [if_neg h]
      have : k ≠ n := fun e => h (e ▸ ⟨hF, hT⟩)
      exact lastW_at n (fun j hj => hu j (by omega)) (by omega) hF hT
theorem lastW_none {F T G : Nat → Int} {a b : Int} : ∀ n, (∀ j, j < n → ¬ (F j = a ∧ T j = b)) → lastW F T G a b n = 1000000000000
  | 0, _ => rfl
  | n + 1, h => by
    unfold lastW
    rw [if_neg (h n (by omega))]
    exact lastW_none n (fun j hj => h j (by omega))
theorem wf_small {p : Int} {F T G : Nat → Int} {n : Nat} (hp : inB p 1 24 = true) (h : arcsB p F T G n = true) : WfTo F T n := fun k hk => by
  have := (arcsB_each n h k hk).1
  simp [arcB, inB] at this hp
  exact ⟨WalkArith.wf_i64 (by omega), WalkArith.wf_i64 (by omega)⟩
theorem graphB_p {p : Int} {n : Nat} {F T G : Nat → Int} (h : graphB p n F T G = true) : inB p 1 24 = true := by
  simp [graphB] at h; exact h.1
theorem ret_i64 {a b : Int} (h : a = b) : Ending.returned (.int .i64 a) = .returned (.int .i64 b) := by rw [h]

set_option maxHeartbeats 1000000 in
theorem l1Weight_any (p : Int) (ao : Option Addr) (n cap : Nat) (F T G : Nat → Int) (a c : Int) (hn : n ≤ 1048576) (hg : arcsB p F T G n = true) (w : World) (hr : Row w ao n F T G) :
    Calls Try.prog 55 #[.agg #[.int .i64 p, .slice ao n cap], .int .i64 a, .int .i64 c] w fun e w' => e = .returned (.int .i64 (lastW F T G a c n)) ∧ Below w.heap.size w w' := by
  have HG : Hid (arcsB p F T G n = true) := hg
  clear hg
  go_enter Try.func55, Try.ntmps55
  go_wp2
  go_loop [7] (fun i => ∃ k : Nat, k ≤ n ∧ i = .int .i64 k ∧ Hid (∀ j, j < k → ¬ (F j = a ∧ T j = c))) (fun i => n - (intOf i).toNat)
  case atStart => exact ⟨0, Nat.zero_le _, rfl, fun j hj => by omega⟩
  case round =>
    obtain ⟨k, hk, rfl, hno⟩ := hrel
    by_cases hlt : k < n
    rotate_left
    · have hkn : k = n := by omega
      subst hkn
      go_wp2
      go_ret
      exact ⟨ret_i64 (lastW_none k hno.out).symm, (Below.refl _ _).alloc (Nat.le_refl _) _⟩
    obtain ⟨b, o, hao, c0, c1, c2⟩ := (hr.alloc (.cells #[.int .i64 p, .slice ao n cap] 26)) k hlt
    subst hao
    rcases Bool.eq_false_or_eq_true (F k == a) with hF | hF
    · rcases Bool.eq_false_or_eq_true (T k == c) with hT | hT
      · go_wp2
        go_ret
        have eF : F k = a := by simpa using hF
        have eT : T k = c := by simpa using hT
        exact ⟨ret_i64 (lastW_at n (fun j hj e1 e2 => unique HG.out hj hlt (e1.trans eF.symm) (e2.trans eT.symm)) hlt eF eT).symm, (Below.refl _ _).alloc (Nat.le_refl _) _⟩
      · go_wp2
        go_round
        case rel => exact ⟨k + 1, by omega, by go_num, fun j hj => by
          by_cases e : j = k
          · subst e; simp at hT; exact fun h => hT h.2
          · exact hno.out j (by omega)⟩
        case measure => simp [intOf]; omega
    · go_wp2
      go_round
      case rel => exact ⟨k + 1, by omega, by go_num, fun j hj => by
        by_cases e : j = k
        · subst e; simp at hF; exact fun h => hF h.1
        · exact hno.out j (by omega)⟩
      case measure => simp [intOf]; omega

end Go.Proofs.Ytaddhiojahmbpaa
