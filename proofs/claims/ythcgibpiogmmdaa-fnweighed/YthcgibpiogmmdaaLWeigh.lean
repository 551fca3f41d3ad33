/-
  The weight of an arc, the document's.
-/
import Derived.Test.YthcgibpiogmmdaaOkP
import Derived.Test.YthcgibpiogmmdaaBase
set_option linter.unusedVariables false
set_option linter.unusedSimpArgs false
namespace Go.Proofs.Ythcgibpiogmmdaa
open Go.RowKit Go.Maps

def lastW (F T G : Nat → Int) (a b : Int) : Nat → Int
  | 0 => 1000000000000
  | k + 1 => if F k = a ∧ T k = b then G k else lastW F T G a b k
theorem lastW_at {F T G : Nat → Int} {a b : Int} {k : Nat} : ∀ n, (∀ j, j < n → F j = a → T j = b → j = k) → k < n → F k = a → T k = b → lastW F T G a b n = G k
  | 0, _, hk, _, _ => by omega
  | n + 1, hu, hk, hF, hT => by
    unfold lastW
    by_cases h : F n = a ∧ T n = b
    · rw [if_pos h, hu n (by omega) h.1 h.2]
    · rw [if_neg h]
      have : k ≠ n := fun e => h (e ▸ ⟨hF, hT⟩)
      exact lastW_at n (fun j hj => hu j (by omega)) (by omega) hF hT
theorem lastW_none {F T G : Nat → Int} {a b : Int} : ∀ n, (∀ j, j < n → ¬ (F j = a ∧ T j = b)) → lastW F T G a b n = 1000000000000
  | 0, _ => rfl
  | n + 1, h => by
    unfold lastW
    rw [if_neg (h n (by omega))]
    exact lastW_none n (fun j hj => h j (by omega))
set_option maxHeartbeats 1000000 in
theorem l1Weight_any (p : Int) (ao : Option Addr) (n cap : Nat) (F T G : Nat → Int) (a c : Int) (hn : n ≤ 1048576) (hg : arcsB p F T G n = true) (w : World) (hr : Row w ao n F T G) :
    Calls Try.prog 55 #[.agg #[.int .i64 p, .slice ao n cap], .int .i64 a, .int .i64 c] w fun e w' => e = .returned (.int .i64 (lastW F T G a c n)) ∧ Below w.heap.size w w' := by
  have HG : Hid (arcsB p F T G n = true) := hg
  clear hg
  go_enter Try.func55, Try.ntmps55
  go_wp2
  go_loop [7] (fun i => ∃ k : Nat, k ≤ n ∧ i = .int .i64 k ∧ Hid (∀ j, j < k → ¬ (F j = a ∧ T j = c))) (fun i => n - (intOf i).toNat)
  case atStart => exact ⟨0, Nat.zero_le _, rfl, fun j hj => by omega⟩
  case round =>
    obtain ⟨k, hk, rfl, hno⟩ := hrel
    by_cases hlt : k < n
    rotate_left
    · have hkn : k = n := by omega
      subst hkn
      go_wp2
      go_ret
      exact ⟨ret_i64 (lastW_none k hno.out).symm, (Below.refl _ _).alloc (Nat.le_refl _) _⟩
    obtain ⟨b, o, hao, c0, c1, c2⟩ := (hr.alloc (.cells #[.int .i64 p, .slice ao n cap] 26)) k hlt
    subst hao
    rcases Bool.eq_false_or_eq_true (F k == a) with hF | hF
    · rcases Bool.eq_false_or_eq_true (T k == c) with hT | hT
      · go_wp2
        go_ret
        have eF : F k = a := by simpa using hF
        have eT : T k = c := by simpa using hT
        exact ⟨ret_i64 (lastW_at n (fun j hj e1 e2 => unique HG.out hj hlt (e1.trans eF.symm) (e2.trans eT.symm)) hlt eF eT).symm, (Below.refl _ _).alloc (Nat.le_refl _) _⟩
      · go_wp2
        go_round
        case rel => exact ⟨k + 1, by omega, by go_num, fun j hj => by
          by_cases e : j = k
          · subst e; simp at hT; exact fun h => hT h.2
          · exact hno.out j (by omega)⟩
        case measure => simp [intOf]; omega
    · go_wp2
      go_round
      case rel => exact ⟨k + 1, by omega, by go_num, fun j hj => by
        by_cases e : j = k
        · subst e; simp at hF; exact fun h => hF h.1
        · exact hno.out j (by omega)⟩
      case measure => simp [intOf]; omega

end Go.Proofs.Ythcgibpiogmmdaa
