/-
  What the law FnDistances calls: its helpers, the bytes that came in, and that a distance comes over an arc.
-/
import Derived.Test.YtkmkkdjacdcojaaReach
import Derived.Test.YtkmkkdjacdcojaaLenImpl
import Derived.Test.YtkmkkdjacdcojaaDrawLen
set_option linter.unusedVariables false
set_option linter.unusedSimpArgs false
namespace Go.Proofs.Ytkmkkdjacdcojaa
open Go.ChangeShapes Go.WideShapes Go.ChangeAt Go.RowKit Go.Deep Go.Joins
attribute [local go_sem ↓] Go.wp_at_zero Go.wp_at_succ

/-- The program's Distances, and that they are the distances. -/
theorem implDistances_sol (p : Int) (ao : Option Addr) (n cap : Nat) (F T G : Nat → Int) (s : Int) (hn : n ≤ 1048576) (w : World) (hr : Row w ao n F T G) :
    Calls Try.prog 16 #[.agg #[.int .i64 p, .slice ao n cap], .int .i64 s] w fun e w' => Ans w w' e (lenD p n F T G s) (listD p n F T G s) ∧ (okD p n F T G s = true → Sol p.toNat n F T G s.toNat (listD p n F T G s)) := by
  cases h : okD p n F T G s
  · exact (implDistances_any p ao n cap F T G s hn w hr).mono (fun e w' hA => ⟨hA, fun h' => by cases h'⟩)
  have h1 : graphB p n F T G = true ∧ inB s 0 (p - 1) = true := by simpa [okD] using h
  have hpp : 1 ≤ p ∧ p ≤ 24 := by simpa [inB] using graphB_p h1.1
  have hs0 : 0 ≤ s ∧ s ≤ p - 1 := by simpa [inB] using h1.2
  obtain ⟨pn, rfl⟩ : ∃ pn : Nat, p = (pn : Int) := ⟨p.toNat, by omega⟩
  obtain ⟨sn, rfl⟩ : ∃ sn : Nat, s = (sn : Int) := ⟨s.toNat, by omega⟩
  have hL : lenD pn n F T G sn = pn := by simp [lenD, h]
  have hD : listD pn n F T G sn = turns F T G n (start sn) pn := by simp [listD]
  rw [hL, hD]
  have harc := arcs_of (graphB_arcs h1.1).2
  refine (implDist_walk pn sn ao n cap F T G h1.1 (by omega) (graphB_arcs h1.1).1 (by omega) (by omega) harc w hr).mono ?_
  rintro e w' ⟨g, c, D, rfl, hg, hI, hS, hb⟩
  have he : ∀ v, v < pn → turns F T G n (start sn) pn v = D v := fun v hv => turns_sol harc hS v hv
  refine ⟨⟨_, _, rfl, fun _ => ⟨g, rfl, hg, hI.congr (fun j hj => (he j hj).symm)⟩, hb⟩, fun _ => ?_⟩
  have ht : ∀ k, k < n → (T k).toNat < pn ∧ (F k).toNat < pn := fun k hk => by have := harc k hk; omega
  simp only [Int.toNat_natCast]
  refine ⟨by rw [he sn (by omega)]; exact hS.zero, fun v hv => by rw [he v hv]; exact hS.lo v hv, fun v hv => by rw [he v hv]; exact hS.hi v hv, fun k hk => by rw [he _ (ht k hk).1, he _ (ht k hk).2]; exact hS.fix k hk, fun v hv hne hlt => ?_⟩
  rw [he v hv] at hlt
  obtain ⟨k, hk, h2, h3⟩ := hS.via v hv hne hlt
  exact ⟨k, hk, h2, by rw [he v hv, he _ (ht k hk).2]; exact h3⟩

theorem big_any (ao : Option Addr) (n cap : Nat) (hn : n ≤ 9223372036854775807) (w : World) : Calls Try.prog 6 #[.slice ao n cap] w fun e w' => e = .returned (.bool (decide (4096 < n))) ∧ w' = w := by
  by_cases h : 4096 < n
  · have h' : 4096 < (n : Int) := by omega
    go_enter Try.func6, Try.ntmps6
    go_wp2
    go_ret
    exact ⟨ret_bool (by simp [h]), rfl⟩
  · have h' : ¬ 4096 < (n : Int) := by omega
    go_enter Try.func6, Try.ntmps6
    go_wp2
    go_ret
    exact ⟨ret_bool (by simp [h]), rfl⟩

set_option maxHeartbeats 800000 in
theorem likeInts_same (ao ao' : Option Addr) (n cap cap' : Nat) (f : Nat → Int) (hn : n ≤ 1048576) (w : World) (hr : IRow w ao n f) (hr' : IRow w ao' n f) :
    Calls Try.prog 17 #[.slice ao n cap, .slice ao' n cap'] w fun e w' => e = .returned (.bool true) ∧ Below w.heap.size w w' := by
  go_enter Try.func17, Try.ntmps17
  go_wp2
  go_loopw [5] (fun i wr => ∃ k : Nat, k ≤ n ∧ i = .int .i64 k ∧ Below w.heap.size w wr) (fun i _ => n - (intOf i).toNat)
  case atStart => exact ⟨0, Nat.zero_le _, rfl, Below.refl _ _⟩
  case round =>
    obtain ⟨k, hk, rfl, hbel⟩ := hrel
    by_cases hlt : k < n
    rotate_left
    · have hkn : k = n := by omega
      subst hkn
      go_wp2
      go_ret
      exact ⟨rfl, hbel⟩
    obtain ⟨b, o, hao, c0⟩ := (hr.below hbel (Nat.le_refl _)) k hlt
    obtain ⟨b', o', hao', d0⟩ := (hr'.below hbel (Nat.le_refl _)) k hlt
    subst hao
    subst hao'
    have hk1 : (0 : Int) ≤ (k : Int) := by omega
    have hk2 : (k : Int) < (n : Int) := by omega
    go_wp2
    go_quiet (fail)
    go_wp2
    go_roundw
    case rel => exact ⟨k + 1, by omega, by go_num, below_drewN hbel _⟩
    case measure => simp [intOf]; omega

set_option maxRecDepth 100000 in
theorem open_bytes {H : Type} {enc : TypeId × Value → H} {w : World} {base : Nat} {spare : Nat → Bool} {held : Bool} {fuel : Nat} {cs : List Value} {x : DataW H × List MemPlace}
    (h : DataW.trod enc Try.prog w base spare held fuel 22 cs = some x) :
    ∃ (ao : Option Addr) (n cap : Nat), cs = [.slice ao n cap] ∧ n ≤ maxLen ∧ ByRow w w.heap.size ao n := by
  rcases open_slice Try.underlying22 h with ⟨rfl, _⟩ | ⟨a, len, cap, m, n, D, Pl, rfl, hb, hl, hm, hmm, _, hx⟩
  · exact ⟨none, 0, 0, rfl, Nat.zero_le _, fun k hk => by omega⟩
  have hlm : len ≤ m := by rw [hmm]; split <;> omega
  have cells8 : Try.prog.cellsOf 5 = 1 := by kernel_rfl
  have each : ∀ i, i < len → ∃ q : Int, w.cell? (a.add i) = some (.int .u8 q) ∧ (Lit.int .u8 q).wf = true := by
    intro i hi
    obtain ⟨cs', h1, h2⟩ := hx i (by omega)
    rw [cells8] at h1
    obtain ⟨_, hlen, hcell⟩ := World.cells?_some h1
    match cs', hlen with
    | [v0], _ =>
      obtain ⟨q0, r0, _, f0⟩ := DataW.trod_int Try.underlying5 h2
      have e0 := hcell 0 (by omega)
      rw [add_add] at e0
      simp at r0
      subst r0
      exact ⟨q0, by simpa using e0, f0⟩
  refine ⟨some a, len, cap, rfl, by omega, fun k hk => ?_⟩
  obtain ⟨q, hq, hwf⟩ := each k hk
  obtain ⟨b, o, spot⟩ := a
  have hspot : spot = none := by
    obtain ⟨_, hq0, _⟩ := each 0 (by omega)
    have := World.cell?_spot hq0
    simpa [Addr.add] using this
  subst hspot
  rw [Addr.add_mid] at hq
  have h8 : 0 ≤ q ∧ q ≤ 255 := by
    have h1 : IntKind.min .u8 = 0 := by decide
    have h2 : IntKind.max .u8 = 255 := by decide
    simp only [Lit.wf, h1, h2, Bool.and_eq_true, decide_eq_true_eq] at hwf
    exact hwf
  exact ⟨b, o, q, rfl, lt_of_cell hq, hq, h8.1, h8.2⟩

/-- Does some arc among the first k tell the distance of i? -/
def smB (F T G D : Nat → Int) (s i : Int) : Nat → Bool
  | 0 => i == s || D i.toNat == 1000000000000
  | k + 1 => if T k = i ∧ D (F k).toNat ≠ 1000000000000 then (smB F T G D s i k || D i.toNat == D (F k).toNat + G k) else smB F T G D s i k
theorem smB_mono {F T G D : Nat → Int} {s i : Int} : ∀ n k, k ≤ n → smB F T G D s i k = true → smB F T G D s i n = true
  | 0, k, hk, h => by
    have : k = 0 := by omega
    subst this; exact h
  | n + 1, k, hk, h => by
    by_cases e : k = n + 1
    · subst e; exact h
    · have := smB_mono n k (by omega) h
      unfold smB
      split
      · rw [this]; rfl
      · exact this
theorem smB_all {p n : Nat} {F T G D : Nat → Int} {s : Nat} (hA : Arcs p n F T G) (hS : Sol p n F T G s D) {i : Nat} (hi : i < p) : smB F T G D (s : Int) (i : Int) n = true := by
  by_cases h1 : i = s
  · exact smB_mono n 0 (Nat.zero_le _) (by simp [smB, h1])
  by_cases h2 : D i = 1000000000000
  · exact smB_mono n 0 (Nat.zero_le _) (by simp [smB, h2])
  have hhi := hS.hi i hi
  obtain ⟨k, hk, h3, h4⟩ := hS.via i hi h1 (by omega)
  have h5 := hS.fix k hk
  have h6 := hA k hk
  rw [h3] at h5
  have h7 : T k = (i : Int) := by omega
  have h8 : D (F k).toNat ≠ 1000000000000 := by omega
  refine smB_mono n (k + 1) (by omega) ?_
  unfold smB
  rw [if_pos ⟨h7, h8⟩]
  have : (D (i : Int).toNat == D (F k).toNat + G k) = true := by
    rw [beq_iff_eq]
    simp only [Int.toNat_natCast]
    omega
  rw [this]; simp

end Go.Proofs.Ytkmkkdjacdcojaa
