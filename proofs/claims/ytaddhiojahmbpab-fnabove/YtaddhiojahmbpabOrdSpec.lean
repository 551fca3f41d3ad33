/-
  Order, the document's: the square of neighbours, the neighbours of a place, a place that is taken away. For maps of at most 24 places.
-/
import Derived.Test.YtaddhiojahmbpabMesh
import Derived.Test.YtaddhiojahmbpabCells
import Derived.Test.YtaddhiojahmbpabGrow
import Derived.Test.YtaddhiojahmbpabAns
import Derived.Test.YtaddhiojahmbpabLast
import Derived.BigRegion
set_option linter.unusedVariables false
set_option linter.unusedSimpArgs false
namespace Go.Proofs.Ytaddhiojahmbpab
open Go.RowKit
attribute [local go_sem ↓] Go.wp_at_zero Go.wp_at_succ

/-- The square as it lies: row by row. -/
def flat (p : Nat) (B : Nat → Nat → Bool) (j : Nat) : Bool := B (j / p) (j % p)
theorem flat_at {p x y : Nat} (B : Nat → Nat → Bool) (hy : y < p) : flat p B (x * p + y) = B x y := by
  unfold flat
  have h1 : (x * p + y) / p = x := by
    rw [Nat.mul_comm, Nat.mul_add_div (by omega), Nat.div_eq_of_lt hy]; rfl
  have h2 : (x * p + y) % p = y := by
    rw [Nat.mul_comm, Nat.mul_add_mod, Nat.mod_eq_of_lt hy]
  rw [h1, h2]
theorem flat_upd {p x y : Nat} (B : Nat → Nat → Bool) (hy : y < p) (v : Bool) (j : Nat) : (if j = x * p + y then v else flat p B j) = flat p (upd B x y v) j := by
  by_cases e : j = x * p + y
  · rw [if_pos e, e, flat_at _ hy]; simp [upd]
  · rw [if_neg e]
    unfold flat upd
    rw [if_neg (fun h => e ?_)]
    have := Nat.div_add_mod j p
    rw [h.1, h.2, Nat.mul_comm] at this
    omega
theorem row_lt {p x y : Nat} (hx : x < p) (hy : y < p) : x * p + y < p * p := by
  have h1 : x * p + y < (x + 1) * p := by rw [Nat.add_mul]; omega
  have h2 : (x + 1) * p ≤ p * p := Nat.mul_le_mul_right p (by omega)
  omega
/-- The square lies in block b. -/
abbrev Sq (w : World) (b p : Nat) (B : Nat → Nat → Bool) : Prop := BHas w b (p * p) (flat p B)
theorem Sq.at {w : World} {b p : Nat} {B : Nat → Nat → Bool} (h : Sq w b p B) {x y : Nat} (hx : x < p) (hy : y < p) : w.cell? ⟨b, x * p + y, none⟩ = some (.bool (B x y)) := by
  rw [VHas.cell h (row_lt hx hy), flat_at _ hy]
theorem Sq.put {w : World} {b p : Nat} {B : Nat → Nat → Bool} (h : Sq w b p B) {x y : Nat} (hy : y < p) (v : Bool) : Sq (w.setCell ⟨b, x * p + y, none⟩ (.bool v)) b p (upd B x y v) :=
  (BHas.put h (x * p + y) v).same (fun j _ => flat_upd B hy v j)

/-- What the arithmetic of an index gives. -/
theorem idx_nn (x y p : Nat) : ((x : Int) * (p : Int) + (y : Int)) = ((x * p + y : Nat) : Int) := by simp
theorem mul_lt24 {x p : Nat} (hx : x < p) (hp : p ≤ 24) : x * p ≤ 552 := Nat.le_trans (Nat.mul_le_mul (show x ≤ 23 by omega) hp) (by omega)

set_option maxHeartbeats 1000000 in
theorem l3Square_any (p : Nat) (ao : Option Addr) (n cap : Nat) (F T G : Nat → Int) (hp1 : 1 ≤ p) (hp : p ≤ 24) (hn : n ≤ 100) (hF : ∀ k, k < n → 0 ≤ F k ∧ F k < (p : Int)) (hT : ∀ k, k < n → 0 ≤ T k ∧ T k < (p : Int)) (hFT : ∀ k, k < n → F k ≠ T k) (w : World) (hr : Row w ao n F T G) :
    Calls Try.prog 32 #[.agg #[.int .i64 (p : Int), .slice ao n cap]] w fun e w' => e = .returned (.slice (some ⟨w.heap.size + 1, 0, none⟩) (p * p) (p * p)) ∧ Sq w' (w.heap.size + 1) p (nbA F T n) ∧ Below w.heap.size w w' := by
  have hpp : p * p ≤ 576 := Nat.mul_le_mul hp hp
  have hmk := make_bools (p * p) (by omega)
  simp only [Int.natCast_mul] at hmk
  have hpi : (p : Int) * (p : Int) ≤ 576 := by
    have : ((p * p : Nat) : Int) ≤ 576 := by omega
    simpa using this
  have hpi0 : 0 ≤ (p : Int) * (p : Int) := Int.mul_nonneg (by omega) (by omega)
  go_enter Try.func32, Try.ntmps32
  go_wp2
  clear hmk
  go_loopw [4] (fun i wr => ∃ k : Nat, k ≤ n ∧ i = .int .i64 k ∧ Sq wr (w.heap.size + 1) p (nbA F T k) ∧ Below (w.heap.size + 1) (w.alloc (.cells #[.int .i64 (p : Int), .slice ao n cap] 32)) wr) (fun i _ => n - (intOf i).toNat)
  case atStart => exact ⟨0, Nat.zero_le _, rfl, by have := made_bools (w.alloc (.cells #[.int .i64 (p : Int), .slice ao n cap] 32)) (p * p); simp only [World.size_alloc] at this; exact this.same (fun j _ => rfl), (Below.refl _ _).alloc (by simp) _⟩
  case round =>
    obtain ⟨k, hk, rfl, hsq, hbel⟩ := hrel
    obtain ⟨x0, x1, xs⟩ := box2 hbel
    by_cases hlt : k < n
    rotate_left
    · have hkn : k = n := by omega
      subst hkn
      go_wp2
      go_ret
      exact ⟨rfl, hsq, unbox hbel (by omega)⟩
    obtain ⟨b, o, hao, c0, c1, c2⟩ := ((hr.alloc _).below hbel (by simp)) k hlt
    subst hao
    have hf0 := hF k hlt
    have ht0 := hT k hlt
    obtain ⟨f, hf⟩ : ∃ f : Nat, F k = (f : Int) := ⟨(F k).toNat, by omega⟩
    obtain ⟨t, ht⟩ : ∃ t : Nat, T k = (t : Int) := ⟨(T k).toNat, by omega⟩
    have hFT' := hFT k hlt
    have hst : Hid (nbA F T (k + 1) = upd2 (nbA F T k) f t true) := by
      show upd2 (nbA F T k) (F k).toNat (T k).toNat true = _
      rw [hf, ht]; rfl
    rw [hf] at c0 hf0
    rw [ht] at c1 ht0
    have hfe := hf
    have hte := ht
    clear hf ht
    have hfp : f < p := by omega
    have htp : t < p := by omega
    have hbw : b < wr.heap.size := lt_of_cell c0
    have hsl := VHas.lt hsq
    have d0 := Sq.at hsq hfp htp
    have z0 := VHas.frozen hsq (f * p + t)
    have d1 := Sq.at hsq htp hfp
    have z1 := VHas.frozen hsq (t * p + f)
    have h3 := (Sq.put (Sq.put hsq (x := f) htp true) (x := t) hfp true).alloc (.cells #[.int .i64 (f : Int), .int .i64 (t : Int), .int .i64 (G k)] 64)
    have hne : f ≠ t := by
      rw [hfe, hte] at hFT'
      omega
    have n1 : ¬ f * p + t = t * p + f := fun e => by
      have e1 := flat_at (p := p) (x := f) (fun x y => x == t) htp
      rw [e, flat_at _ hfp] at e1
      simp at e1
      exact hne e1
    have n2 : ¬ t * p + f = f * p + t := fun e => n1 e.symm
    have i1 := mul_lt24 hfp hp
    have i2 := mul_lt24 htp hp
    have i3 := row_lt hfp htp
    have i4 := row_lt htp hfp
    have j1 : 0 ≤ (f : Int) * (p : Int) := Int.mul_nonneg (by omega) (by omega)
    have j2 : (f : Int) * (p : Int) ≤ 552 := by have : ((f * p : Nat) : Int) ≤ 552 := by omega
                                                simpa using this
    have j3 : 0 ≤ (t : Int) * (p : Int) := Int.mul_nonneg (by omega) (by omega)
    have j4 : (t : Int) * (p : Int) ≤ 552 := by have : ((t * p : Nat) : Int) ≤ 552 := by omega
                                                simpa using this
    have j5 : (f : Int) * (p : Int) + (t : Int) < (p : Int) * (p : Int) := by have : ((f * p + t : Nat) : Int) < ((p * p : Nat) : Int) := by omega
                                                                              simpa using this
    have j6 : (t : Int) * (p : Int) + (f : Int) < (p : Int) * (p : Int) := by have : ((t * p + f : Nat) : Int) < ((p * p : Nat) : Int) := by omega
                                                                              simpa using this
    have j7 : ((f : Int) * (p : Int) + (t : Int)).toNat = f * p + t := by rw [idx_nn]; omega
    have j8 : ((t : Int) * (p : Int) + (f : Int)).toNat = t * p + f := by rw [idx_nn]; omega
    have S := ((hbel.setCell (p := ⟨w.heap.size + 1, f * p + t, none⟩) (by simp) (.bool true)).setCell (p := ⟨w.heap.size + 1, t * p + f, none⟩) (by simp) (.bool true)).alloc (o := .cells #[.int .i64 (f : Int), .int .i64 (t : Int), .int .i64 (G k)] 64) (by simp; omega)
    clear hsq i1 i2 i3 i4 hfe hte hFT'
    go_wp2
    go_roundw
    case rel => exact ⟨k + 1, by omega, by go_num, by rw [hst.out]; exact h3, S⟩
    case measure => simp [intOf]; omega

end Go.Proofs.Ytaddhiojahmbpab
