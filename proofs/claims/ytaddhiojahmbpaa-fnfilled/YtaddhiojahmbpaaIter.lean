/-
  The program's iterator over the neighbours of a place: what it hands over, whatever the rounds do, as long as its own row can be read.
-/
import Derived.Test.YtaddhiojahmbpaaMeshMem
import Derived.Test.YtaddhiojahmbpaaRounds
import Derived.Sort.QuietIn
set_option linter.unusedVariables false
set_option linter.unusedSimpArgs false
namespace Go.Proofs.Ytaddhiojahmbpaa
open Go.RowKit Go.Shelf
attribute [local go_sem] Oper.semAt_some

theorem neighbours_any (bm : Nat) (place : Int) (w : World) :
    Calls Try.prog 74 #[.pointer (some ⟨bm, 0, none⟩), .int .i64 place] w fun e w' => e = .returned (.func (.func 96) #[] #[.pointer (some ⟨w.heap.size, 0, none⟩), .pointer (some ⟨w.heap.size + 1, 0, none⟩)]) ∧ w' = (w.alloc (.cells #[.pointer (some ⟨bm, 0, none⟩)] 89)).alloc (.cells #[.int .i64 place] 2) := by
  go_enter Try.func74, Try.ntmps74
  go_wp2
  go_ret
  exact ⟨rfl, rfl⟩

/-- What the iterator reads: its two boxes, how many places, the row of its place. -/
structure Reads (bM bP bm p place : Nat) (W : World) (f : Nat → Bool) : Prop where
  rdM : W.cell? ⟨bM, 0, none⟩ = some (.pointer (some ⟨bm, 0, none⟩))
  rdP : W.cell? ⟨bP, 0, none⟩ = some (.int .i64 (place : Int))
  rdN : W.cell? ⟨bm, 0, none⟩ = some (.int .i64 (p : Int))
  rdR : ∀ j, j < 24 → W.cell? ⟨bm, 1 + place * 24 + j, none⟩ = some (.bool (f j))

/-- The places that have come when k have been looked at; 'bits' tells the row when a list has come. -/
def vis (bits : List Nat → Nat → Bool) : Nat → List Nat
  | 0 => []
  | k + 1 => if bits (vis bits k) k then vis bits k ++ [k] else vis bits k

set_option maxRecDepth 100000 in
set_option maxHeartbeats 2000000 in
theorem iter_core (n : Nat) (hn : 1 ≤ n) (l bM bP bm p place : Nat) (hp : p ≤ 24) (hpl : place < 24) (J Jx : List Nat → World → Prop) (bits : List Nat → Nat → Bool) (W : World) (hJ : AbidesFrom W.heap.size J)
    (hRd : ∀ pre W1, J pre W1 → Reads bM bP bm p place W1 (bits pre))
    (hY : ∀ k W1, k < p → bits (vis bits k) k = true → J (vis bits k) W1 → YieldAt Fence.wide (n - 1) Try.prog l #[.int .i64 (k : Int)] W1 fun e W' => (e = .returned (.bool true) ∧ J (vis bits k ++ [k]) W') ∨ (e = .returned (.bool false) ∧ Jx (vis bits k ++ [k]) W'))
    (h0 : J [] W) :
    CallsIn Fence.wide n Try.prog 96 #[.func (.yield l) #[] #[], .pointer (some ⟨bM, 0, none⟩), .pointer (some ⟨bP, 0, none⟩)] W fun e W' => (∃ v, e = .returned v) ∧ (J (vis bits p) W' ∨ ∃ k, k < p ∧ bits (vis bits k) k = true ∧ Jx (vis bits k ++ [k]) W') := by
  obtain ⟨r1, r2, r3, r4⟩ := hRd _ _ h0
  refine callsIn_of_wp Try.func96 rfl trivial ?_ rfl
  simp only [Try.ntmps96, List.size_toArray, List.length_cons, List.length_nil, Nat.reduceAdd, Nat.reduceSub, Array.replicate_succ, Array.replicate_zero, List.push_toArray, List.append_toArray, List.nil_append, List.cons_append]
  gi_wp2
  clear r1 r2 r3 r4
  gi_loopw [9] (fun i wr => ∃ k : Nat, k ≤ p ∧ i = .int .i64 k ∧ J (vis bits k) wr) (fun i _ => p - (intOf i).toNat)
  case atStart => exact ⟨0, Nat.zero_le _, rfl, h0⟩
  case round =>
    obtain ⟨k, hk, rfl, hJk⟩ := hrel
    by_cases hlt : k < p
    rotate_left
    · have hkp : k = p := by omega
      subst hkp
      gi_wp2
      go_end0
      exact ⟨⟨_, rfl⟩, .inl hJk⟩
    have hlt' : (k : Int) < (p : Int) := by omega
    obtain ⟨r1, r2, r3, r4⟩ := hRd _ _ hJk
    have r5 := r4 k (by omega)
    have hpl' : (place : Int) < 24 := by omega
    have hk24 : (k : Int) < 24 := by omega
    cases hb : bits (vis bits k) k
    · have hv : Hid (vis bits (k + 1) = vis bits k) := by
        show (if bits (vis bits k) k then _ else _) = _
        rw [hb]; rfl
      rw [hb] at r5
      clear r4
      gi_wp2
      refine wpIn_region_quiet_lit rfl (by kernel_rfl) (by kernel_rfl) ?_
      repeat (gi_big_quiet_step (fail))
      refine BigFrame.wpQuietIn_skip (fun _ _ _ _ => trivial) rfl ?_
      simp only [go_sem, Act.put, List.setIfInBounds_toArray, List.set_cons_succ, List.set_cons_zero]
      repeat (gi_big_quiet_step (fail))
      refine wpQuietIn_nil ?_
      intro _ hw'
      obtain ⟨nq, hw''⟩ := hw'
      subst hw''
      gi_wp2
      go_roundw
      case rel => exact ⟨k + 1, by omega, by go_num, by rw [hv.out]; exact hJ _ _ _ none hJk ⟨rfl, rfl, rfl, Nat.le_refl _, fun _ _ _ => rfl⟩ (fun r e => by cases e)⟩
      case measure => simp [intOf]; omega
    · have hv : Hid (vis bits (k + 1) = vis bits k ++ [k]) := by
        show (if bits (vis bits k) k then _ else _) = _
        rw [hb]; rfl
      rw [hb] at r5
      clear r4
      obtain ⟨fn, tmps, assign, body, hy, hR⟩ := hY k wr.drew hlt hb (hJ _ _ _ none hJk ⟨rfl, rfl, rfl, Nat.le_refl _, fun _ _ _ => rfl⟩ (fun r e => by cases e))
      have hR' := hR.mono (R' := fun e W' => ∃ b : Bool, e = .returned (.bool b) ∧ ((b = true ∧ J (vis bits k ++ [k]) W') ∨ (b = false ∧ Jx (vis bits k ++ [k]) W'))) (fun e W' h => by
        rcases h with ⟨h1, h2⟩ | ⟨h1, h2⟩
        · exact ⟨true, h1, .inl ⟨rfl, h2⟩⟩
        · exact ⟨false, h1, .inr ⟨rfl, h2⟩⟩)
      clear hR
      gi_wp2
      gi_region_with (refine hR'.mono ?_; rintro e W3 ⟨b, rfl, hor⟩)
      all_goals
        rcases hor with ⟨rfl, hJ3⟩ | ⟨rfl, hJx3⟩
        · gi_wp2
          go_roundw
          case rel => exact ⟨k + 1, by omega, by go_num, by rw [hv.out]; exact hJ3⟩
          case measure => simp [intOf]; omega
        · gi_wp2
          refine bodyPost_ret (results_none rfl _ _ _) rfl ?_
          exact ⟨⟨_, rfl⟩, .inr ⟨k, hlt, hb, hJx3⟩⟩

end Go.Proofs.Ytaddhiojahmbpaa
