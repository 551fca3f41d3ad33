/-
  Helpers, merged: MetI, EdWf, TriIt, TriSeq, RangeBox.
-/
import Derived.Test.YtokaechbmnbbiabGreatPack8
import Derived.Test.YtokaechbmnbbiabGreatPack11
import Derived.Test.YtokaechbmnbbiabGreatPack9
import Derived.Sort.QuietIn
/-
  The program's helpers over metrics: weights in their bounds, what a triangle tells.
-/
set_option linter.unusedVariables false
set_option linter.unusedSimpArgs false
namespace Go.Proofs.YtokaechbmnbbiabGreat
open Go.RowKit
attribute [local go_sem ↓] Go.wp_at_zero Go.wp_at_succ

set_option maxHeartbeats 2000000 in
theorem upBelow_any (uo : Option Addr) (u ucap : Nat) (U : Nat → Int) (vo : Option Addr) (v vcap : Nat) (V : Nat → Int) (t : Tr) (h1 : t.1 < v) (h2 : t.2.1 < u) (hU : InF u U) (hV : InF v V) (hu : u ≤ 1048576) (hv : v ≤ 1048576) (w : World) (rU : IRow w uo u U) (rV : IRow w vo v V) :
    Calls Tryz.prog 49 #[.agg #[.slice uo u ucap, .slice vo v vcap], .agg #[.int .i64 (t.1 : Int), .int .i64 (t.2.1 : Int), .int .i64 (t.2.2 : Int)]] w fun e w' => e = .returned (.int .i64 (upT U V t)) ∧ Below w.heap.size w w' := by
  obtain ⟨i, k, e⟩ := t
  simp only at h1 h2
  obtain ⟨b, o, hao, c0⟩ := rU k h2
  subst hao
  obtain ⟨b', o', hao', d0⟩ := rV i h1
  subst hao'
  have hB := ((Below.refl w.heap.size w).alloc (Nat.le_refl _) (.cells #[.slice (some ⟨b, o, none⟩) u ucap, .slice (some ⟨b', o', none⟩) v vcap] 34)).alloc (by simp) (.cells #[.int .i64 (i : Int), .int .i64 (k : Int), .int .i64 (e : Int)] 76)
  replace c0 := keep_cell hB (Nat.le_refl _) c0
  replace d0 := keep_cell hB (Nat.le_refl _) d0
  have hk1 : (0 : Int) ≤ (k : Int) := by omega
  have hk2 : (k : Int) < (u : Int) := by omega
  have hi1 : (0 : Int) ≤ (i : Int) := by omega
  have hi2 : (i : Int) < (v : Int) := by omega
  obtain ⟨uk0, uk1⟩ := hU k h2
  obtain ⟨vi0, vi1⟩ := hV i h1
  go_enter Tryz.func49, Tryz.ntmps49
  go_wp2
  go_quiet (first | (go_at_call 80; refine Calls.quiet_of_same (plus_any _ _ (by assumption) (by assumption) (by assumption) (by assumption) _)))
  go_wp2
  go_ret
  exact ⟨rfl, below_drewN hB _⟩
set_option maxHeartbeats 2000000 in
theorem downBelow_any (uo : Option Addr) (u ucap : Nat) (U : Nat → Int) (vo : Option Addr) (v vcap : Nat) (V : Nat → Int) (t : Tr) (h1 : t.2.1 < v) (h2 : t.1 < u) (hU : InF u U) (hV : InF v V) (hu : u ≤ 1048576) (hv : v ≤ 1048576) (w : World) (rU : IRow w uo u U) (rV : IRow w vo v V) :
    Calls Tryz.prog 50 #[.agg #[.slice uo u ucap, .slice vo v vcap], .agg #[.int .i64 (t.1 : Int), .int .i64 (t.2.1 : Int), .int .i64 (t.2.2 : Int)]] w fun e w' => e = .returned (.int .i64 (dnT U V t)) ∧ Below w.heap.size w w' := by
  obtain ⟨k, i, e⟩ := t
  simp only at h1 h2
  obtain ⟨b, o, hao, c0⟩ := rU k h2
  subst hao
  obtain ⟨b', o', hao', d0⟩ := rV i h1
  subst hao'
  have hB := ((Below.refl w.heap.size w).alloc (Nat.le_refl _) (.cells #[.slice (some ⟨b, o, none⟩) u ucap, .slice (some ⟨b', o', none⟩) v vcap] 34)).alloc (by simp) (.cells #[.int .i64 (k : Int), .int .i64 (i : Int), .int .i64 (e : Int)] 76)
  replace c0 := keep_cell hB (Nat.le_refl _) c0
  replace d0 := keep_cell hB (Nat.le_refl _) d0
  have hk1 : (0 : Int) ≤ (k : Int) := by omega
  have hk2 : (k : Int) < (u : Int) := by omega
  have hi1 : (0 : Int) ≤ (i : Int) := by omega
  have hi2 : (i : Int) < (v : Int) := by omega
  obtain ⟨uk0, uk1⟩ := hU k h2
  obtain ⟨vi0, vi1⟩ := hV i h1
  go_enter Tryz.func50, Tryz.ntmps50
  go_wp2
  go_quiet (first | (go_at_call 80; refine Calls.quiet_of_same (plus_any _ _ (by assumption) (by assumption) (by assumption) (by assumption) _)))
  go_wp2
  go_ret
  exact ⟨rfl, below_drewN hB _⟩

end Go.Proofs.YtokaechbmnbbiabGreat

/-
  An edge of a right list is wellformed.
-/
set_option linter.unusedVariables false
set_option linter.unusedSimpArgs false
namespace Go.Proofs.YtokaechbmnbbiabGreat
open Go.RowKit Go.Maps
attribute [local go_sem ↓] Go.wp_at_zero Go.wp_at_succ

theorem edge_wf {l h p : Int} (he : edgeB l h p = true) (hp : p ≤ 24) : (Lit.int .i64 l).wf = true ∧ (Lit.int .i64 h).wf = true := by
  have := edgeB_in he
  exact ⟨WalkArith.wf_i64 (by omega), WalkArith.wf_i64 (by omega)⟩

end Go.Proofs.YtokaechbmnbbiabGreat

/-
  The program's iterator over triangles: what it hands over, whatever the rounds do, as long as its edges can be read and its own memory stays.
-/
set_option linter.unusedVariables false
set_option linter.unusedSimpArgs false
namespace Go.Proofs.YtokaechbmnbbiabGreat
open Go.RowKit Go.Shelf Go.Maps
attribute [local go_sem] Oper.semAt_some

theorem triangles_any (eo : Option Addr) (m ecap : Nat) (w : World) :
    Calls Tryz.prog 48 #[.slice eo m ecap] w fun e w' => e = .returned (.func (.func 105) #[] #[.pointer (some ⟨w.heap.size, 0, none⟩)]) ∧ w' = w.alloc (.cells #[.slice eo m ecap] 28) := by
  go_enter Tryz.func48, Tryz.ntmps48
  go_wp2
  go_ret
  exact ⟨rfl, rfl⟩

/-- Cells and maps from B on lie as they lay. -/
structure KeepsOwn (B : Nat) (W W' : World) : Prop where
  size : W.heap.size ≤ W'.heap.size
  same : ∀ (k : Nat) (o : Obj), B ≤ k → W.heap[k]? = some o → (o.isCells = true ∨ o.isWalk = true) → W'.heap[k]? = some o
theorem KeepsOwn.trans {B : Nat} {X Y Z : World} (h : KeepsOwn B X Y) (k : KeepsOwn B Y Z) : KeepsOwn B X Z := ⟨Nat.le_trans h.size k.size, fun i o hB hi ho => k.same i o hB (h.same i o hB hi ho) ho⟩
theorem KeepsOwn.putObj {B : Nat} {W : World} {l : Nat} {o o' : Obj} (hl : W.heap[l]? = some o) (h1 : o.isCells = false) (h2 : o.isWalk = false) : KeepsOwn B W (W.putObj l o') :=
  ⟨by simp [World.putObj], fun k x _ hk hx => by
    by_cases e : k = l
    · subst e
      rw [hl] at hk
      cases hk
      rw [h1, h2] at hx
      simp at hx
    · rw [World.putObj_heap_other e]; exact hk⟩
theorem KeepsOwn.cell {B b o : Nat} {W W' : World} {v : Value} (h : KeepsOwn B W W') (hb : B ≤ b) (hc : W.cell? ⟨b, o, none⟩ = some v) (hk : ∃ cur t fr, W.heap[b]? = some (.cells cur t fr)) : W'.cell? ⟨b, o, none⟩ = some v := by
  obtain ⟨cur, t, fr, hk⟩ := hk
  have := h.same b _ hb hk (.inl rfl)
  rw [World.cell?_of_block (show W'.heap[b]? = W.heap[b]? by rw [this, hk])]
  exact hc

theorem owns_walk {P : Program} {k : TypeId} {R : Value → Option (DataW Unit × List MemPlace)} {b n : Nat} {D : DataW Unit} {w : World} {o : Obj} (h : w.ownsMap P k R b n D) (ho : w.heap[b]? = some o) : o.isWalk = true := by
  unfold World.ownsMap at h
  rw [ho] at h
  cases o <;> simp_all [Obj.isWalk]
def trv (t : Tr) : Value := .agg #[.int .i64 (t.1 : Int), .int .i64 (t.2.1 : Int), .int .i64 (t.2.2 : Int)]

set_option maxRecDepth 100000 in
set_option maxHeartbeats 4000000 in
theorem tri_core (n : Nat) (hn : 1 ≤ n) (l bE : Nat) (eo : Option Addr) (m ecap : Nat) (L H : Nat → Int) (p : Int) (hm : m ≤ 1048576) (hp : p ≤ 24) (he : edB p L H m = true) (hc : ChdTo m L H m) (J Jx : List Tr → World → Prop) (W : World) (hJ : AbidesFrom W.heap.size J)
    (hRd : ∀ pre W1, J pre W1 → W1.cell? ⟨bE, 0, none⟩ = some (.slice eo m ecap) ∧ ERow W1 eo m L H)
    (hY : ∀ pre t W1, TOk m L H t → pre.length < m * m → J pre W1 → YieldAt Fence.wide (n - 1) Tryz.prog l #[trv t] W1 fun e W' => (e = .returned (.bool true) ∧ J (pre ++ [t]) W' ∧ KeepsOwn W.heap.size W1 W') ∨ (e = .returned (.bool false) ∧ Jx (pre ++ [t]) W'))
    (h0 : J [] W) :
    CallsIn Fence.wide n Tryz.prog 105 #[.func (.yield l) #[] #[], .pointer (some ⟨bE, 0, none⟩)] W fun e W' => (∃ v, e = .returned v) ∧ (J (allT m L H m) W' ∨ ∃ pre, Jx pre W') := by
  obtain ⟨r1, r2⟩ := hRd _ _ h0
  have hwf : EWf L H m := fun k hk => edge_wf (edB_at m he k hk) hp
  have HW : Hid (EWf L H m) := hwf
  clear hwf
  refine callsIn_of_wp Tryz.func105 rfl trivial ?_ rfl
  simp only [Tryz.ntmps105, List.size_toArray, List.length_cons, List.length_nil, Nat.reduceAdd, Nat.reduceSub, Array.replicate_succ, Array.replicate_zero, List.push_toArray, List.append_toArray, List.nil_append, List.cons_append]
  gi_wp2_with fail
  refine ⟨trivial, ?_⟩
  refine (callsIn_wide.2 (edgeNumbers_any eo m ecap L H hm HW.out _ r2)).mono ?_
  rintro e w1 ⟨rfl, hm1, hb1⟩
  have hJ1 : J [] w1 := hJ _ _ _ none h0 ⟨hb1.os, hb1.tape, hb1.output, hb1.size, fun k hk _ => hb1.block k hk⟩ (fun r e => by cases e)
  obtain ⟨s1, s2⟩ := hRd _ _ hJ1
  clear r1 r2 h0 hb1
  gi_wp2
  clear s1 s2
  gi_loopw [12] (fun x wr => ∃ i : Nat, i ≤ m ∧ x = .int .i64 i ∧ J (allT m L H i) wr ∧ wr.ownsMap Tryz.prog 62 (plainElem Tryz.prog 3) W.heap.size m (enums L H m)) (fun x _ => m - (intOf x).toNat)
  case atStart => exact ⟨0, Nat.zero_le _, rfl, hJ1, hm1⟩
  case round =>
    clear hJ1 hm1
    obtain ⟨i, hi, rfl, hJi, hmi⟩ := hrel
    by_cases hlt : i < m
    rotate_left
    · have him : i = m := by omega
      subst him
      gi_wp2
      go_end0
      exact ⟨⟨_, rfl⟩, .inl hJi⟩
    obtain ⟨s1, s2⟩ := hRd _ _ hJi
    obtain ⟨b, o, hao, c0, c1⟩ := s2 i hlt
    subst hao
    have hi1 : (0 : Int) ≤ (i : Int) := by omega
    have hi2 : (i : Int) < (m : Int) := by omega
    have hml := hmi.lt
    have hm' := hmi.alloc (.cells #[.int .i64 (L i), .int .i64 (H i)] 62)
    have hJ' : J (allT m L H i) (wr.alloc (.cells #[.int .i64 (L i), .int .i64 (H i)] 62)) := hJ _ _ _ none hJi (World.grownBy_alloc wr _ none) (fun r e => by cases e)
    have hLb : (wr.alloc (.cells #[.int .i64 (L i), .int .i64 (H i)] 62)).heap[wr.heap.size]? = some (.cells #[.int .i64 (L i), .int .i64 (H i)] 62) := World.alloc_heap_new wr _
    clear hJi hmi s1 s2
    obtain ⟨W0, hW0⟩ : ∃ W0, W0 = wr := ⟨_, rfl⟩
    subst hW0
    gi_wp2
    clear c0 c1
    gi_loopw [6] (fun x wq => ∃ (kk : Nat) (pre : List Tr), i < kk ∧ kk ≤ m ∧ x = .int .i64 kk ∧ pre ++ rowT m L H i (m - kk) kk = allT m L H (i + 1) ∧ J pre wq ∧ wq.ownsMap Tryz.prog 62 (plainElem Tryz.prog 3) W.heap.size m (enums L H m) ∧ wq.heap[W0.heap.size]? = some (.cells #[.int .i64 (L i), .int .i64 (H i)] 62)) (fun x _ => m - (intOf x).toNat)
    case atStart => exact ⟨i + 1, allT m L H i, by omega, by omega, by go_num, rfl, hJ', hm', hLb⟩
    case round =>
      clear hJ' hm' hLb
      obtain ⟨kk, pre, hik, hkm, rfl, hall, hJk, hmk, hLb⟩ := hrel
      obtain ⟨r1, r2⟩ := hRd _ _ hJk
      have f0 : wr.cell? ⟨W0.heap.size, 0, none⟩ = some (.int .i64 (L i)) := by simp [World.cell?, hLb]
      have f1 : wr.cell? ⟨W0.heap.size, 1, none⟩ = some (.int .i64 (H i)) := by simp [World.cell?, hLb]
      have HALL : Hid (pre ++ rowT m L H i (m - kk) kk = allT m L H (i + 1)) := hall
      clear hall
      by_cases hkn : kk < m
      rotate_left
      · have HE : Hid (pre = allT m L H (i + 1)) := by
          have := HALL.out
          rw [rowT_stop (by omega), List.append_nil] at this
          exact this
        have hd : decide ((kk : Int) < (m : Int)) = false := by simp; omega
        gi_wp2
        refine wpIn_region_quiet_lit rfl (by kernel_rfl) (by kernel_rfl) ?_
        repeat (first | gi_big_quiet_step (fail) | (refine BigFrame.wpQuietIn_skip (fun _ _ _ _ => trivial) rfl ?_; simp only [go_sem, Act.put, List.setIfInBounds_toArray, List.set_cons_succ, List.set_cons_zero]))
        refine wpQuietIn_nil ?_
        intro _ hw'
        obtain ⟨nq, hw''⟩ := hw'
        subst hw''
        gi_wp2
        go_roundw
        case rel => exact ⟨i + 1, by omega, by go_num, by rw [← HE.out]; exact hJ _ _ _ none hJk ⟨rfl, rfl, rfl, Nat.le_refl _, fun _ _ _ => rfl⟩ (fun r e => by cases e), ownsMap_block hmk rfl⟩
        case measure => simp [intOf]; omega
      obtain ⟨b', o', hao', d0, d1⟩ := r2 kk hkn
      simp only [Option.some.injEq, Addr.mk.injEq, and_true] at hao'
      obtain ⟨rfl, rfl⟩ := hao'
      have hd : decide ((kk : Int) < (m : Int)) = true := by simp; omega
      have hk1 : (0 : Int) ≤ (kk : Int) := by omega
      have hk2 : (kk : Int) < (m : Int) := by omega
      by_cases hL : L kk = L i
      rotate_left
      · have HE : Hid (pre = allT m L H (i + 1)) := by
          have := HALL.out
          rw [rowT_stop (fun h => hL h.2), List.append_nil] at this
          exact this
        have hLd : decide (L kk = L i) = false := by simpa using hL
        gi_wp2
        refine wpIn_region_quiet_lit rfl (by kernel_rfl) (by kernel_rfl) ?_
        repeat (first | gi_big_quiet_step (fail) | (refine BigFrame.wpQuietIn_skip (fun _ _ _ _ => trivial) rfl ?_; simp only [go_sem, Act.put, List.setIfInBounds_toArray, List.set_cons_succ, List.set_cons_zero]))
        refine wpQuietIn_nil ?_
        intro _ hw'
        obtain ⟨nq, hw''⟩ := hw'
        subst hw''
        gi_wp2
        go_roundw
        case rel => exact ⟨i + 1, by omega, by go_num, by rw [← HE.out]; exact hJ _ _ _ none hJk ⟨rfl, rfl, rfl, Nat.le_refl _, fun _ _ _ => rfl⟩ (fun r e => by cases e), ownsMap_block hmk rfl⟩
        case measure => simp [intOf]; omega
      have HT : Hid (TOk m L H (i, kk, fnd L H (H i) (H kk) m)) := tok_of he hc hik hkn hL
      have HG : Hid (rowT m L H i (m - kk) kk = (i, kk, fnd L H (H i) (H kk) m) :: rowT m L H i (m - (kk + 1)) (kk + 1)) := rowT_go hkn hL
      rw [hL] at d0
      clear hL
      obtain ⟨E, hE⟩ : ∃ E, fnd L H (H i) (H kk) m = E := ⟨_, rfl⟩
      rw [hE] at HT HG
      clear hE
      gi_wp2
      refine wpIn_region_quiet_lit rfl (by kernel_rfl) (by kernel_rfl) ?_
      repeat (first | gi_big_quiet_step (fail) | (refine BigFrame.wpQuietIn_skip (fun _ _ _ _ => trivial) rfl ?_; simp only [go_sem, Act.put, List.setIfInBounds_toArray, List.set_cons_succ, List.set_cons_zero]))
      refine wpQuietIn_nil ?_
      intro _ hw'
      obtain ⟨nq, hw''⟩ := hw'
      subst hw''
      have hJ5 : J pre (wr.drewN nq) := hJ _ _ _ none hJk ⟨rfl, rfl, rfl, Nat.le_refl _, fun _ _ _ => rfl⟩ (fun r e => by cases e)
      have hm5 : (wr.drewN nq).ownsMap Tryz.prog 62 (plainElem Tryz.prog 3) W.heap.size m (enums L H m) := ownsMap_block hmk rfl
      have hL5 : (wr.drewN nq).heap[W0.heap.size]? = some (.cells #[.int .i64 (L i), .int .i64 (H i)] 62) := hLb
      clear r1 r2 f0 f1 d0 d1 hJk hmk hLb
      generalize wr.drewN nq = W5 at hJ5 hm5 hL5 ⊢
      obtain ⟨r1, r2⟩ := hRd _ _ hJ5
      have f0 : W5.cell? ⟨W0.heap.size, 0, none⟩ = some (.int .i64 (L i)) := by simp [World.cell?, hL5]
      have f1 : W5.cell? ⟨W0.heap.size, 1, none⟩ = some (.int .i64 (H i)) := by simp [World.cell?, hL5]
      obtain ⟨b', o', hao', d0, d1⟩ := r2 kk hkn
      simp only [Option.some.injEq, Addr.mk.injEq, and_true] at hao'
      obtain ⟨rfl, rfl⟩ := hao'
      have hlk : ∀ q, (Instr.lookup 84 (.map (some W.heap.size)) (.agg #[.int .i64 (H i), .int .i64 (H kk)]) false).run Tryz.prog (W5.drewN q) = .ok (.int .i64 (E : Int)) (W5.drewN q) := fun q => by
        have hkey := key_edge (H i) (H kk) (HW.out i hlt).2 (HW.out kk hkn).2
        obtain ⟨c, hrun, hat, _⟩ := (ownsMap_block (w' := W5.drewN q) hm5 rfl).lookup_int Tryz.keyLawE Tryz.underlying84 Tryz.underlying3 (Tryz.mapZeroE _) hkey
        rcases enums_look L H (H i) (H kk) (HW.out i hlt).2 (HW.out kk hkn).2 m HW.out with ⟨_, h2⟩ | ⟨x, hx, h1, h2, _, h4⟩
        · exact absurd ⟨HT.out.2.2.2.2.2.1, HT.out.2.2.2.2.2.2⟩ (h2 E HT.out.2.2.1)
        · have hxE : x = E := ed_once he hx HT.out.2.2.1 (by rw [h1]; exact HT.out.2.2.2.2.2.1.symm) (by rw [h2]; exact HT.out.2.2.2.2.2.2.symm)
          rw [h4, hxE] at hat
          simp only [DataW.lit.injEq, Lit.int.injEq, true_and] at hat
          rw [hrun, hat]
      gi_wp2
      refine wpIn_region_quiet_lit rfl (by kernel_rfl) (by kernel_rfl) ?_
      repeat (first | gi_big_quiet_step (fail) | (refine BigFrame.wpQuietIn_skip (fun _ _ _ _ => trivial) rfl ?_; simp only [go_sem, Act.put, List.setIfInBounds_toArray, List.set_cons_succ, List.set_cons_zero]))
      refine wpQuietIn_nil ?_
      intro _ hw'
      obtain ⟨nq, hw''⟩ := hw'
      subst hw''
      have hJ6 : J pre (W5.drewN nq) := hJ _ _ _ none hJ5 ⟨rfl, rfl, rfl, Nat.le_refl _, fun _ _ _ => rfl⟩ (fun r e => by cases e)
      have hm6 : (W5.drewN nq).ownsMap Tryz.prog 62 (plainElem Tryz.prog 3) W.heap.size m (enums L H m) := ownsMap_block hm5 rfl
      have hL6 : (W5.drewN nq).heap[W0.heap.size]? = some (.cells #[.int .i64 (L i), .int .i64 (H i)] 62) := hL5
      clear r1 r2 f0 f1 d0 d1 hJ5 hm5 hL5 hlk
      generalize W5.drewN nq = W6 at hJ6 hm6 hL6 ⊢
      have hlen : pre.length < m * m := by
        have h1 := congrArg List.length HALL.out
        rw [HG.out] at h1
        have h2 := allT_len (n := m) (L := L) (H := H) (i + 1)
        have h3 : (i + 1) * m ≤ m * m := Nat.mul_le_mul_right m (by omega)
        simp only [List.length_append, List.length_cons] at h1
        omega
      obtain ⟨fn, tmps, assign, body, hy, hR⟩ := hY pre (i, kk, E) W6 HT.out hlen hJ6
      have hR' := hR.mono (R' := fun e W' => ∃ b : Bool, e = .returned (.bool b) ∧ ((b = true ∧ J (pre ++ [(i, kk, E)]) W' ∧ KeepsOwn W.heap.size W6 W') ∨ (b = false ∧ Jx (pre ++ [(i, kk, E)]) W'))) (fun e W' h => by
        rcases h with ⟨h1, h2⟩ | ⟨h1, h2⟩
        · exact ⟨true, h1, .inl ⟨rfl, h2⟩⟩
        · exact ⟨false, h1, .inr ⟨rfl, h2⟩⟩)
      clear hR
      simp only [trv] at hy
      gi_wp2
      refine hR'.mono ?_
      rintro e W7 ⟨bb, rfl, hor⟩
      rcases hor with ⟨rfl, hJ7, hK7⟩ | ⟨rfl, hJx7⟩
      · have hm7 : W7.ownsMap Tryz.prog 62 (plainElem Tryz.prog 3) W.heap.size m (enums L H m) := by
          refine ownsMap_block hm6 ?_
          obtain ⟨o6, ho6⟩ : ∃ o6, W6.heap[W.heap.size]? = some o6 := ⟨_, Array.getElem?_eq_getElem hm6.lt⟩
          rw [ho6]
          exact hK7.same _ _ (Nat.le_refl _) ho6 (.inr (owns_walk hm6 ho6))
        have hL7 := hK7.same _ _ (by omega) hL6 (.inl rfl)
        gi_wp2
        go_roundw
        case rel => exact ⟨kk + 1, pre ++ [(i, kk, E)], by omega, by omega, by go_num, by rw [← HALL.out, HG.out]; simp, hJ7, hm7, hL7⟩
        case measure => simp [intOf]; omega
      · gi_wp2
        refine bodyPost_ret (results_none rfl _ _ _) rfl ?_
        exact ⟨⟨_, rfl⟩, .inr ⟨_, hJx7⟩⟩

end Go.Proofs.YtokaechbmnbbiabGreat

/-
  The iterator over triangles as a range over a function wants it.
-/
set_option linter.unusedVariables false
set_option linter.unusedSimpArgs false
namespace Go.Proofs.YtokaechbmnbbiabGreat
open Go.RowKit Go.Shelf Go.Maps

abbrev TrO (m : Nat) (L H : Nat → Int) := { t : Tr // TOk m L H t }
/-- What the iterator reads: its box and its edges. -/
def TRd (bE : Nat) (eo : Option Addr) (m ecap : Nat) (L H : Nat → Int) (W : World) : Prop := W.cell? ⟨bE, 0, none⟩ = some (.slice eo m ecap) ∧ ERow W eo m L H
theorem TRd.grown {bE : Nat} {eo : Option Addr} {m ecap : Nat} {L H : Nat → Int} {W W' : World} {row : Option Nat} (h : TRd bE eo m ecap L H W) (hg : W.grownBy W' row) (hr : ∀ r, row = some r → ∃ o : Obj, W.heap[r]? = some o ∧ o.isCells = false) : TRd bE eo m ecap L H W' :=
  ⟨cell_kept h.1 hg hr, fun k hk => by
    obtain ⟨b, o, e, c0, c1⟩ := h.2 k hk
    exact ⟨b, o, e, cell_kept c0 hg hr, cell_kept c1 hg hr⟩⟩
theorem TRd.putObj {bE : Nat} {eo : Option Addr} {m ecap : Nat} {L H : Nat → Int} {W : World} {l : Nat} {o o' : Obj} (h : TRd bE eo m ecap L H W) (hl : W.heap[l]? = some o) (ho : o.isCells = false) : TRd bE eo m ecap L H (W.putObj l o') :=
  h.grown (grownBy_putObj' W l o') (fun r e => by cases e; exact ⟨o, hl, ho⟩)
/-- What a round owes the iterator. -/
def TKp (B bE : Nat) (eo : Option Addr) (m ecap : Nat) (L H : Nat → Int) (W W' : World) : Prop := KeepsOwn B W W' ∧ (TRd bE eo m ecap L H W → TRd bE eo m ecap L H W')
theorem KeepsOwn.less {B B' : Nat} {W W' : World} (h : KeepsOwn B W W') (hB : B ≤ B') : KeepsOwn B' W W' := ⟨h.size, fun k o hk => h.same k o (by omega)⟩

theorem tri_stops (n : Nat) (hn : 1 ≤ n) (bE : Nat) (eo : Option Addr) (m ecap : Nat) (L H : Nat → Int) (p : Int) (hm : m ≤ 1048576) (hp : p ≤ 24) (he : edB p L H m = true) (hc : ChdTo m L H m) (w : World) (hR : TRd bE eo m ecap L H w) :
    SeqStopsK Fence.wide n Tryz.prog 105 #[.pointer (some ⟨bE, 0, none⟩)] (fun x : TrO m L H => #[trv x.1]) (TKp w.heap.size bE eo m ecap L H) (fun xs => xs.map (·.1) = allT m L H m) (fun _ => True) (m * m) w := fun l J Jx W hW hJ hJx hY h0 => by
  have hRW : TRd bE eo m ecap L H W := hR.grown (row := none) ⟨hW.os, hW.tape, hW.output, hW.size, fun k hk _ => hW.block k hk⟩ (fun r e => by cases e)
  refine (tri_core n hn l bE eo m ecap L H p hm hp he hc (fun pre W => (∃ xs : List (TrO m L H), xs.map (·.1) = pre ∧ J xs W) ∧ TRd bE eo m ecap L H W) (fun pre W => ∃ xs : List (TrO m L H), Jx xs W) W ?_ (fun _ _ h => h.2) ?_ ⟨⟨[], rfl, h0⟩, hRW⟩).mono ?_
  · rintro s A B row ⟨⟨xs, e, h1⟩, h2⟩ hg hr
    exact ⟨⟨xs, e, hJ xs A B row h1 hg hr⟩, h2.grown hg (fun r e => by obtain ⟨_, o, ho, hw⟩ := hr r e; exact ⟨o, ho, Obj.not_cells_of_walk hw⟩)⟩
  · rintro pre t W1 ht hlen ⟨⟨xs, rfl, h1⟩, h2⟩
    obtain ⟨fn, tmps, assign, body, hy, hR1⟩ := hY xs ⟨t, ht⟩ W1 h1 (by simpa using hlen)
    refine ⟨fn, tmps, assign, body, hy, hR1.mono ?_⟩
    rintro e W' (⟨h3, h4, h5, h6⟩ | ⟨h3, h4⟩)
    · exact .inl ⟨h3, ⟨⟨xs ++ [⟨t, ht⟩], by simp, h4⟩, h6 h2⟩, h5.less hW.size⟩
    · exact .inr ⟨h3, _, h4⟩
  · rintro e W' ⟨hv, (⟨⟨xs, e, h1⟩, _⟩ | ⟨pre, xs, h1⟩)⟩
    · exact ⟨hv, .inl ⟨xs, e, h1⟩⟩
    · exact ⟨hv, .inr ⟨xs, trivial, h1⟩⟩

end Go.Proofs.YtokaechbmnbbiabGreat

/-
  A range over a function whose loop variable lies in a box that each round makes anew.
-/
set_option linter.unusedVariables false
set_option linter.unusedSimpArgs false
namespace Go.Proofs.YtokaechbmnbbiabGreat
open Go Go.RowKit

section
variable {F : Fence} {n : Nat} {P : Program}
theorem range_boxed {α : Type} {g : Operand} {ps : Array Tmp} {assign body : Code} {Q : Exit → Act → World → Prop} {a : Act} {w : World}
    (hro : F.round = none) (h1 : 1 ≤ n) {gf : Nat} {lb : Array Value} (hg : a.eval g = .func (.func gf) #[] lb) (hFg : F.fn gf) (eg : ∀ args w, (callFunc gf args).run P w = .ok (.enter gf args) w)
    {encs : α → Array Value} {Kp : World → World → Prop} {S Sp : List α → Prop} {N : Nat} {w0 : World} (hseq : SeqStopsK F (n - 1) P gf lb encs Kp S Sp N w0)
    (hKt : ∀ {A B C : World}, Kp A B → Kp B C → Kp A C) (hKb : ∀ (W : World) (l : Nat) (o o' : Obj), w.heap.size ≤ l → W.heap[l]? = some o → o.isCells = false → o.isWalk = false → Kp W (W.putObj l o')) (hKa : ∀ (W : World) (o : Obj), Kp W (W.alloc o)) (hb0 : Below w0.heap.size w0 w) (hps : ∀ x, (encs x).size = ps.size)
    (I : List α → World → Prop) (Ix : Code → List α → World → Prop) (hI : OwnFrom w.heap.size I) (hIx : ∀ c, OwnFrom w.heap.size (Ix c)) (hIs : ∀ pre W, I pre W → w.heap.size ≤ W.heap.size) (h0 : I [] w) (d : Nat) (cs : α → Array Value) (T : TypeId)
    (hassign : ∀ (l : Nat) (x : α) (W : World) (K : Act → World → Prop), K { tmps := ((ps.zip (encs x)).foldl (fun t (p, v) => t.setIfInBounds p v) a.tmps).setIfInBounds d (.pointer (some ⟨W.heap.size, 0, none⟩)), defers := [] } (W.alloc (.cells (cs x) T)) →
      assign.wpIn (F.inRound l) (n - 1 - 1) P (Exit.then K (fun _ _ _ => False)) { tmps := (ps.zip (encs x)).foldl (fun t (p, v) => t.setIfInBounds p v) a.tmps, defers := [] } W)
    (hbody : ∀ (l : Nat) (pre : List α) (x : α) (bT : Nat) (W : World), I pre W → w.heap.size ≤ bT → W.heap[bT]? = some (.cells (cs x) T) → body.wpIn (F.inRound l) (n - 1 - 1) P (ownPostG w.heap.size Kp I Ix (pre ++ [x]) W) { tmps := ((ps.zip (encs x)).foldl (fun t (p, v) => t.setIfInBounds p v) a.tmps).setIfInBounds d (.pointer (some ⟨bT, 0, none⟩)), defers := [] } W)
    (hdone : ∀ (D : Nat) (xs : List α) (W : World), w.heap.size ≤ D → S xs → I xs W → W.heap[D]? = some (.deferred (some [])) → Q .normal { a with defers := { target := .collected D, args := #[] } :: a.defers } W)
    (hstop : ∀ (D : Nat) (c : Code) (pre : List α) (W : World), w.heap.size ≤ D → Sp pre → Ix c pre W → W.heap[D]? = some (.deferred (some [])) → c.wpIn F n P Q { a with defers := { target := .collected D, args := #[] } :: a.defers } W) :
    (Code.rangeFunc g ps assign body).wpIn F n P Q a w := by
  refine wpIn_rangeFunc_ownH hro h1 hg hFg eg hseq (fun h k => hKt h k) hKb hb0 hps I Ix hI hIx h0
    (fun x a' W => ∃ bT, a' = { tmps := ((ps.zip (encs x)).foldl (fun t (p, v) => t.setIfInBounds p v) a.tmps).setIfInBounds d (.pointer (some ⟨bT, 0, none⟩)), defers := [] } ∧ w.heap.size ≤ bT ∧ W.heap[bT]? = some (.cells (cs x) T)) ?_ ?_ ?_ hdone hstop
  · rintro x a' _ W W' row ⟨bT, rfl, hb, hc⟩ hg hr
    refine ⟨bT, rfl, hb, ?_⟩
    rw [hg.block bT (Array.getElem?_eq_some_iff.1 hc).1 (fun e => ?_)]
    · exact hc
    · obtain ⟨_, o, ho, hn⟩ := hr bT e.symm
      rw [hc] at ho
      cases ho
      cases hn
  · intro l pre x W K hi hK
    exact hassign l x W K (hK _ _ ((KeepsOthers.alloc W _).from _) (hKa W _) (hI.alloc _ hi) ⟨_, rfl, hIs _ _ hi, World.alloc_heap_new W _⟩)
  · rintro l pre x a' W _ _ hi ⟨bT, rfl, hb, hc⟩ _
    exact hbody l pre x bT W hi hb hc
end

end Go.Proofs.YtokaechbmnbbiabGreat
