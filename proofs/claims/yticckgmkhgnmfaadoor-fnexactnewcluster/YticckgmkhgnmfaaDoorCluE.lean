/-
  The exact laws' helpers over servers without lists.
-/
import Derived.Test.YticckgmkhgnmfaaDoorCluP
import Derived.Test.YticckgmkhgnmfaaDoorNewF
import Derived.Test.YticckgmkhgnmfaaDoorGard
set_option linter.unusedVariables false
set_option linter.unusedSimpArgs false
namespace Go.Proofs.YticckgmkhgnmfaaDoor
open Go Go.RowKit
attribute [local go_sem ↓] Go.wp_at_zero Go.wp_at_succ

theorem exec_nd_off {o : Oper} {ev : Operand → Value} {x : Operand} {b off : Nat} {W : World} {n : Nd} {s : NdS} (ho : o.op = .load 51 x) (hx : ev x = .pointer (some ⟨b, off, none⟩)) (h : ∀ j, j < 10 → W.cell? ⟨b, off + j, none⟩ = some (lf (ndL n s) j)) : (execOp ev o).run Tryd.prog W = .ok (.value (ndV n s)) W := by
  have c0 := h 0 (by omega)
  have c1 := h 1 (by omega)
  have c2 := h 2 (by omega)
  have c3 := h 3 (by omega)
  have c4 := h 4 (by omega)
  have c5 := h 5 (by omega)
  have c6 := h 6 (by omega)
  have c7 := h 7 (by omega)
  have c8 := h 8 (by omega)
  have c9 := h 9 (by omega)
  simp [lf] at c0 c1 c2 c3 c4 c5 c6 c7 c8 c9
  unfold execOp
  simp [ho, hx, go_sem, c0, c1, c2, c3, c4, c5, c6, c7, c8, c9]
/-- A server without lists. -/
def nz (i p t v r c : Int) : Nq := ⟨⟨i, p, t, v, [], r, c, [], [], []⟩, ns0⟩
def NilL (l : List Nq) : Prop := ∀ q ∈ l, ∃ i p t v r c, q = nz i p t v r c
theorem newL_nil (p : Int) : ∀ k, NilL (newL p k)
  | 0 => fun q hq => by cases hq
  | k + 1 => fun q hq => by
    rcases List.mem_append.1 hq with h | h
    · exact newL_nil p k q h
    · simp at h
      exact ⟨_, _, _, _, _, _, h⟩
set_option maxRecDepth 100000 in
set_option maxHeartbeats 4000000 in
theorem eqNodeS_any (l : List Nq) (hN : NilL l) (hl : l.length ≤ 1048576) (ao ao' : Option Addr) (cap cap' : Nat) (w : World) (hr : LRow w 51 ao (clc l)) (hr' : LRow w 51 ao' (clc l)) : Calls Tryd.prog 25 #[.slice ao l.length cap, .slice ao' l.length cap'] w fun e w' => e = .returned (.bool true) ∧ RB w w' := by
  go_enter Tryd.func25, Tryd.ntmps25
  go_wp2
  go_loopw [5] (fun x5 wr => ∃ k : Nat, k ≤ l.length ∧ x5 = .int .i64 (k : Int) ∧ RB w wr) (fun x _ => l.length - (intOf x).toNat)
  case atStart => exact ⟨0, Nat.zero_le _, rfl, RB.refl _⟩
  case round =>
    obtain ⟨k, hk, rfl, hb⟩ := hrel
    by_cases hlt : k < l.length
    rotate_left
    · obtain rfl : k = l.length := by omega
      go_wp2
      go_ret
      exact ⟨rfl, hb⟩
    have hne : clc l ≠ [] := fun z => by have := clc_len l; rw [z] at this; simp at this; omega
    obtain ⟨b, o, e, _⟩ := hr hne
    subst e
    obtain ⟨b', o', e, _⟩ := hr' hne
    subst e
    obtain ⟨q, hq⟩ : ∃ q, l[k]? = some q := ⟨l[k], by simp [hlt]⟩
    obtain ⟨i, p, t, v, r, c, hqn⟩ := hN q (List.mem_of_getElem? hq)
    have hlt' : (k : Int) < (l.length : Int) := by omega
    have hk0 : (0 : Int) ≤ (k : Int) := by omega
    have hkn : (k : Int).toNat = k := by omega
    have hw1 : IntKind.i64.wrap ((k : Int) + 1) = (k : Int) + 1 := by rw [IntKind.wrap_i64]; omega
    go_wp2_with fail
    have hd : RB wr wr.drew := (Below.refl _ _).drew
    have hb2 := RB.trans _ _ _ hb hd
    have hr3 := hr.next hb2
    have hr4 := hr'.next hb2
    refine region_all (by kernel_rfl) (by kernel_rfl) RB RB.refl RB.trans
      [isV (.slice (some ⟨b, o, none⟩) l.length cap), isV (.int .i64 (k : Int)), isV (.pointer (some ⟨b, o + k * 10, none⟩)), isV (ndV q.n q.s), isV (.slice (some ⟨b', o', none⟩) l.length cap'), isV (.int .i64 (k : Int)), isV (.pointer (some ⟨b', o' + k * 10, none⟩)), isV (ndV q.n q.s), isV (.bool true), isV (.bool false)]
      ⟨isV.rb, isV.rb, isV.rb, isV.rb, isV.rb, isV.rb, isV.rb, isV.rb, isV.rb, isV.rb, trivial⟩ rfl ?_ ?_
    · refine allOk_cons ?_ (allOk_cons ?_ (allOk_cons ?_ (allOk_cons ?_ (allOk_cons ?_ (allOk_cons ?_ (allOk_cons ?_ (allOk_cons ?_ (allOk_cons ?_ (allOk_cons ?_ allOk_nil)))))))))
      · exact OpOk.get RB.refl _ (fun _ => rfl) fun ev w' v hR E pr => by
          have e1 : ev (.tmp 0) = .slice (some ⟨b, o, none⟩) l.length cap := E.was 0 _
          simp [go_sem, e1]
      · exact OpOk.get RB.refl _ (fun _ => rfl) fun ev w' v hR E pr => by
          have e1 : ev (.tmp 5) = .int .i64 (k : Int) := E.was 5 _
          simp [go_sem, e1]
      · exact OpOk.get RB.refl _ (fun _ => rfl) fun ev w' v hR E pr => by
          have e1 : ev (.tmp 17) = .slice (some ⟨b, o, none⟩) l.length cap := E.get pr 0 17
          have e2 : ev (.tmp 18) = .int .i64 (k : Int) := E.get pr 1 18
          simp [go_sem, e1, e2, hlt', hk0, hkn]
      · exact OpOk.get RB.refl _ (fun _ => rfl) fun ev w' v hR E pr => by
          have e1 : ev (.tmp 19) = .pointer (some ⟨b, o + k * 10, none⟩) := E.get pr 2 19
          exact exec_nd_off rfl e1 (fun j hj => clc_row (hr3.next hR) hq j hj)
      · exact OpOk.get RB.refl _ (fun _ => rfl) fun ev w' v hR E pr => by
          have e1 : ev (.tmp 1) = .slice (some ⟨b', o', none⟩) l.length cap' := E.was 1 _
          simp [go_sem, e1]
      · exact OpOk.get RB.refl _ (fun _ => rfl) fun ev w' v hR E pr => by
          have e1 : ev (.tmp 5) = .int .i64 (k : Int) := E.was 5 _
          simp [go_sem, e1]
      · exact OpOk.get RB.refl _ (fun _ => rfl) fun ev w' v hR E pr => by
          have e1 : ev (.tmp 21) = .slice (some ⟨b', o', none⟩) l.length cap' := E.get pr 4 21
          have e2 : ev (.tmp 22) = .int .i64 (k : Int) := E.get pr 5 22
          simp [go_sem, e1, e2, hlt', hk0, hkn]
      · exact OpOk.get RB.refl _ (fun _ => rfl) fun ev w' v hR E pr => by
          have e1 : ev (.tmp 23) = .pointer (some ⟨b', o' + k * 10, none⟩) := E.get pr 6 23
          exact exec_nd_off rfl e1 (fun j hj => clc_row (hr4.next hR) hq j hj)
      · exact OpOk.ret _ (fun _ => rfl) fun ev w' v hR E pr => by
          have e1 : ev (.tmp 20) = ndV q.n q.s := E.get pr 3 20
          have e2 : ev (.tmp 24) = ndV q.n q.s := E.get pr 7 24
          refine ⟨48, #[ndV q.n q.s, ndV q.n q.s], by simp [go_sem, e1, e2, E.fn], ?_⟩
          rw [hqn]
          exact eqNode_nil _ _ _ _ _ _ _
      · exact OpOk.get RB.refl _ (fun _ => rfl) fun ev w' v hR E pr => by
          have e1 : ev (.tmp 25) = .bool true := E.get pr 8 25
          simp [go_sem, e1]
    intro v9 w9 hR9 hp9
    obtain ⟨p0, p1, p2, p3, p4, p5, p6, p7, p8, p9, _⟩ := hp9
    replace p0 : v9 0 = .slice (some ⟨b, o, none⟩) l.length cap := p0
    replace p1 : v9 1 = .int .i64 (k : Int) := p1
    replace p2 : v9 2 = .pointer (some ⟨b, o + k * 10, none⟩) := p2
    replace p3 : v9 3 = ndV q.n q.s := p3
    replace p4 : v9 4 = .slice (some ⟨b', o', none⟩) l.length cap' := p4
    replace p5 : v9 5 = .int .i64 (k : Int) := p5
    replace p6 : v9 6 = .pointer (some ⟨b', o' + k * 10, none⟩) := p6
    replace p7 : v9 7 = ndV q.n q.s := p7
    replace p8 : v9 8 = .bool true := p8
    replace p9 : v9 9 = .bool false := p9
    simp only [putL, Nat.zero_add, Nat.reduceAdd, p0, p1, p2, p3, p4, p5, p6, p7, p8, p9, Act.put, List.setIfInBounds_toArray, List.set_cons_zero, List.set_cons_succ]
    clear hq hqn hr3 hr4
    go_wp2
    go_roundw
    case rel => exact ⟨k + 1, by omega, by go_num, RB.trans _ _ _ hb2 hR9⟩
    case measure => simp [intOf]; omega
theorem eqMessageS_none (w : World) : Calls Tryd.prog 26 #[.slice none 0 0, .slice none 0 0] w fun e w' => e = .returned (.bool true) ∧ w' = w := by
  go_enter Tryd.func26, Tryd.ntmps26
  go_wp2
  go_loopw [5] (fun x5 wr => x5 = .int .i64 0 ∧ wr = w) (fun _ _ => 0)
  case atStart => exact ⟨rfl, rfl⟩
  case round =>
    obtain ⟨rfl, rfl⟩ := hrel
    go_wp2
    go_ret
    exact ⟨rfl, rfl⟩
theorem markMessageS_none (k : Int) (w : World) : Calls Tryd.prog 28 #[.slice none 0 0, .int .i64 k] w fun e w' => e = .returned (.int .i64 k) ∧ w' = w := by
  go_enter Tryd.func28, Tryd.ntmps28
  go_wp2
  go_loopw [1, 5] (fun x1 x5 wr => x1 = .int .i64 k ∧ x5 = .int .i64 0 ∧ wr = w) (fun _ _ _ => 0)
  case atStart => exact ⟨rfl, rfl, rfl⟩
  case round =>
    obtain ⟨rfl, rfl, rfl⟩ := hrel
    go_wp2
    go_ret
    exact ⟨rfl, rfl⟩
theorem heldMessageS_none (k : Int) (w : World) : Calls Tryd.prog 30 #[.slice none 0 0, .int .i64 k] w fun e w' => e = .returned (.int .i64 k) ∧ w' = w := by
  go_enter Tryd.func30, Tryd.ntmps30
  go_wp2
  go_loopw [1, 5] (fun x1 x5 wr => x1 = .int .i64 k ∧ x5 = .int .i64 0 ∧ wr = w) (fun _ _ _ => 0)
  case atStart => exact ⟨rfl, rfl, rfl⟩
  case round =>
    obtain ⟨rfl, rfl, rfl⟩ := hrel
    go_wp2
    go_ret
    exact ⟨rfl, rfl⟩
/-- Two clusters of the same servers without lists, nothing under way. -/
theorem eqCluster_any (l : List Nq) (hN : NilL l) (hl : l.length ≤ 1048576) (ao ao' : Option Addr) (cap cap' : Nat) (w : World) (hr : LRow w 51 ao (clc l)) (hr' : LRow w 51 ao' (clc l)) : Calls Tryd.prog 7 #[.agg #[.slice ao l.length cap, .slice none 0 0], .agg #[.slice ao' l.length cap', .slice none 0 0]] w fun e w' => e = .returned (.bool true) ∧ RB w w' := by
  have hb := RB.trans _ _ _ (RB.alloc w (.cells #[.slice ao l.length cap, .slice none 0 0] 25)) (RB.alloc _ (.cells #[.slice ao' l.length cap', .slice none 0 0] 25))
  have vA : VHas ((w.alloc (.cells #[.slice ao l.length cap, .slice none 0 0] 25)).alloc (.cells #[.slice ao' l.length cap', .slice none 0 0] 25)) w.heap.size 25 2 (lf [.slice ao l.length cap, .slice none 0 0]) := (box_new w [.slice ao l.length cap, .slice none 0 0] 25).next (RB.alloc _ _)
  have vB : VHas ((w.alloc (.cells #[.slice ao l.length cap, .slice none 0 0] 25)).alloc (.cells #[.slice ao' l.length cap', .slice none 0 0] 25)) (w.heap.size + 1) 25 2 (lf [.slice ao' l.length cap', .slice none 0 0]) := by
    have := box_new (w.alloc (.cells #[.slice ao l.length cap, .slice none 0 0] 25)) [.slice ao' l.length cap', .slice none 0 0] 25
    rw [World.size_alloc] at this
    exact this
  go_enter Tryd.func7, Tryd.ntmps7
  go_wp2_with fail
  generalize ((w.alloc (.cells #[.slice ao l.length cap, .slice none 0 0] 25)).alloc (.cells #[.slice ao' l.length cap', .slice none 0 0] 25)) = W at hb vA vB ⊢
  refine (eqNodeS_any l hN hl ao ao' cap cap' _ (hr.next hb) (hr'.next hb)).mono ?_
  rintro e w1 ⟨rfl, hb1⟩
  replace vA := vA.next hb1
  replace vB := vB.next hb1
  have y1 := vA.cell (j := 1) (by omega)
  have z1 := vB.cell (j := 1) (by omega)
  simp [lf] at y1 z1
  go_wp2_with fail
  refine (eqMessageS_none _).mono ?_
  rintro e w2 ⟨rfl, hw2⟩
  subst hw2
  go_wp2
  go_ret
  exact ⟨rfl, RB.trans _ _ _ hb hb1⟩
/-- The row that is written, where there is one. -/
def rwQ (n b : Nat) : Option Nat := if n = 0 then none else some b
theorem rwQ_pos {n b x : Nat} (h : rwQ n b = some x) : 0 < n ∧ x = b := by
  unfold rwQ at h
  split at h
  · cases h
  · exact ⟨by omega, (Option.some.inj h).symm⟩
/-- The marks. -/
def mkQ (z : Int) : Nq := nz z (z + 1) (z + 2) (z + 3) (z + 4) (z + 5)
def mkL (k : Nat) : Nat → List Nq
  | 0 => []
  | i + 1 => mkL k i ++ [mkQ ((k : Int) + 6 * (i : Int))]
theorem mkL_len (k : Nat) : ∀ n, (mkL k n).length = n
  | 0 => rfl
  | n + 1 => by simp [mkL, mkL_len k n]
theorem mkL_at (k : Nat) : ∀ {n i : Nat}, i < n → (mkL k n)[i]? = some (mkQ ((k : Int) + 6 * (i : Int)))
  | 0, i, h => by omega
  | n + 1, i, h => by
    simp only [mkL]
    by_cases e : i = n
    · subst e
      rw [List.getElem?_append_right (by rw [mkL_len]; omega), mkL_len]
      simp
    · rw [List.getElem?_append_left (by rw [mkL_len]; omega)]
      exact mkL_at k (by omega)
theorem clc_lf {l : List Nq} {m i : Nat} {q : Nq} (hq : l[m]? = some q) (hi : i < 10) : lf (clc l) (m * 10 + i) = lf (ndL q.n q.s) i := by
  simp only [lf, List.getD_eq_getElem?_getD]
  rw [clc_at hq hi]
set_option maxRecDepth 100000 in
set_option maxHeartbeats 4000000 in
theorem markNodeS_any (l : List Nq) (hN : NilL l) (hl : l.length ≤ 1000) (b cap k : Nat) (hk : k ≤ 1000000) (w : World) (hv : 0 < l.length → VHas w b 51 (l.length * 10) (lf (clc l))) (ao : Option Addr) (hao : 0 < l.length → ao = some ⟨b, 0, none⟩) : Calls Tryd.prog 27 #[.slice ao l.length cap, .int .i64 (k : Int)] w fun e w' => e = .returned (.int .i64 ((k : Int) + 6 * (l.length : Int))) ∧ (0 < l.length → VHas w' b 51 (l.length * 10) (lf (clc (mkL k l.length)))) ∧ w.grownBy w' (rwQ l.length b) := by
  by_cases h0 : l.length = 0
  · rw [show rwQ l.length b = none by simp [rwQ, h0]]
    have hl0 : (l.length : Int) = 0 := by omega
    rw [h0]
    go_enter Tryd.func27, Tryd.ntmps27
    go_wp2
    go_loopw [1, 5] (fun x1 x5 wr => x1 = .int .i64 (k : Int) ∧ x5 = .int .i64 0 ∧ wr = w) (fun _ _ _ => 0)
    case atStart => exact ⟨rfl, rfl, rfl⟩
    case round =>
      obtain ⟨rfl, rfl, rfl⟩ := hrel
      go_wp2
      go_ret
      exact ⟨by simp, fun h => absurd h (Nat.lt_irrefl _), World.grownBy.refl _ _⟩
  rw [show rwQ l.length b = some b by simp [rwQ, h0]]
  have hv0 := hv (by omega)
  obtain rfl := hao (by omega)
  clear hv hao
  go_enter Tryd.func27, Tryd.ntmps27
  go_wp2
  go_loopw [1, 5] (fun x1 x5 wr => ∃ (m : Nat) (z : Int), m ≤ l.length ∧ x5 = .int .i64 (m : Int) ∧ x1 = .int .i64 z ∧ Hid (z = (k : Int) + 6 * (m : Int)) ∧ VHas wr b 51 (l.length * 10) (fun j => if j < m * 10 then lf (clc (mkL k l.length)) j else lf (clc l) j) ∧ w.grownBy wr (some b)) (fun _ x _ => l.length - (intOf x).toNat)
  case atStart => exact ⟨0, k, Nat.zero_le _, rfl, rfl, (by show (k : Int) = _; omega), hv0.congr (fun j hj => by simp), World.grownBy.refl _ _⟩
  case round =>
    obtain ⟨m, z, hm, rfl, rfl, HZ, hh, hg⟩ := hrel
    by_cases hlt : m < l.length
    rotate_left
    · obtain rfl : m = l.length := by omega
      have ez := HZ.out
      subst ez
      go_wp2
      go_ret
      exact ⟨rfl, fun _ => hh.congr (fun j hj => by rw [if_pos hj]), hg⟩
    obtain ⟨q, hq⟩ : ∃ q, l[m]? = some q := ⟨l[m], by simp [hlt]⟩
    obtain ⟨i0, p0, t0, v0, r0, c0, hqn⟩ := hN q (List.mem_of_getElem? hq)
    have hz := HZ.out
    have hz0 : 0 ≤ z ∧ z ≤ 2000000 := by omega
    have hlt' : (m : Int) < (l.length : Int) := by omega
    have hw1 : IntKind.i64.wrap ((m : Int) + 1) = (m : Int) + 1 := by rw [IntKind.wrap_i64]; omega
    have u1 : IntKind.i64.wrap (z + 1) = z + 1 := by rw [IntKind.wrap_i64]; omega
    have u2 : IntKind.i64.wrap (z + 1 + 1) = z + 1 + 1 := by rw [IntKind.wrap_i64]; omega
    have u3 : IntKind.i64.wrap (z + 1 + 1 + 1) = z + 1 + 1 + 1 := by rw [IntKind.wrap_i64]; omega
    have u4 : IntKind.i64.wrap (z + 1 + 1 + 1 + 1) = z + 1 + 1 + 1 + 1 := by rw [IntKind.wrap_i64]; omega
    have u5 : IntKind.i64.wrap (z + 1 + 1 + 1 + 1 + 1) = z + 1 + 1 + 1 + 1 + 1 := by rw [IntKind.wrap_i64]; omega
    have u6 : IntKind.i64.wrap (z + 1 + 1 + 1 + 1 + 1 + 1) = z + 1 + 1 + 1 + 1 + 1 + 1 := by rw [IntKind.wrap_i64]; omega
    have hsl : ∀ i, i = 4 ∨ i = 7 ∨ i = 8 ∨ i = 9 → lf (clc l) (m * 10 + i) = .slice none 0 0 := fun i hi => by
      rw [clc_lf hq (by omega), hqn]
      rcases hi with rfl | rfl | rfl | rfl <;> rfl
    have hB4 := hsl 4 (by omega)
    have hB7 := hsl 7 (by omega)
    have hB8 := hsl 8 (by omega)
    have hB9 := hsl 9 (by omega)
    clear hz hsl hq hqn
    have hm10 : m * 10 + 10 ≤ l.length * 10 := by omega
    go_wp2_with (first | (with_reducible refine wpList_cell rfl 2 (.tmp 16) (.tmp 14) rfl rfl b (m * 10) (.int .i64 (z)) (by simp [go_sem]) (by simp [go_sem]) hh (by omega) (by kernel_rfl) rfl (oneV (by kernel_rfl)) ?_; intro W0 hW; replace hg := hg.trans (gr_setCell _ b (m * 10) (.int .i64 (z))); replace hh := hh.set (m * 10) (.int .i64 (z)); rw [← hW] at hg hh; clear hW) | (with_reducible refine wpList_cell rfl 2 (.tmp 23) (.tmp 21) rfl rfl b (m * 10 + 1) (.int .i64 (z + 1)) (by simp [go_sem]) (by simp [go_sem]) hh (by omega) (by kernel_rfl) rfl (oneV (by kernel_rfl)) ?_; intro W1 hW; replace hg := hg.trans (gr_setCell _ b (m * 10 + 1) (.int .i64 (z + 1))); replace hh := hh.set (m * 10 + 1) (.int .i64 (z + 1)); rw [← hW] at hg hh; clear hW) | (with_reducible refine wpList_cell rfl 2 (.tmp 30) (.tmp 28) rfl rfl b (m * 10 + 2) (.int .i64 (z + 1 + 1)) (by simp [go_sem]) (by simp [go_sem]) hh (by omega) (by kernel_rfl) rfl (oneV (by kernel_rfl)) ?_; intro W2 hW; replace hg := hg.trans (gr_setCell _ b (m * 10 + 2) (.int .i64 (z + 1 + 1))); replace hh := hh.set (m * 10 + 2) (.int .i64 (z + 1 + 1)); rw [← hW] at hg hh; clear hW) | (with_reducible refine wpList_cell rfl 2 (.tmp 37) (.tmp 35) rfl rfl b (m * 10 + 3) (.int .i64 (z + 1 + 1 + 1)) (by simp [go_sem]) (by simp [go_sem]) hh (by omega) (by kernel_rfl) rfl (oneV (by kernel_rfl)) ?_; intro W3 hW; replace hg := hg.trans (gr_setCell _ b (m * 10 + 3) (.int .i64 (z + 1 + 1 + 1))); replace hh := hh.set (m * 10 + 3) (.int .i64 (z + 1 + 1 + 1)); rw [← hW] at hg hh; clear hW; have c4 := hh.cell (j := m * 10 + 4) (by omega); simp [hB4] at c4) | fail)
    refine (markEntryS_nil _ _).mono ?_
    rintro e w1 ⟨rfl, rfl⟩
    clear c4
    go_wp2_with (first | (with_reducible refine wpList_cell rfl 2 (.tmp 51) (.tmp 49) rfl rfl b (m * 10 + 5) (.int .i64 (z + 1 + 1 + 1 + 1)) (by simp [go_sem]) (by simp [go_sem]) hh (by omega) (by kernel_rfl) rfl (oneV (by kernel_rfl)) ?_; intro W5 hW; replace hg := hg.trans (gr_setCell _ b (m * 10 + 5) (.int .i64 (z + 1 + 1 + 1 + 1))); replace hh := hh.set (m * 10 + 5) (.int .i64 (z + 1 + 1 + 1 + 1)); rw [← hW] at hg hh; clear hW) | (with_reducible refine wpList_cell rfl 2 (.tmp 58) (.tmp 56) rfl rfl b (m * 10 + 6) (.int .i64 (z + 1 + 1 + 1 + 1 + 1)) (by simp [go_sem]) (by simp [go_sem]) hh (by omega) (by kernel_rfl) rfl (oneV (by kernel_rfl)) ?_; intro W6 hW; replace hg := hg.trans (gr_setCell _ b (m * 10 + 6) (.int .i64 (z + 1 + 1 + 1 + 1 + 1))); replace hh := hh.set (m * 10 + 6) (.int .i64 (z + 1 + 1 + 1 + 1 + 1)); rw [← hW] at hg hh; clear hW; have c7 := hh.cell (j := m * 10 + 7) (by omega); simp [hB7] at c7; have c8 := hh.cell (j := m * 10 + 8) (by omega); simp [hB8] at c8; have c9 := hh.cell (j := m * 10 + 9) (by omega); simp [hB9] at c9) | fail)
    refine (markInt64S_nil _ _).mono ?_
    rintro e w1 ⟨rfl, rfl⟩
    go_wp2_with fail
    refine (markInt64S_nil _ _).mono ?_
    rintro e w1 ⟨rfl, rfl⟩
    go_wp2_with fail
    refine (markInt64S_nil _ _).mono ?_
    rintro e w1 ⟨rfl, rfl⟩
    clear c7 c8 c9
    go_wp2
    go_roundw
    case rel =>
      refine ⟨m + 1, z + 1 + 1 + 1 + 1 + 1 + 1, by omega, by go_num, rfl, (by show _ = _; have := HZ.out; omega), hh.congr (fun j hj => ?_), hg⟩
      have hz := HZ.out
      by_cases hj2 : j < m * 10
      · have : ¬ j = m * 10 + 6 ∧ ¬ j = m * 10 + 5 ∧ ¬ j = m * 10 + 3 ∧ ¬ j = m * 10 + 2 ∧ ¬ j = m * 10 + 1 ∧ ¬ j = m * 10 := by omega
        simp only [this, if_false, hj2, if_true]
        rw [if_pos (by omega)]
      by_cases hj3 : j < (m + 1) * 10
      rotate_left
      · have : ¬ j = m * 10 + 6 ∧ ¬ j = m * 10 + 5 ∧ ¬ j = m * 10 + 3 ∧ ¬ j = m * 10 + 2 ∧ ¬ j = m * 10 + 1 ∧ ¬ j = m * 10 := by omega
        simp only [this, if_false, hj2]
        rw [if_neg hj3]
      rw [if_pos hj3]
      have hmk := fun i (hi : i < 10) => clc_lf (mkL_at k hlt) hi
      obtain ⟨i, rfl⟩ : ∃ i, j = m * 10 + i := ⟨j - m * 10, by omega⟩
      have hi : i = 0 ∨ i = 1 ∨ i = 2 ∨ i = 3 ∨ i = 4 ∨ i = 5 ∨ i = 6 ∨ i = 7 ∨ i = 8 ∨ i = 9 := by omega
      rw [hmk i (by omega), ← hz]
      rcases hi with rfl | rfl | rfl | rfl | rfl | rfl | rfl | rfl | rfl | rfl
      · simp [mkQ, nz, lf]
      · simp [mkQ, nz, lf]
      · simp [mkQ, nz, lf]; omega
      · simp [mkQ, nz, lf]; omega
      · simp [hB4]; rfl
      · simp [mkQ, nz, lf]; omega
      · simp [mkQ, nz, lf]; omega
      · simp [hB7]; rfl
      · simp [hB8]; rfl
      · simp [hB9]; rfl
    case measure => simp [intOf]; omega
set_option maxRecDepth 100000 in
set_option maxHeartbeats 4000000 in
theorem heldNodeS_any (K : Nat) (hl : K ≤ 1000) (b cap k : Nat) (hk : k ≤ 1000000) (w : World) (hv : 0 < K → VHas w b 51 (K * 10) (lf (clc (mkL k K)))) (ao : Option Addr) (hao : 0 < K → ao = some ⟨b, 0, none⟩) : Calls Tryd.prog 29 #[.slice ao K cap, .int .i64 (k : Int)] w fun e w' => e = .returned (.int .i64 ((k : Int) + 6 * (K : Int))) ∧ w' = w := by
  go_enter Tryd.func29, Tryd.ntmps29
  go_wp2
  go_loopw [1, 5] (fun x1 x5 wr => ∃ (m : Nat) (z : Int), m ≤ K ∧ x5 = .int .i64 (m : Int) ∧ x1 = .int .i64 z ∧ Hid (z = (k : Int) + 6 * (m : Int)) ∧ wr = w) (fun _ x _ => K - (intOf x).toNat)
  case atStart => exact ⟨0, k, Nat.zero_le _, rfl, rfl, (by show (k : Int) = _; omega), rfl⟩
  case round =>
    obtain ⟨m, z, hm, rfl, rfl, HZ, rfl⟩ := hrel
    by_cases hlt : m < K
    rotate_left
    · obtain rfl : m = K := by omega
      have ez := HZ.out
      subst ez
      go_wp2
      go_ret
      exact ⟨rfl, rfl⟩
    have hh := hv (by omega)
    obtain rfl := hao (by omega)
    have hz := HZ.out
    have hz0 : 0 ≤ z ∧ z ≤ 2000000 := by omega
    have hmk := fun i (hi : i < 10) => clc_lf (mkL_at k hlt) hi
    rw [← hz] at hmk
    have hlt' : (m : Int) < (K : Int) := by omega
    have hw1 : IntKind.i64.wrap ((m : Int) + 1) = (m : Int) + 1 := by rw [IntKind.wrap_i64]; omega
    have u1 : IntKind.i64.wrap (z + 1) = z + 1 := by rw [IntKind.wrap_i64]; omega
    have u2 : IntKind.i64.wrap (z + 1 + 1) = z + 1 + 1 := by rw [IntKind.wrap_i64]; omega
    have u3 : IntKind.i64.wrap (z + 1 + 1 + 1) = z + 1 + 1 + 1 := by rw [IntKind.wrap_i64]; omega
    have u4 : IntKind.i64.wrap (z + 1 + 1 + 1 + 1) = z + 1 + 1 + 1 + 1 := by rw [IntKind.wrap_i64]; omega
    have u5 : IntKind.i64.wrap (z + 1 + 1 + 1 + 1 + 1) = z + 1 + 1 + 1 + 1 + 1 := by rw [IntKind.wrap_i64]; omega
    have u6 : IntKind.i64.wrap (z + 1 + 1 + 1 + 1 + 1 + 1) = z + 1 + 1 + 1 + 1 + 1 + 1 := by rw [IntKind.wrap_i64]; omega
    have a2 : z + 2 = z + 1 + 1 := by omega
    have a3 : z + 3 = z + 1 + 1 + 1 := by omega
    have a4 : z + 4 = z + 1 + 1 + 1 + 1 := by omega
    have a5 : z + 5 = z + 1 + 1 + 1 + 1 + 1 := by omega
    have c0 := hh.cell (j := m * 10 + 0) (by omega)
    rw [hmk 0 (by omega)] at c0
    have c1 := hh.cell (j := m * 10 + 1) (by omega)
    rw [hmk 1 (by omega)] at c1
    have c2 := hh.cell (j := m * 10 + 2) (by omega)
    rw [hmk 2 (by omega)] at c2
    have c3 := hh.cell (j := m * 10 + 3) (by omega)
    rw [hmk 3 (by omega)] at c3
    have c4 := hh.cell (j := m * 10 + 4) (by omega)
    rw [hmk 4 (by omega)] at c4
    have c5 := hh.cell (j := m * 10 + 5) (by omega)
    rw [hmk 5 (by omega)] at c5
    have c6 := hh.cell (j := m * 10 + 6) (by omega)
    rw [hmk 6 (by omega)] at c6
    have c7 := hh.cell (j := m * 10 + 7) (by omega)
    rw [hmk 7 (by omega)] at c7
    have c8 := hh.cell (j := m * 10 + 8) (by omega)
    rw [hmk 8 (by omega)] at c8
    have c9 := hh.cell (j := m * 10 + 9) (by omega)
    rw [hmk 9 (by omega)] at c9
    simp only [mkQ, nz, lf, a2, a3, a4, a5] at c0 c1 c2 c3 c4 c5 c6 c7 c8 c9
    simp only [Nat.add_zero, List.getD_cons_zero, List.getD_cons_succ, List.length_nil] at c0 c1 c2 c3 c4 c5 c6 c7 c8 c9
    clear hz hmk a2 a3 a4 a5 hh
    have hn4 : ¬ z + 1 + 1 + 1 + 1 < 0 := by omega
    have hn6 : ¬ z + 1 + 1 + 1 + 1 + 1 + 1 < 0 := by omega
    go_wp2_with fail
    refine (heldEntryS_nil _ _).mono ?_
    rintro e w1 ⟨rfl, rfl⟩
    go_wp2_with fail
    refine (heldInt64S_nil _ _).mono ?_
    rintro e w1 ⟨rfl, rfl⟩
    go_wp2_with fail
    refine (heldInt64S_nil _ _).mono ?_
    rintro e w1 ⟨rfl, rfl⟩
    go_wp2_with fail
    refine (heldInt64S_nil _ _).mono ?_
    rintro e w1 ⟨rfl, rfl⟩
    go_wp2
    go_roundw
    case rel => exact ⟨m + 1, z + 1 + 1 + 1 + 1 + 1 + 1, by omega, by go_num, rfl, (by show _ = _; have := HZ.out; omega), by first | rfl | trivial⟩
    case measure => simp [intOf]; omega
set_option maxRecDepth 100000 in
theorem markCluster_any (l : List Nq) (hN : NilL l) (hl : l.length ≤ 1000) (b cap k : Nat) (hk : k ≤ 1000000) (w : World) (hv : 0 < l.length → VHas w b 51 (l.length * 10) (lf (clc l))) (ao : Option Addr) (hao : 0 < l.length → ao = some ⟨b, 0, none⟩) : Calls Tryd.prog 8 #[.agg #[.slice ao l.length cap, .slice none 0 0], .int .i64 (k : Int)] w fun e w' => e = .returned (.int .i64 ((k : Int) + 6 * (l.length : Int))) ∧ (0 < l.length → VHas w' b 51 (l.length * 10) (lf (clc (mkL k l.length)))) ∧ w.grownBy w' (rwQ l.length b) := by
  have hb := RB.alloc w (.cells #[.slice ao l.length cap, .slice none 0 0] 25)
  have vA : VHas (w.alloc (.cells #[.slice ao l.length cap, .slice none 0 0] 25)) w.heap.size 25 2 (lf [.slice ao l.length cap, .slice none 0 0]) := box_new w [.slice ao l.length cap, .slice none 0 0] 25
  go_enter Tryd.func8, Tryd.ntmps8
  go_wp2_with fail
  generalize (w.alloc (.cells #[.slice ao l.length cap, .slice none 0 0] 25)) = W at hb vA ⊢
  refine (markNodeS_any l hN hl b cap k hk _ (fun hp => (hv hp).next hb) ao hao).mono ?_
  rintro e w1 ⟨rfl, hm, hg⟩
  have hT : ∀ x, rwQ l.length b = some x → Typed W x 51 := fun x e => by rw [(rwQ_pos e).2]; exact ((hv (rwQ_pos e).1).next hb).typed
  have y1 := (vA.gr hg hT (by decide)).cell (j := 1) (by omega)
  simp [lf] at y1
  go_wp2_with fail
  refine (markMessageS_none _ _).mono ?_
  rintro e w2 ⟨rfl, hw2⟩
  subst hw2
  go_wp2
  go_ret
  exact ⟨rfl, hm, ⟨hg.os.trans hb.os, hg.tape.trans hb.tape, hg.output.trans hb.output, Nat.le_trans hb.size hg.size, fun x hx hne => (hg.block x (Nat.lt_of_lt_of_le hx hb.size) hne).trans (hb.block x hx)⟩⟩
set_option maxRecDepth 100000 in
theorem heldCluster_any (K : Nat) (hl : K ≤ 1000) (b cap k : Nat) (hk : k ≤ 1000000) (w : World) (hv : 0 < K → VHas w b 51 (K * 10) (lf (clc (mkL k K)))) (ao : Option Addr) (hao : 0 < K → ao = some ⟨b, 0, none⟩) : Calls Tryd.prog 9 #[.agg #[.slice ao K cap, .slice none 0 0], .int .i64 (k : Int)] w fun e w' => e = .returned (.int .i64 ((k : Int) + 6 * (K : Int))) ∧ RB w w' := by
  have hb := RB.alloc w (.cells #[.slice ao K cap, .slice none 0 0] 25)
  have vA : VHas (w.alloc (.cells #[.slice ao K cap, .slice none 0 0] 25)) w.heap.size 25 2 (lf [.slice ao K cap, .slice none 0 0]) := box_new w [.slice ao K cap, .slice none 0 0] 25
  go_enter Tryd.func9, Tryd.ntmps9
  go_wp2_with fail
  generalize (w.alloc (.cells #[.slice ao K cap, .slice none 0 0] 25)) = W at hb vA ⊢
  refine (heldNodeS_any K hl b cap k hk _ (fun hp => (hv hp).next hb) ao hao).mono ?_
  rintro e w1 ⟨rfl, hw1⟩
  subst hw1
  have y1 := vA.cell (j := 1) (by omega)
  simp [lf] at y1
  have hn : ¬ (k : Int) + 6 * (K : Int) < 0 := by omega
  go_wp2_with fail
  refine (heldMessageS_none _ _).mono ?_
  rintro e w2 ⟨rfl, hw2⟩
  subst hw2
  go_wp2
  go_ret
  exact ⟨rfl, hb⟩

end Go.Proofs.YticckgmkhgnmfaaDoor
