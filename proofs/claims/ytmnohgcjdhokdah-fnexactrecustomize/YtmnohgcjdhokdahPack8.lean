/-
  Helpers, merged: RecS, Add, OwnI, Turns, OwnL, Steps, Room, RoomW.
-/
import Derived.Test.YtmnohgcjdhokdahPack7
import Derived.Test.YtmnohgcjdhokdahPack4
import Derived.Deep.QuietTactic
import Derived.Test.YtmnohgcjdhokdahPack1
import Derived.Test.YtmnohgcjdhokdahPack2
import Derived.Test.YtmnohgcjdhokdahPack3
import Derived.Test.YtmnohgcjdhokdahPack5
import Derived.Laws.CopyOwn
import Derived.Laws.Rows
/-
  Two metrics held against each other, the document's way.
-/
set_option linter.unusedVariables false
set_option linter.unusedSimpArgs false
namespace Go.Proofs.Ytmnohgcjdhokdah
open Go.RowKit Go.Deep Go.Joins
attribute [local go_sem ↓] Go.wp_at_zero Go.wp_at_succ

set_option maxRecDepth 100000 in
set_option maxHeartbeats 2000000 in
theorem l5Same_any (ao : Option Addr) (n acap : Nat) (f : Nat → Int) (bo : Option Addr) (m bcap : Nat) (g : Nat → Int) (co : Option Addr) (u ccap : Nat) (f' : Nat → Int) (dO : Option Addr) (v dcap : Nat) (g' : Nat → Int) (hn : n ≤ 1048576) (hm : m ≤ 1048576) (hu : u ≤ 1048576) (hv : v ≤ 1048576) (w : World) (ha : IRow w ao n f) (hb : IRow w bo m g) (hc : IRow w co u f') (hd : IRow w dO v g') :
    Calls Try.prog 97 #[.agg #[.slice ao n acap, .slice bo m bcap], .agg #[.slice co u ccap, .slice dO v dcap]] w fun e w' => BAns e (SameI n u f f' ∧ SameI m v g g') ∧ Below w.heap.size w w' := by
  have hB0 : Below w.heap.size w ((w.alloc (.cells #[.slice ao n acap, .slice bo m bcap] 35)).alloc (.cells #[.slice co u ccap, .slice dO v dcap] 35)) := ((Below.refl _ w).alloc (Nat.le_refl _) _).alloc (by simp) _
  by_cases h1 : (n : Int) = (u : Int)
  rotate_left
  · have HN : Hid (¬ (SameI n u f f' ∧ SameI m v g g')) := fun x => h1 (by have := x.1.1; omega)
    go_enter Try.func97, Try.ntmps97
    go_wp2
    go_ret
    exact ⟨bans_no HN.out, hB0⟩
  by_cases h2 : (m : Int) = (v : Int)
  rotate_left
  · have HN : Hid (¬ (SameI n u f f' ∧ SameI m v g g')) := fun x => h2 (by have := x.2.1; omega)
    go_enter Try.func97, Try.ntmps97
    go_wp2
    go_ret
    exact ⟨bans_no HN.out, hB0⟩
  obtain rfl : n = u := by omega
  obtain rfl : m = v := by omega
  clear h1 h2
  have q0 : ((w.alloc (.cells #[.slice ao n acap, .slice bo m bcap] 35)).alloc (.cells #[.slice co n ccap, .slice dO m dcap] 35)).cell? ⟨w.heap.size, 0, none⟩ = some (.slice ao n acap) := by simp [go_sem]
  have q1 : ((w.alloc (.cells #[.slice ao n acap, .slice bo m bcap] 35)).alloc (.cells #[.slice co n ccap, .slice dO m dcap] 35)).cell? ⟨w.heap.size, 1, none⟩ = some (.slice bo m bcap) := by simp [go_sem]
  have q2 : ((w.alloc (.cells #[.slice ao n acap, .slice bo m bcap] 35)).alloc (.cells #[.slice co n ccap, .slice dO m dcap] 35)).cell? ⟨w.heap.size + 1, 0, none⟩ = some (.slice co n ccap) := by simp [go_sem]
  have q3 : ((w.alloc (.cells #[.slice ao n acap, .slice bo m bcap] 35)).alloc (.cells #[.slice co n ccap, .slice dO m dcap] 35)).cell? ⟨w.heap.size + 1, 1, none⟩ = some (.slice dO m dcap) := by simp [go_sem]
  go_enter Try.func97, Try.ntmps97
  go_wp2
  have HR : Hid (IRow w ao n f ∧ IRow w bo m g ∧ IRow w co n f' ∧ IRow w dO m g') := ⟨ha, hb, hc, hd⟩
  clear ha hb hc hd
  generalize (w.alloc (.cells #[.slice ao n acap, .slice bo m bcap] 35)).alloc (.cells #[.slice co n ccap, .slice dO m dcap] 35) = W0 at hB0 q0 q1 q2 q3 ⊢
  go_loopw [5] (fun x wr => ∃ j : Nat, j ≤ n ∧ x = .int .i64 j ∧ (∀ i, i < j → f i = f' i) ∧ Below W0.heap.size W0 wr) (fun x _ => n - (intOf x).toNat)
  case atStart => exact ⟨0, Nat.zero_le _, rfl, fun i hi => by omega, Below.refl _ _⟩
  case round =>
    obtain ⟨j, hj, rfl, hall, hbel⟩ := hrel
    have HA : Hid (∀ i, i < j → f i = f' i) := hall
    have p0 := keep_cell hbel (Nat.le_refl _) q0
    have p1 := keep_cell hbel (Nat.le_refl _) q1
    have p2 := keep_cell hbel (Nat.le_refl _) q2
    have p3 := keep_cell hbel (Nat.le_refl _) q3
    have hB1 := below_next hB0 (Nat.le_refl _) hbel
    clear hall
    by_cases hlt : j < n
    · clear q0 q1 q2 q3
      obtain ⟨b1, o1, e1, c1⟩ := (HR.out.1.below hB1 (Nat.le_refl _)) j hlt
      subst e1
      obtain ⟨b2, o2, e2, c2⟩ := (HR.out.2.2.1.below hB1 (Nat.le_refl _)) j hlt
      subst e2
      have hk1 : (0 : Int) ≤ (j : Int) := by omega
      have hk2 : (j : Int) < (n : Int) := by omega
      by_cases he : f j = f' j
      · have HE : Hid (f j = f' j) := he
        rw [← he] at c2
        clear he
        go_wp2
        (try go_quiet (fail))
        go_wp2
        go_roundw
        case rel => exact ⟨j + 1, by omega, by go_num, fun i hi => by
          by_cases x : i = j
          · subst x; exact HE.out
          · exact HA.out i (by omega), by first | exact below_drewN hbel _ | exact hbel⟩
        case measure => simp [intOf]; omega
      · have HN : Hid (¬ (SameI n n f f' ∧ SameI m m g g')) := fun x => he (x.1.2 j hlt)
        go_wp2
        (try go_quiet (fail))
        go_wp2
        go_ret
        exact ⟨bans_no HN.out, by first | exact below_drewN hB1 _ | exact hB1⟩
    have hjn : j = n := by omega
    subst hjn
    have HF : Hid (SameI j j f f') := ⟨rfl, HA.out⟩
    clear HA p0 p1 p2 p3
    have p0 := keep_cell hbel (Nat.le_refl _) q0
    have p1 := keep_cell hbel (Nat.le_refl _) q1
    go_wp2
    clear p0 p1
    go_loopw [6] (fun x wq => ∃ j2 : Nat, j2 ≤ m ∧ x = .int .i64 j2 ∧ (∀ i, i < j2 → g i = g' i) ∧ Below W0.heap.size W0 wq) (fun x _ => m - (intOf x).toNat)
    case atStart => exact ⟨0, Nat.zero_le _, rfl, fun i hi => by omega, hbel⟩
    case round =>
      clear hbel hB1
      obtain ⟨j2, hj2, rfl, hall, hbel⟩ := hrel
      have HA : Hid (∀ i, i < j2 → g i = g' i) := hall
      have p0 := keep_cell hbel (Nat.le_refl _) q0
      have p1 := keep_cell hbel (Nat.le_refl _) q1
      have p2 := keep_cell hbel (Nat.le_refl _) q2
      have p3 := keep_cell hbel (Nat.le_refl _) q3
      have hB1 := below_next hB0 (Nat.le_refl _) hbel
      clear hall q0 q1 q2 q3
      by_cases hlt2 : j2 < m
      · obtain ⟨b1, o1, e1, c1⟩ := (HR.out.2.1.below hB1 (Nat.le_refl _)) j2 hlt2
        subst e1
        obtain ⟨b2, o2, e2, c2⟩ := (HR.out.2.2.2.below hB1 (Nat.le_refl _)) j2 hlt2
        subst e2
        have hk1 : (0 : Int) ≤ (j2 : Int) := by omega
        have hk2 : (j2 : Int) < (m : Int) := by omega
        by_cases he : g j2 = g' j2
        · have HE : Hid (g j2 = g' j2) := he
          rw [← he] at c2
          clear he
          go_wp2
          (try go_quiet (fail))
          go_wp2
          go_roundw
          case rel => exact ⟨j2 + 1, by omega, by go_num, fun i hi => by
            by_cases x : i = j2
            · subst x; exact HE.out
            · exact HA.out i (by omega), by first | exact below_drewN hbel _ | exact hbel⟩
          case measure => simp [intOf]; omega
        · have HN : Hid (¬ (SameI j j f f' ∧ SameI m m g g')) := fun x => he (x.2.2 j2 hlt2)
          go_wp2
          (try go_quiet (fail))
          go_wp2
          go_ret
          exact ⟨bans_no HN.out, by first | exact below_drewN hB1 _ | exact hB1⟩
      have hjm : j2 = m := by omega
      subst hjm
      have HY : Hid (SameI j j f f' ∧ SameI j2 j2 g g') := ⟨HF.out, rfl, HA.out⟩
      go_wp2
      go_ret
      exact ⟨bans_yes HY.out, hB1⟩

end Go.Proofs.Ytmnohgcjdhokdah

/-
  Sums that end at Far: the document's and the program's.
-/
set_option linter.unusedVariables false
set_option linter.unusedSimpArgs false
namespace Go.Proofs.Ytmnohgcjdhokdah
open Go.RowKit
attribute [local go_sem ↓] Go.wp_at_zero Go.wp_at_succ

theorem l1Min_any (a b : Int) (w : World) : Calls Try.prog 87 #[.int .i64 a, .int .i64 b] w fun e w' => e = .returned (.int .i64 (min a b)) ∧ w' = w := by
  by_cases h : a < b
  · go_enter Try.func87, Try.ntmps87
    go_wp2
    go_ret
    exact ⟨ret_i64 (by omega), rfl⟩
  · go_enter Try.func87, Try.ntmps87
    go_wp2
    go_ret
    exact ⟨ret_i64 (by omega), rfl⟩

theorem l1Add_any (a b : Int) (ha : 0 ≤ a) (ha' : a ≤ 1000000000000) (hb : 0 ≤ b) (hb' : b ≤ 1000000000000) (w : World) : Calls Try.prog 48 #[.int .i64 a, .int .i64 b] w fun e w' => e = .returned (.int .i64 (min 1000000000000 (a + b))) ∧ w' = w := by
  go_enter Try.func48, Try.ntmps48
  go_wp2_with (go_at_call 87; refine (l1Min_any _ _ _).mono ?_; rintro e w1 ⟨rfl, rfl⟩)
  go_ret
  exact ⟨rfl, rfl⟩

theorem plus_any (a b : Int) (ha : 0 ≤ a) (ha' : a ≤ 1000000000000) (hb : 0 ≤ b) (hb' : b ≤ 1000000000000) (w : World) : Calls Try.prog 92 #[.int .i64 a, .int .i64 b] w fun e w' => e = .returned (.int .i64 (min 1000000000000 (a + b))) ∧ w' = w := by
  go_enter Try.func92, Try.ntmps92
  go_wp2 <;>
  · go_ret
    exact ⟨ret_i64 (by omega), rfl⟩

end Go.Proofs.Ytmnohgcjdhokdah

/-
  A list of numbers of the call's own, or none yet, that grows by one.
-/
set_option linter.unusedVariables false
set_option linter.unusedSimpArgs false
namespace Go.Proofs.Ytmnohgcjdhokdah
open Go.RowKit

/-- n numbers behind a slice of the call's own, or a slice that is nil. -/
def OwnE (w : World) (base : Nat) (go : Option Addr) (n cap : Nat) (f : Nat → Int) : Prop := w.ownsRow base 2 1 (.slice go n cap) n (icells f n)
theorem OwnE.nil (w : World) (base : Nat) (f : Nat → Int) : OwnE w base none 0 0 f := ⟨by simp [icells], .inl ⟨rfl, rfl⟩⟩
theorem OwnE.at {w : World} {base n cap x : Nat} {go : Option Addr} {f : Nat → Int} (h : OwnE w base go n cap f) (e : (Value.slice go n cap).ownBlock = some x) : base ≤ x ∧ x < w.heap.size := World.ownsRow.lt h x e
theorem OwnE.of_block {w w' : World} {base n cap : Nat} {go : Option Addr} {f : Nat → Int} (h : OwnE w base go n cap f) (e : ∀ x, (Value.slice go n cap).ownBlock = some x → w'.heap[x]? = w.heap[x]?) : OwnE w' base go n cap f := by
  refine ⟨h.1, ?_⟩
  rcases h.2 with hn | ⟨g', cap', cur, hv, hb', hgg, rest⟩
  · exact .inl hn
  · have e2 := e g' (by rw [hv]; rfl)
    exact .inr ⟨g', cap', cur, hv, hb', e2.trans hgg, rest⟩
theorem OwnE.next {w w' : World} {base n cap : Nat} {go : Option Addr} {f : Nat → Int} (h : OwnE w base go n cap f) (hb : Below w.heap.size w w') : OwnE w' base go n cap f := h.of_block (fun x e => hb.block x (h.at e).2)
theorem OwnE.grown {w w' : World} {base n cap : Nat} {go : Option Addr} {f : Nat → Int} {row : Option Nat} (h : OwnE w base go n cap f) (hg : w.grownBy w' row) (hne : ∀ x, (Value.slice go n cap).ownBlock = some x → row ≠ some x) : OwnE w' base go n cap f := h.of_block (fun x e => hg.block x (h.at e).2 (fun q => hne x e q.symm))
theorem OwnE.has {w : World} {base n cap : Nat} {go : Option Addr} {f : Nat → Int} (h : OwnE w base go n cap f) (hn : 0 < n) : ∃ g, go = some ⟨g, 0, none⟩ ∧ base ≤ g ∧ IHas w g n f := by
  have h' := h
  obtain ⟨hl, h0 | ⟨g', cap', cur, hv, hb, hh, h1, h2, h3, h4⟩⟩ := h
  · omega
  · simp at hv
    obtain ⟨rfl, rfl⟩ := hv
    refine ⟨g', rfl, hb, cur, hh, by omega, fun j hj => ?_⟩
    have : (cur.toList.take (n * 1))[j]? = (icells f n)[j]? := by rw [h4]
    rw [List.getElem?_take_of_lt (by omega), icells_at hj] at this
    simpa using this
/-- The room of a list of numbers is what its slice says. -/
def Cap (w : World) (b cap : Nat) : Prop := ∃ cur : Array Value, w.heap[b]? = some (.cells cur 2 (0, 0)) ∧ cap ≤ maxLen ∧ cur.size = cap
theorem Cap.of_block {w w' : World} {b cap : Nat} (h : Cap w b cap) (e : w'.heap[b]? = w.heap[b]?) : Cap w' b cap := by
  obtain ⟨c, h1, h2, h3⟩ := h
  exact ⟨c, e.trans h1, h2, h3⟩
theorem Cap.lt {w : World} {b cap : Nat} (h : Cap w b cap) : b < w.heap.size := by
  obtain ⟨c, h1, h2, h3⟩ := h
  exact (Array.getElem?_eq_some_iff.1 h1).1
theorem Cap.set {w : World} {b cap : Nat} (h : Cap w b cap) (j : Nat) (v : Value) : Cap (w.setCell ⟨b, j, none⟩ v) b cap := by
  obtain ⟨c, h1, h2, h3⟩ := h
  exact ⟨c.setIfInBounds j v, by simp [World.setCell, Array.getElem?_modify, h1], h2, by simpa using h3⟩
theorem Cap.own {w : World} {b n cap base : Nat} {f : Nat → Int} (h : Cap w b cap) (hi : IHas w b n f) (hb : base ≤ b) : OwnE w base (some ⟨b, 0, none⟩) n cap f := by
  obtain ⟨c, h1, h2, h3⟩ := h
  obtain ⟨d, g1, g2, g3⟩ := hi
  rw [h1] at g1
  simp at g1
  subst g1
  refine ⟨by simp [icells], .inr ⟨b, cap, c, rfl, hb, h1, by omega, h2, by omega, ?_⟩⟩
  apply List.ext_getElem?
  intro j
  by_cases hj : j < n
  · rw [List.getElem?_take_of_lt (by omega), icells_at hj]
    simpa using g3 j hj
  · rw [List.getElem?_eq_none (by simp; omega), List.getElem?_eq_none (by simp [icells]; omega)]
theorem OwnE.capAt {w : World} {base n cap g : Nat} {go : Option Addr} {f : Nat → Int} (h : OwnE w base go n cap f) (e : go = some ⟨g, 0, none⟩) : Cap w g cap := by
  obtain ⟨hl, h0 | ⟨g', cap', cur, hv, hb, hh, h1, h2, h3, h4⟩⟩ := h
  · rw [e] at h0; simp at h0
  · rw [e] at hv
    simp at hv
    obtain ⟨rfl, rfl⟩ := hv
    exact ⟨cur, hh, h2, by omega⟩
theorem OwnE.room {w : World} {base n cap g : Nat} {go : Option Addr} {f : Nat → Int} (h : OwnE w base go n cap f) (e : go = some ⟨g, 0, none⟩) : n ≤ cap := by
  obtain ⟨hl, h0 | ⟨g', cap', cur, hv, hb, hh, h1, h2, h3, h4⟩⟩ := h
  · rw [e] at h0; simp at h0
  · rw [e] at hv
    simp at hv
    obtain ⟨rfl, rfl⟩ := hv
    exact h1
theorem own_blk {ao : Option Addr} {n cap x : Nat} (e : (Value.slice ao n cap).ownBlock = some x) : ∃ a, ao = some a ∧ a.block = x := by
  cases ao with
  | none => simp [Value.ownBlock] at e
  | some a => exact ⟨a, rfl, by simpa [Value.ownBlock] using e⟩
theorem wp_append_own {o : Oper} {a : Act} {w : World} {K : Act → World → Prop} {Q : Exit → Act → World → Prop} (s x : Operand)
    (ho : o.op = .call { callee := .builtin .append, args := #[s, x], argTypes := #[22, 22] }) (base k gc : Nat) (go : Option Addr) (f : Nat → Int) (hs : a.eval s = .slice go k gc) (hown : OwnE w base go k gc f) (B : Nat) (hx : a.eval x = .slice (some ⟨B, 0, none⟩) 1 1)
    (hB : w.cell? ⟨B, 0, none⟩ = some (.int .i64 (f k))) (hk : k ≤ 100000000) (hbase : base ≤ w.heap.size)
    (h : ∀ g' gc' w', OwnE w' base (some ⟨g', 0, none⟩) (k + 1) gc' f → w.grownBy w' (Value.slice go k gc).ownBlock → ((Value.slice go k gc).ownBlock = some g' ∨ g' = w.heap.size) → K (a.put o.dst (.slice (some ⟨g', 0, none⟩) (k + 1) gc')) w') : o.wp Try.prog a w K Q := by
  obtain ⟨i0, hi0, hz0, hz1, hz2⟩ := info_parts Try.infoInt
  refine wp_append_lies w s x 22 ho base 2 i0 _ 1 8 Try.underlying22 hi0 hz0 hz1 hz2 rfl (by omega) _ k (icells f k) hs hown ⟨B, 0, none⟩ 1 1 [.int .i64 (f k)] hx rfl ?_ ?_ (by omega) (by unfold maxLen; omega) (by omega) hbase w.heap.size rfl ?_
  · intro j u hu
    match j, hu with
    | 0, hu => simp at hu; subst hu; exact hB
    | j + 1, hu => simp at hu
  · intro u hu
    simp at hu
    subst hu; rfl
  · intro g' gc' w' hown' hgrow hat _
    rw [icells_put (f k) (fun _ _ => rfl) rfl] at hown'
    exact h g' gc' w' hown' hgrow hat
theorem step_append_own {ops : Array Oper} {o : Oper} {a : Act} {w : World} {K : Act → World → Prop} {Q : Exit → Act → World → Prop} {E : Prop} (hgd : o.guard = none) (s x : Operand)
    (ho : o.op = .call { callee := .builtin .append, args := #[s, x], argTypes := #[22, 22] }) (base k gc : Nat) (go : Option Addr) (f : Nat → Int) (hs : a.eval s = .slice go k gc) (hown : OwnE w base go k gc f) (B : Nat) (hx : a.eval x = .slice (some ⟨B, 0, none⟩) 1 1)
    (hB : w.cell? ⟨B, 0, none⟩ = some (.int .i64 (f k))) (hk : k ≤ 100000000) (hbase : base ≤ w.heap.size)
    (h : ∀ g' gc' w', OwnE w' base (some ⟨g', 0, none⟩) (k + 1) gc' f → w.grownBy w' (Value.slice go k gc).ownBlock → ((Value.slice go k gc).ownBlock = some g' ∨ g' = w.heap.size) → K (a.put o.dst (.slice (some ⟨g', 0, none⟩) (k + 1) gc')) w') :
    if Region.wanted o (yielded ops a.tmps) = true then Oper.wp Try.prog o a w K Q else E := by
  have hw : Region.wanted o (yielded ops a.tmps) = true := by simp [Region.wanted, hgd]
  rw [if_pos hw]
  exact wp_append_own s x ho base k gc go f hs hown B hx hB hk hbase h

end Go.Proofs.Ytmnohgcjdhokdah

/-
  What a call has turned: some blocks, named in a list; all else that lay lies as it lay.
-/
set_option linter.unusedVariables false
set_option linter.unusedSimpArgs false
namespace Go.Proofs.Ytmnohgcjdhokdah
open Go.RowKit

structure Turns (w w' : World) (S : List Nat) : Prop where
  os : w'.os = w.os
  tape : w'.tape = w.tape
  output : w'.output = w.output
  size : w.heap.size ≤ w'.heap.size
  block : ∀ k, k < w.heap.size → k ∉ S → w'.heap[k]? = w.heap[k]?
theorem Turns.refl (w : World) (S : List Nat) : Turns w w S := ⟨rfl, rfl, rfl, Nat.le_refl _, fun _ _ _ => rfl⟩
theorem Turns.of_below {w w' : World} {B : Nat} (h : Below B w w') (hB : w.heap.size ≤ B) (S : List Nat) : Turns w w' S := ⟨h.os, h.tape, h.output, h.size, fun k hk _ => h.block k (by omega)⟩
theorem Turns.of_grown {w w' : World} {b : Nat} (h : w.grownBy w' (some b)) : Turns w w' [b] := ⟨h.os, h.tape, h.output, h.size, fun k hk hn => h.block k hk (fun e => hn (by simp at e; simp [e]))⟩
theorem Turns.trans {w w1 w2 : World} {S : List Nat} (h : Turns w w1 S) (k : Turns w1 w2 S) : Turns w w2 S :=
  ⟨k.os.trans h.os, k.tape.trans h.tape, k.output.trans h.output, Nat.le_trans h.size k.size, fun j hj hn => (k.block j (Nat.lt_of_lt_of_le hj h.size) hn).trans (h.block j hj hn)⟩
theorem Turns.more {w w' : World} {S S' : List Nat} (h : Turns w w' S) (hs : ∀ x ∈ S, x ∈ S') : Turns w w' S' := ⟨h.os, h.tape, h.output, h.size, fun k hk hn => h.block k hk (fun hx => hn (hs k hx))⟩
theorem Turns.next {w w1 w2 : World} {S : List Nat} (h : Turns w w1 S) (hb : Below w1.heap.size w1 w2) : Turns w w2 S := h.trans (Turns.of_below hb (Nat.le_refl _) S)
theorem Turns.below {w w' : World} {S : List Nat} {B : Nat} (h : Turns w w' S) (hB : B ≤ w.heap.size) (hs : ∀ x ∈ S, B ≤ x) : Below B w w' :=
  ⟨h.os, h.tape, h.output, h.size, fun k hk => h.block k (by omega) (fun hx => by have := hs k hx; omega)⟩
theorem Turns.cell {w w' : World} {S : List Nat} {b o : Nat} {v : Value} (h : Turns w w' S) (hb : b ∉ S) (hc : w.cell? ⟨b, o, none⟩ = some v) : w'.cell? ⟨b, o, none⟩ = some v := by
  rw [World.cell?_of_block (h.block b (lt_of_cell hc) hb)]
  exact hc
theorem Turns.ihas {w w' : World} {S : List Nat} {b n : Nat} {f : Nat → Int} (h : Turns w w' S) (hb : b ∉ S) (hi : IHas w b n f) : IHas w' b n f := hi.of_block (h.block b hi.lt hb)
theorem Turns.ehas {w w' : World} {S : List Nat} {b n : Nat} {f : Nat → Int} (h : Turns w w' S) (hb : b ∉ S) (hi : EHas w b n f) : EHas w' b n f := hi.of_block (h.block b hi.lt hb)

/-- Two lists of one answer: their blocks, whatever is empty. -/
theorem pick2 {w W : World} {ao eo : Option Addr} {k m : Nat} {R S : Nat → Prop} (h1 : 0 < k → ∃ g, ao = some ⟨g, 0, none⟩ ∧ w.heap.size ≤ g ∧ R g) (h2 : 0 < m → ∃ g, eo = some ⟨g, 0, none⟩ ∧ w.heap.size ≤ g ∧ S g)
    (l1 : ∀ g, R g → g < W.heap.size) (l2 : ∀ g, S g → g < W.heap.size) (hne : ∀ g g', ao = some ⟨g, 0, none⟩ → eo = some ⟨g', 0, none⟩ → R g → S g' → g ≠ g') (hs : w.heap.size + 2 ≤ W.heap.size) :
    ∃ b c, (0 < k → ao = some ⟨b, 0, none⟩) ∧ (0 < k → R b) ∧ (0 < m → eo = some ⟨c, 0, none⟩) ∧ (0 < m → S c) ∧ (w.heap.size ≤ b ∧ b < W.heap.size) ∧ (w.heap.size ≤ c ∧ c < W.heap.size) ∧ b ≠ c := by
  by_cases hk : 0 < k
  · obtain ⟨g, e, hg, hR⟩ := h1 hk
    have := l1 g hR
    by_cases hm : 0 < m
    · obtain ⟨g', e', hg', hS⟩ := h2 hm
      have := l2 g' hS
      exact ⟨g, g', fun _ => e, fun _ => hR, fun _ => e', fun _ => hS, ⟨hg, by omega⟩, ⟨hg', by omega⟩, hne g g' e e' hR hS⟩
    · by_cases hx : g = w.heap.size
      · exact ⟨g, w.heap.size + 1, fun _ => e, fun _ => hR, fun h => absurd h hm, fun h => absurd h hm, ⟨hg, by omega⟩, ⟨by omega, by omega⟩, by omega⟩
      · exact ⟨g, w.heap.size, fun _ => e, fun _ => hR, fun h => absurd h hm, fun h => absurd h hm, ⟨hg, by omega⟩, ⟨by omega, by omega⟩, hx⟩
  · by_cases hm : 0 < m
    · obtain ⟨g', e', hg', hS⟩ := h2 hm
      have := l2 g' hS
      by_cases hx : g' = w.heap.size
      · exact ⟨w.heap.size + 1, g', fun h => absurd h hk, fun h => absurd h hk, fun _ => e', fun _ => hS, ⟨by omega, by omega⟩, ⟨hg', by omega⟩, by omega⟩
      · exact ⟨w.heap.size, g', fun h => absurd h hk, fun h => absurd h hk, fun _ => e', fun _ => hS, ⟨by omega, by omega⟩, ⟨hg', by omega⟩, fun e => hx e.symm⟩
    · exact ⟨w.heap.size, w.heap.size + 1, fun h => absurd h hk, fun h => absurd h hk, fun h => absurd h hm, fun h => absurd h hm, ⟨by omega, by omega⟩, ⟨by omega, by omega⟩, by omega⟩
theorem ihas_ehas {W : World} {b n m : Nat} {f g : Nat → Int} (h : IHas W b n f) (k : EHas W b m g) : False := by
  obtain ⟨c, h1, _⟩ := h
  obtain ⟨d, h2, _⟩ := k
  rw [h1] at h2
  simp at h2
theorem irow_at {W : World} {ao : Option Addr} {m b : Nat} {D : Nat → Int} (ha : 0 < m → ao = some ⟨b, 0, none⟩) (h : 0 < m → IHas W b m D) : IRow W ao m D := fun k hk => by
  rw [ha (by omega)]
  exact (h (by omega)).row k hk
theorem erow_at {W : World} {ao : Option Addr} {m b : Nat} {L H : Nat → Int} (ha : 0 < m → ao = some ⟨b, 0, none⟩) (h : 0 < m → EHas W b m (er L H)) : ERow W ao m L H := fun k hk => by
  rw [ha (by omega)]
  exact (h (by omega)).row k hk

end Go.Proofs.Ytmnohgcjdhokdah

/-
  A list of numbers of the call's own, or none yet, that grows by one: the law for the walk.
-/
set_option linter.unusedVariables false
set_option linter.unusedSimpArgs false
namespace Go.Proofs.Ytmnohgcjdhokdah
open Go.RowKit

/-- A box of two slices. -/
def me2 (a b : Value) (j : Nat) : Value := if j = 0 then a else b
/-- What stands while the two lists grow: blocks S + 3 holds the two, S + 2 the result. -/
structure CS (w : World) (c0 c1 c2 c3 : Value) (go : Option Addr) (j gc : Nat) (U : Nat → Int) (ho : Option Addr) (j' hc : Nat) (V : Nat → Int) (W : World) : Prop where
  bel : Below w.heap.size w W
  g0 : W.cell? ⟨w.heap.size, 0, none⟩ = some c0
  g1 : W.cell? ⟨w.heap.size, 1, none⟩ = some c1
  h0 : W.cell? ⟨w.heap.size + 1, 0, none⟩ = some c2
  h1 : W.cell? ⟨w.heap.size + 1, 1, none⟩ = some c3
  res : VHas W (w.heap.size + 2) 35 2 (me2 (.slice none 0 0) (.slice none 0 0))
  box : VHas W (w.heap.size + 3) 35 2 (me2 (.slice go j gc) (.slice ho j' hc))
  own1 : OwnE W (w.heap.size + 4) go j gc U
  own2 : OwnE W (w.heap.size + 4) ho j' hc V
  sep : ∀ x, (Value.slice go j gc).ownBlock = some x → (Value.slice ho j' hc).ownBlock ≠ some x
section
variable {w : World} {c0 c1 c2 c3 : Value} {go : Option Addr} {j gc : Nat} {U : Nat → Int} {ho : Option Addr} {j' hc : Nat} {V : Nat → Int} {W W' : World}
theorem CS.next (h : CS w c0 c1 c2 c3 go j gc U ho j' hc V W) (hb : Below W.heap.size W W') : CS w c0 c1 c2 c3 go j gc U ho j' hc V W' :=
  ⟨below_next h.bel (Nat.le_refl _) hb, keep_cell hb (Nat.le_refl _) h.g0, keep_cell hb (Nat.le_refl _) h.g1, keep_cell hb (Nat.le_refl _) h.h0, keep_cell hb (Nat.le_refl _) h.h1, h.res.next hb, h.box.next hb, h.own1.next hb, h.own2.next hb, h.sep⟩
/-- A step that turns a block from S + 4 on, if any. -/
theorem cell_far {W W' : World} {b o B : Nat} {v : Value} {row : Option Nat} (h : W.cell? ⟨b, o, none⟩ = some v) (hg : W.grownBy W' row) (hr : ∀ x, row = some x → B ≤ x) (hb : b < B) : W'.cell? ⟨b, o, none⟩ = some v := by
  have hl := lt_of_cell h
  have := hg.block b hl (fun e => by have := hr b e.symm; omega)
  simpa [World.cell?, this] using h
theorem below_far {w W W' : World} {B : Nat} {row : Option Nat} (h : Below w.heap.size w W) (hg : W.grownBy W' row) (hr : ∀ x, row = some x → B ≤ x) (hb : w.heap.size ≤ B) : Below w.heap.size w W' :=
  ⟨hg.os.trans h.os, hg.tape.trans h.tape, hg.output.trans h.output, Nat.le_trans h.size hg.size, fun k hk => (hg.block k (Nat.lt_of_lt_of_le hk h.size) (fun e => by have := hr k e.symm; omega)).trans (h.block k hk)⟩
theorem VHas.far {W W' : World} {b n B : Nat} {t : TypeId} {f : Nat → Value} {row : Option Nat} (h : VHas W b t n f) (hg : W.grownBy W' row) (hr : ∀ x, row = some x → B ≤ x) (hb : b < B) : VHas W' b t n f := h.grown hg (fun e => by have := hr b e.symm; omega)
theorem CS.app1 (h : CS w c0 c1 c2 c3 go j gc U ho j' hc V W) (hg : W.grownBy W' (Value.slice go j gc).ownBlock) {g' gc' : Nat} (hown : OwnE W' (w.heap.size + 4) (some ⟨g', 0, none⟩) (j + 1) gc' U) (hat : (Value.slice go j gc).ownBlock = some g' ∨ g' = W.heap.size) :
    CS w c0 c1 c2 c3 (some ⟨g', 0, none⟩) (j + 1) gc' U ho j' hc V (W'.setCell ⟨w.heap.size + 3, 0, none⟩ (.slice (some ⟨g', 0, none⟩) (j + 1) gc')) := by
  have hr : ∀ x, (Value.slice go j gc).ownBlock = some x → w.heap.size + 4 ≤ x := fun x e => (h.own1.at e).1
  have hs := gr_setCell W' (w.heap.size + 3) 0 (.slice (some ⟨g', 0, none⟩) (j + 1) gc')
  have hr2 : ∀ x, some (w.heap.size + 3) = some x → w.heap.size + 3 ≤ x := fun x e => by cases e; exact Nat.le_refl _
  have hl := h.box.lt
  refine ⟨below_far (below_far h.bel hg hr (by omega)) hs hr2 (by omega), cell_far (cell_far h.g0 hg hr (by omega)) hs hr2 (by omega), cell_far (cell_far h.g1 hg hr (by omega)) hs hr2 (by omega), cell_far (cell_far h.h0 hg hr (by omega)) hs hr2 (by omega), cell_far (cell_far h.h1 hg hr (by omega)) hs hr2 (by omega), (h.res.far hg hr (by omega)).far hs hr2 (by omega), ?_, ?_, ?_, ?_⟩
  · refine ((h.box.far hg hr (by omega)).set 0 _).congr (fun i hi => ?_)
    have : i = 0 ∨ i = 1 := by omega
    rcases this with rfl | rfl <;> rfl
  · refine hown.grown hs (fun x e => ?_)
    have := (hown.at e).1
    simp; omega
  · refine (h.own2.grown hg (fun x e q => h.sep x q e)).grown hs (fun x e => ?_)
    have := (h.own2.at e).1
    simp; omega
  · intro x e q
    simp [Value.ownBlock] at e
    subst e
    rcases hat with e | e
    · exact h.sep _ e q
    · have := (h.own2.at q).2
      omega
theorem CS.app2 (h : CS w c0 c1 c2 c3 go j gc U ho j' hc V W) (hg : W.grownBy W' (Value.slice ho j' hc).ownBlock) {g' gc' : Nat} (hown : OwnE W' (w.heap.size + 4) (some ⟨g', 0, none⟩) (j' + 1) gc' V) (hat : (Value.slice ho j' hc).ownBlock = some g' ∨ g' = W.heap.size) :
    CS w c0 c1 c2 c3 go j gc U (some ⟨g', 0, none⟩) (j' + 1) gc' V (W'.setCell ⟨w.heap.size + 3, 1, none⟩ (.slice (some ⟨g', 0, none⟩) (j' + 1) gc')) := by
  have hr : ∀ x, (Value.slice ho j' hc).ownBlock = some x → w.heap.size + 4 ≤ x := fun x e => (h.own2.at e).1
  have hs := gr_setCell W' (w.heap.size + 3) 1 (.slice (some ⟨g', 0, none⟩) (j' + 1) gc')
  have hr2 : ∀ x, some (w.heap.size + 3) = some x → w.heap.size + 3 ≤ x := fun x e => by cases e; exact Nat.le_refl _
  have hl := h.box.lt
  refine ⟨below_far (below_far h.bel hg hr (by omega)) hs hr2 (by omega), cell_far (cell_far h.g0 hg hr (by omega)) hs hr2 (by omega), cell_far (cell_far h.g1 hg hr (by omega)) hs hr2 (by omega), cell_far (cell_far h.h0 hg hr (by omega)) hs hr2 (by omega), cell_far (cell_far h.h1 hg hr (by omega)) hs hr2 (by omega), (h.res.far hg hr (by omega)).far hs hr2 (by omega), ?_, ?_, ?_, ?_⟩
  · refine ((h.box.far hg hr (by omega)).set 1 _).congr (fun i hi => ?_)
    have : i = 0 ∨ i = 1 := by omega
    rcases this with rfl | rfl <;> rfl
  · refine (h.own1.grown hg (fun x e q => h.sep x e q)).grown hs (fun x e => ?_)
    have := (h.own1.at e).1
    simp; omega
  · refine hown.grown hs (fun x e => ?_)
    have := (hown.at e).1
    simp; omega
  · intro x e q
    simp [Value.ownBlock] at q
    subst q
    rcases hat with q | q
    · exact h.sep _ e q
    · have := (h.own1.at e).2
      omega
end
/-- A metric that is answered: its lists are of the call's own. -/
def MAns (w w' : World) (e : Ending) (m : Nat) (U D : Nat → Int) : Prop := ∃ ao cap eo ecap, e = .returned (.agg #[.slice ao m cap, .slice eo m ecap]) ∧ (0 < m → ∃ b c, ao = some ⟨b, 0, none⟩ ∧ eo = some ⟨c, 0, none⟩ ∧ w.heap.size ≤ b ∧ w.heap.size ≤ c ∧ b ≠ c ∧ IHas w' b m U ∧ IHas w' c m D) ∧ w.heap.size + 2 ≤ w'.heap.size ∧ Below w.heap.size w w'
/-- As MAns, and the room of the second list is what its slice says. -/
def MAnsO (w w' : World) (e : Ending) (m : Nat) (U D : Nat → Int) : Prop := ∃ ao cap eo ecap, e = .returned (.agg #[.slice ao m cap, .slice eo m ecap]) ∧ (0 < m → ∃ b c, ao = some ⟨b, 0, none⟩ ∧ eo = some ⟨c, 0, none⟩ ∧ w.heap.size ≤ b ∧ w.heap.size ≤ c ∧ b ≠ c ∧ IHas w' b m U ∧ IHas w' c m D ∧ Cap w' c ecap ∧ m ≤ cap) ∧ w.heap.size + 2 ≤ w'.heap.size ∧ Below w.heap.size w w'
theorem mans_of {w w' : World} {e : Ending} {m : Nat} {U D : Nat → Int} (h : MAnsO w w' e m U D) : MAns w w' e m U D := by
  obtain ⟨ao, cap, eo, ecap, h1, h2, h3⟩ := h
  exact ⟨ao, cap, eo, ecap, h1, fun h0 => by
    obtain ⟨b, c, q1, q2, q3, q4, q5, q6, q7, _⟩ := h2 h0
    exact ⟨b, c, q1, q2, q3, q4, q5, q6, q7⟩, h3⟩
theorem me2_new (w : World) (a b : Value) : VHas (w.alloc (.cells #[a, b] 35)) w.heap.size 35 2 (me2 a b) :=
  ⟨_, Go.Deep.blk_alloc_new _ _, by simp, fun j hj => by
    have : j = 0 ∨ j = 1 := by omega
    rcases this with rfl | rfl <;> rfl⟩

end Go.Proofs.Ytmnohgcjdhokdah

/-
  A region that draws its order, taken by hand: two operations that are ready; an operation that yields, makes or stores.
-/
set_option linter.unusedVariables false
set_option linter.unusedSimpArgs false
namespace Go.Proofs.Ytmnohgcjdhokdah
open Go

theorem wp_of_run {P : Program} {o : Oper} {a : Act} {w : World} {K : Act → World → Prop} {Q : Exit → Act → World → Prop} {v : Value} (h : (execOp a.eval o).run P w = .ok (.value v) w) (hK : K (a.put o.dst v) w) : o.wp P a w K Q := by
  unfold Oper.wp
  rw [h]
  exact hK
theorem wp_of_skip {P : Program} {o : Oper} {a : Act} {w w' : World} {K : Act → World → Prop} {Q : Exit → Act → World → Prop} (h : (execOp a.eval o).run P w = .ok .skip w') (hK : K (a.put o.dst undef) w') : o.wp P a w K Q := by
  unfold Oper.wp
  rw [h]
  exact hK
theorem wp_of_made {P : Program} {o : Oper} {a : Act} {w w' : World} {K : Act → World → Prop} {Q : Exit → Act → World → Prop} {v : Value} (h : (execOp a.eval o).run P w = .ok (.value v) w') (hK : K (a.put o.dst v) w') : o.wp P a w K Q := by
  unfold Oper.wp
  rw [h]
  exact hK
/-- Two operations that are ready: either may come first. -/
theorem step2H {P : Program} {ops : Array Oper} {Q : Exit → Act → World → Prop} {md : Region.Mode} {S : World → Prop} (i j : Nat) (oi oj : Oper) {fuel : Nat} {listed : Array Bool} {a : Act} {w : World} (hi : ops[i]? = some oi) (hj : ops[j]? = some oj) (hr : Region.ready md ops listed = [i, j])
    (hwi : Region.wanted oi (yielded ops a.tmps) = true) (hwj : Region.wanted oj (yielded ops a.tmps) = true)
    (h1 : Oper.wp P oi a w (fun a' w' => S w' ∧ wpAnyH P md ops Q S fuel (listed.setIfInBounds i true) a' w') Q) (h2 : Oper.wp P oj a w (fun a' w' => S w' ∧ wpAnyH P md ops Q S fuel (listed.setIfInBounds j true) a' w') Q) : wpAnyH P md ops Q S (fuel + 1) listed a w :=
  wpAnyH_ready hr (by simp) (AllReadyH.cons hi (fun K hK => by rw [if_pos hwi]; exact Oper.wp_mono (fun a' w' h' => hK.out _ _ h'.1 (fun _ => h'.2)) h1) (AllReadyH.cons hj (fun K hK => by rw [if_pos hwj]; exact Oper.wp_mono (fun a' w' h' => hK.out _ _ h'.1 (fun _ => h'.2)) h2) AllReadyH.nil))

end Go.Proofs.Ytmnohgcjdhokdah

/-
  The program's room where weights are worked out: made, cleared, weighed, handed out.
-/
set_option linter.unusedVariables false
set_option linter.unusedSimpArgs false
namespace Go.Proofs.Ytmnohgcjdhokdah
open Go.RowKit Go.Deep Go.Joins Go.Maps
attribute [local go_sem ↓] Go.wp_at_zero Go.wp_at_succ

theorem alloc_b (X : World) (o : Obj) : Below X.heap.size X (X.alloc o) := (Below.refl _ _).alloc (Nat.le_refl _) o
theorem hid_alloc {w X : World} (h : Hid (Below w.heap.size w X)) (o : Obj) : Hid (Below w.heap.size w (X.alloc o)) := h.out.alloc h.out.size o
theorem hid_next {w X Y : World} (h : Hid (Below w.heap.size w X)) (hb : Below X.heap.size X Y) : Hid (Below w.heap.size w Y) := below_next h.out (Nat.le_refl _) hb

theorem IHas.al {X : World} {b n : Nat} {f : Nat → Int} (h : IHas X b n f) (o : Obj) : IHas (X.alloc o) b n f := h.below (alloc_b X o) h.lt
theorem IHas.nx {X Y : World} {b n : Nat} {f : Nat → Int} (h : IHas X b n f) (hb : Below X.heap.size X Y) : IHas Y b n f := h.below hb h.lt
theorem made_at (A : World) (b m : Nat) (h : b = A.heap.size) : IHas (A.alloc (.cells (madeCells #[.int .i64 0] m) 2)) b m (fun _ => 0) := by
  subst h; exact made_ints A m
abbrev OMap (W : World) (b m : Nat) (L H : Nat → Int) : Prop := W.ownsMap Try.prog 71 (plainElem (H := Unit) Try.prog 3) b m (enums L H m)
theorem omap_nx {X Y : World} {b m : Nat} {L H : Nat → Int} (h : OMap X b m L H) (hb : Below X.heap.size X Y) : OMap Y b m L H := ownsMap_block h (hb.block b (World.ownsMap.lt h))
theorem omap_al {X : World} {b m : Nat} {L H : Nat → Int} (h : OMap X b m L H) (o : Obj) : OMap (X.alloc o) b m L H := omap_nx h (alloc_b X o)

/-- The cells of the room. -/
def rmc (eo : Option Addr) (m ecap g k rcap bm bU bV : Nat) : Array Value := #[.slice eo m ecap, .slice (some ⟨g, 0, none⟩) k rcap, .map (some bm), .slice (some ⟨bU, 0, none⟩) m m, .slice (some ⟨bV, 0, none⟩) m m]
/-- The room in block b: its edges, its ranks, its numbers, the two lists. -/
structure Room (w : World) (k : Nat) (P : Nat → Int) (eo : Option Addr) (m ecap : Nat) (L H : Nat → Int) (b g rcap bm bU bV : Nat) (U V : Nat → Int) (W : World) : Prop where
  bel : Below w.heap.size w W
  box : W.heap[b]? = some (.cells (rmc eo m ecap g k rcap bm bU bV) 98 (0, 0))
  rks : IHas W g k (rk P (-1) k)
  nos : OMap W bm m L H
  up : IHas W bU m U
  dn : IHas W bV m V
  ge : w.heap.size ≤ b ∧ w.heap.size ≤ g ∧ w.heap.size ≤ bm ∧ w.heap.size ≤ bU ∧ w.heap.size ≤ bV
  ne : bU ≠ bV ∧ g ≠ bU ∧ g ≠ bV ∧ b ≠ bU ∧ b ≠ bV ∧ bm ≠ bU ∧ bm ≠ bV
section
variable {w : World} {k : Nat} {P : Nat → Int} {eo : Option Addr} {m ecap : Nat} {L H : Nat → Int} {b g rcap bm bU bV : Nat} {U V : Nat → Int} {W W' : World}
theorem Room.next (h : Room w k P eo m ecap L H b g rcap bm bU bV U V W) (hb : Below W.heap.size W W') : Room w k P eo m ecap L H b g rcap bm bU bV U V W' :=
  ⟨below_next h.bel (Nat.le_refl _) hb, (hb.block b (Array.getElem?_eq_some_iff.1 h.box).1).trans h.box, h.rks.nx hb, omap_nx h.nos hb, h.up.nx hb, h.dn.nx hb, h.ge, h.ne⟩
theorem Room.cell (h : Room w k P eo m ecap L H b g rcap bm bU bV U V W) {j : Nat} {v : Value} (hv : (rmc eo m ecap g k rcap bm bU bV)[j]? = some v) : W.cell? ⟨b, j, none⟩ = some v := by
  rw [cell_of_row W b j _ _ _ h.box]; exact hv
/-- A step that turns the list upward alone. -/
theorem Room.turnU (h : Room w k P eo m ecap L H b g rcap bm bU bV U V W) {U' : Nat → Int} (hg : W.grownBy W' (some bU)) (hU : IHas W' bU m U') : Room w k P eo m ecap L H b g rcap bm bU bV U' V W' := by
  obtain ⟨n1, n2, n3, n4, n5, n6, n7⟩ := h.ne
  exact ⟨below_far (B := w.heap.size) h.bel hg (fun x e => by cases e; exact h.ge.2.2.2.1) (Nat.le_refl _), (hg.block b (Array.getElem?_eq_some_iff.1 h.box).1 (by simp; exact n4)).trans h.box, h.rks.grown hg (by simp; exact n2), World.ownsMap.kept h.nos hg (by simp; exact n6), hU, h.dn.grown hg (by simp; exact fun e => n1 e.symm), h.ge, h.ne⟩
theorem Room.turnD (h : Room w k P eo m ecap L H b g rcap bm bU bV U V W) {V' : Nat → Int} (hg : W.grownBy W' (some bV)) (hV : IHas W' bV m V') : Room w k P eo m ecap L H b g rcap bm bU bV U V' W' := by
  obtain ⟨n1, n2, n3, n4, n5, n6, n7⟩ := h.ne
  exact ⟨below_far (B := w.heap.size) h.bel hg (fun x e => by cases e; exact h.ge.2.2.2.2) (Nat.le_refl _), (hg.block b (Array.getElem?_eq_some_iff.1 h.box).1 (by simp; exact n5)).trans h.box, h.rks.grown hg (by simp; exact n3), World.ownsMap.kept h.nos hg (by simp; exact n7), h.up.grown hg (by simp; exact n1), hV, h.ge, h.ne⟩
theorem Room.congr (h : Room w k P eo m ecap L H b g rcap bm bU bV U V W) {U' V' : Nat → Int} (h1 : ∀ j, j < m → U j = U' j) (h2 : ∀ j, j < m → V j = V' j) : Room w k P eo m ecap L H b g rcap bm bU bV U' V' W :=
  ⟨h.bel, h.box, h.rks, h.nos, h.up.congr h1, h.dn.congr h2, h.ge, h.ne⟩
end
theorem box_at (X : World) (b : Nat) (c : Array Value) (h : b = X.heap.size) : (X.alloc (.cells c 98)).heap[b]? = some (.cells c 98 (0, 0)) := by
  subst h; exact heap_alloc_new X _

set_option maxRecDepth 100000 in
set_option maxHeartbeats 8000000 in
theorem newWorkroom_any (po : Option Addr) (k pcap : Nat) (P : Nat → Int) (eo : Option Addr) (m ecap : Nat) (L H : Nat → Int) (hk : k ≤ 1048576) (hm : m ≤ 1048576) (hok : okR k P = true) (hwf : EWf L H m) (w : World) (hp : IRow w po k P) (he : ERow w eo m L H) :
    Calls Try.prog 63 #[.agg #[.slice po k pcap, .slice eo m ecap]] w fun e w' => ∃ b g rcap bm bU bV, e = .returned (.pointer (some ⟨b, 0, none⟩)) ∧ Room w k P eo m ecap L H b g rcap bm bU bV (fun _ => 0) (fun _ => 0) w' := by
  have hmk := make_ints m hm
  have hL : lenR k P = k := by unfold lenR; rw [if_pos hok]
  have hk0 : 0 < k := by simp [okR] at hok; omega
  have HRK := fun ao' W hr' => implRanks_any ao' k pcap P hk W hr'
  rw [hL] at HRK
  have HRK' : Hid (∀ ao' W, IRow W ao' k P → Calls Try.prog 78 #[.slice ao' k pcap] W fun e w' => Ans W w' e k (rk P (-1) k)) := HRK
  clear HRK hL hok
  go_enter Try.func63, Try.ntmps63
  go_wp2_with fail
  have hB0 : Hid (Below w.heap.size w (w.alloc (.cells #[.slice po k pcap, .slice eo m ecap] 33)).drew) := ((Below.refl _ _).alloc (Nat.le_refl _) _).drew
  have y0 : (w.alloc (.cells #[.slice po k pcap, .slice eo m ecap] 33)).drew.cell? ⟨w.heap.size, 0, none⟩ = some (.slice po k pcap) := by simp [go_sem]
  have y1 : (w.alloc (.cells #[.slice po k pcap, .slice eo m ecap] 33)).drew.cell? ⟨w.heap.size, 1, none⟩ = some (.slice eo m ecap) := by simp [go_sem]
  go_region_held3 (fun w' => w'.cell? ⟨w.heap.size, 0, none⟩ = some (.slice po k pcap) ∧ w'.cell? ⟨w.heap.size, 1, none⟩ = some (.slice eo m ecap) ∧ Hid (Below w.heap.size w w'))
    (first | (go_split_ands; exact ⟨keep_cell hbN (Nat.le_refl _) (by assumption), keep_cell hbN (Nat.le_refl _) (by assumption), hid_next (by assumption) hbN⟩) | (go_split_ands; exact ⟨keep_cell hbR (Nat.le_refl _) (by assumption), keep_cell hbR (Nat.le_refl _) (by assumption), hid_next (by assumption) hbR⟩) | (go_split_ands; exact ⟨keep_cell (alloc_b _ _) (Nat.le_refl _) (by assumption), keep_cell (alloc_b _ _) (Nat.le_refl _) (by assumption), hid_alloc (by assumption) _⟩) | (refine ⟨?_, ?_, ?_⟩ <;> assumption))
    (first | (go_at_call 78; go_split_ands; refine (HRK'.out po _ (hp.below (Hid.out (by assumption)) (Nat.le_refl _))).mono ?_; rintro e wR ⟨aoR, capR, rfl, hR, hbR⟩; obtain ⟨gR, rfl, hgR, iR⟩ := hR hk0; have hgl := iR.lt; clear hR) | (go_at_call 90; go_split_ands; refine (edgeNumbers_any eo m ecap L H hm hwf _ (he.below (Hid.out (by assumption)) (Nat.le_refl _))).mono ?_; rintro e wN ⟨rfl, hN, hbN⟩))
  all_goals
    go_split_ands
    go_wp2
    go_ret
    have hsR := hbR.size
    have hsN := hbN.size
    have hnl := World.ownsMap.lt hN
    simp only [World.size_alloc, World.size_drew] at hsR hsN hgR hnl hN
    refine ⟨_, gR, capR, _, _, _, rfl, ⟨Hid.out (by assumption), box_at _ _ _ (by simp), ?_, ?_, ?_, ?_, ?_, ?_⟩⟩
    · repeat (first | exact iR | refine IHas.al ?_ _ | refine IHas.nx ?_ hbN)
    · repeat (first | exact hN | refine omap_al ?_ _)
    · repeat (first | (refine made_at _ _ _ ?_; simp; done) | (refine made_at _ _ _ ?_; rfl) | refine IHas.al ?_ _ | refine IHas.nx ?_ hbN | refine IHas.nx ?_ hbR)
    · repeat (first | (refine made_at _ _ _ ?_; simp; done) | (refine made_at _ _ _ ?_; rfl) | refine IHas.al ?_ _ | refine IHas.nx ?_ hbN | refine IHas.nx ?_ hbR)
    · (try simp only [World.size_alloc, World.size_drew]); omega
    · (try simp only [World.size_alloc, World.size_drew]); omega

end Go.Proofs.Ytmnohgcjdhokdah

/-
  The program's room, cleared and weighed.
-/
set_option linter.unusedVariables false
set_option linter.unusedSimpArgs false
namespace Go.Proofs.Ytmnohgcjdhokdah
open Go.RowKit Go.Deep Go.Joins Go.Maps
attribute [local go_sem ↓] Go.wp_at_zero Go.wp_at_succ

set_option maxHeartbeats 2000000 in
theorem farWhereNone_any (b m : Nat) (f : Nat → Int) (hm : m ≤ 1048576) (w : World) (h : IHas w b m f) :
    Calls Try.prog 122 #[.slice (some ⟨b, 0, none⟩) m m] w fun e w' => (∃ v, e = .returned v) ∧ IHas w' b m (fun j => if f j = 0 then 1000000000000 else f j) ∧ w.grownBy w' (some b) := by
  go_enter Try.func122, Try.ntmps122
  go_wp2_with fail
  go_loopw [6] (fun x wr => ∃ j : Nat, j ≤ m ∧ x = .int .i64 j ∧ IHas wr b m (fun q => if q < j then (if f q = 0 then 1000000000000 else f q) else f q) ∧ w.grownBy wr (some b)) (fun x _ => m - (intOf x).toNat)
  case atStart => exact ⟨0, Nat.zero_le _, rfl, h.congr (fun q _ => by simp), World.grownBy.refl _ _⟩
  case round =>
    obtain ⟨j, hj, rfl, hI, hg⟩ := hrel
    by_cases hlt : j < m
    rotate_left
    · have e : j = m := by omega
      subst e
      go_wp2
      go_end0
      exact ⟨⟨_, rfl⟩, hI.congr (fun q hq => by simp [hq]), hg⟩
    have hlt' : (j : Int) < (m : Int) := by omega
    have hj0 : (0 : Int) ≤ (j : Int) := by omega
    have c0 := hI.cell hlt
    have z0 := hI.frozen j
    simp only [Nat.lt_irrefl, if_false] at c0
    by_cases hf : f j = 0
    · have R := (hI.set j 1000000000000).congr (g := fun q => if q < j + 1 then (if f q = 0 then 1000000000000 else f q) else f q) (fun q hq => by
        by_cases e : q = j
        · subst e; simp [hf]
        · simp only [e, if_false]
          by_cases e2 : q < j
          · have e3 : q < j + 1 := by omega
            simp [e2, e3]
          · have e3 : ¬ q < j + 1 := by omega
            simp [e2, e3])
      have hg2 := hg.trans (gr_setCell wr b j (.int .i64 1000000000000))
      clear hI hg
      go_wp2
      go_roundw
      case rel => exact ⟨j + 1, by omega, by go_num, R, hg2⟩
      case measure => simp [intOf]; omega
    · have R := hI.congr (g := fun q => if q < j + 1 then (if f q = 0 then 1000000000000 else f q) else f q) (fun q hq => by
        by_cases e : q = j
        · subst e; simp [hf]
        · by_cases e2 : q < j
          · have e3 : q < j + 1 := by omega
            simp [e2, e3]
          · have e3 : ¬ q < j + 1 := by omega
            simp [e2, e3])
      clear hI
      go_wp2
      go_roundw
      case rel => exact ⟨j + 1, by omega, by go_num, R, hg⟩
      case measure => simp [intOf]; omega

theorem gr_setRow (w : World) (g : Nat) (cs : Array Value) : w.grownBy (w.setRow g cs) (some g) :=
  ⟨rfl, rfl, rfl, by rw [setRow_size]; exact Nat.le_refl _, fun k hk hne => setRow_other w g k cs (fun e => hne (by rw [e]))⟩
theorem run_clear_ints (w : World) (b m cap : Nat) (f : Nat → Int) (h : IHas w b m f) (ty : TypeId) :
    ∃ w', (Builtin.clear_ #[22] ty #[.slice (some ⟨b, 0, none⟩) m cap]).run Try.prog w = .ok (.tuple #[]) w' ∧ IHas w' b m (fun _ => 0) ∧ w.grownBy w' (some b) := by
  obtain ⟨cur, hh, hs, hc⟩ := h
  obtain ⟨i0, hi0, hz0, hz1, hz2⟩ := info_parts Try.infoInt
  match m, hs, hc with
  | 0, hs, hc => exact ⟨w, by simp [Builtin.clear_, Sem.run_bind, run_underlying Try.underlying22], ⟨cur, hh, hs, fun j hj => by omega⟩, World.grownBy.refl _ _⟩
  | m + 1, hs, hc =>
    have hz : (Builtin.zeroCells (Value.int .i64 0).cells (m + 1)).toList = List.replicate (m + 1) (.int .i64 0) := by
      have h1 : (Value.int .i64 0).cells = #[.int .i64 0] := rfl
      rw [h1]
      apply List.eq_replicate_iff.2
      refine ⟨by simp [Builtin.zeroCells], fun v hv => ?_⟩
      simp [Builtin.zeroCells] at hv
      obtain ⟨_, _, rfl⟩ := hv
      simp [Nat.mod_one]
    have hr := run_storeCells_at (P := Try.prog) b 0 2 (List.replicate (m + 1) (.int .i64 0)) 0 cur w hh (by simp; omega) (by intro v hv; rw [(List.mem_replicate.1 hv).2]; rfl)
    refine ⟨w.setRow b (cur.toList.take (0 + 0) ++ List.replicate (m + 1) (Value.int .i64 0) ++ cur.toList.drop (0 + 0 + (List.replicate (m + 1) (Value.int .i64 0)).length)).toArray, ?_, ?_, gr_setRow w b _⟩
    rotate_left
    · refine ⟨_, setRow_heap w b cur _ _ _ hh, ?_, fun j hj => ?_⟩
      · simp <;> omega
      · simp [List.getElem?_append, List.getElem?_replicate, hj]
    · have hzv : (zeroValue 2).run Try.prog w = .ok (.int .i64 0) w := by simp [zeroValue, typeInfo, hi0, hz0]
      simp [Builtin.clear_, Sem.run_bind, run_underlying Try.underlying22, hzv, hz] at hr ⊢
      rw [hr]
      rfl

theorem wpList_clear_ints {ops : Array Oper} {rest : List Oper} {o : Oper} {a : Act} {w : World} {Q : Exit → Act → World → Prop} (hgd : o.guard = none) (x : Operand)
    (ho : o.op = .call { callee := .builtin .clear, args := #[x], argTypes := #[22] }) (b m cap : Nat) (f : Nat → Int) (hx : a.eval x = .slice (some ⟨b, 0, none⟩) m cap) (h : IHas w b m f)
    (hK : ∀ w', IHas w' b m (fun _ => 0) → w.grownBy w' (some b) → wpList Try.prog ops Q rest (a.put o.dst (.tuple #[])) w') : wpList Try.prog ops Q (o :: rest) a w := by
  refine wpList_plain hgd fun K hK' => ?_
  obtain ⟨w', hrun, hI, hg⟩ := run_clear_ints w b m cap f h o.type
  unfold Oper.wp
  simp [execOp, ho, resolve, invoke, builtin, hx, hrun, Result.andThen]
  exact hK' _ _ (hK w' hI hg)
theorem Row.turn {W W' : World} {ao : Option Addr} {n : Nat} {F T G : Nat → Int} {c : Nat} (h : Row W ao n F T G) (hg : W.grownBy W' (some c)) (hne : 0 < n → ∀ a, ao = some a → a.block ≠ c) : Row W' ao n F T G := fun k hk => by
  obtain ⟨b, o, e, c0, c1, c2⟩ := h k hk
  have hb : b ≠ c := hne (by omega) _ e
  have hl := lt_of_cell c0
  have hbl := hg.block b hl (by simp; exact hb)
  exact ⟨b, o, e, by simpa [World.cell?, hbl] using c0, by simpa [World.cell?, hbl] using c1, by simpa [World.cell?, hbl] using c2⟩
theorem cell_turn {W W' : World} {b o c : Nat} {v : Value} (h : W.cell? ⟨b, o, none⟩ = some v) (hg : W.grownBy W' (some c)) (hne : b ≠ c) : W'.cell? ⟨b, o, none⟩ = some v := by
  have hbl := hg.block b (lt_of_cell h) (by simp; exact hne)
  simpa [World.cell?, hbl] using h

/-- A look-up of an edge that is there. -/
theorem look_edge {W : World} {bm m : Nat} {L H : Nat → Int} (h : OMap W bm m L H) (hw : EWf L H m) {e : Nat} (he : e < m) (hu : ∀ q, q < m → L q = L e → H q = H e → q = e) {a c : Int} (ha : L e = a) (hc : H e = c) :
    ∀ q, (Instr.lookup 96 (.map (some bm)) (.agg #[.int .i64 a, .int .i64 c]) false).run Try.prog (W.drewN q) = .ok (.int .i64 (e : Int)) (W.drewN q) := fun q => by
  subst ha
  subst hc
  have hkey := key_edge (L e) (H e) (hw e he).1 (hw e he).2
  obtain ⟨c, hrun, hat, _⟩ := (ownsMap_block (w' := W.drewN q) h rfl).lookup_int Try.keyLawE Try.underlying96 Try.underlying3 (Try.mapZeroE _) hkey
  rcases enums_look L H (L e) (H e) (hw e he).1 (hw e he).2 m hw with ⟨_, h2⟩ | ⟨x, hx, h1, h2, _, h4⟩
  · exact absurd ⟨rfl, rfl⟩ (h2 e he)
  · have hxE : x = e := hu x hx h1 h2
    rw [h4, hxE] at hat
    simp only [DataW.lit.injEq, Lit.int.injEq, true_and] at hat
    rw [hrun, hat]

set_option maxRecDepth 100000 in
set_option maxHeartbeats 4000000 in
theorem weigh_any (w0 : World) (k n m : Nat) (p : Int) (ao : Option Addr) (cap : Nat) (F T G P L H : Nat → Int) (eo : Option Addr) (ecap b g rcap bm bU bV : Nat) (U V : Nat → Int) (hE : CEnv k n m F T G P L H) (hao : 0 < n → ∀ a, ao = some a → a.block ≠ bU ∧ a.block ≠ bV) (w : World) (hr : Row w ao n F T G) (hR : Room w0 k P eo m ecap L H b g rcap bm bU bV U V w) :
    Calls Try.prog 106 #[.pointer (some ⟨b, 0, none⟩), .agg #[.int .i64 p, .slice ao n cap]] w fun e w' => (∃ v, e = .returned v) ∧ Room w0 k P eo m ecap L H b g rcap bm bU bV (w0U n F T G P L H) (w0D n F T G P L H) w' ∧ Turns w w' [bU, bV] := by
  have hbl : b < w.heap.size := (Array.getElem?_eq_some_iff.1 hR.box).1
  have hUl := hR.up.lt
  have hVl := hR.dn.lt
  have hm := hE.m1000
  have hn := hE.n100
  have R0 : Hid (Room w0 k P eo m ecap L H b g rcap bm bU bV U V (w.alloc (.cells #[.int .i64 p, .slice ao n cap] 47))) := hR.next (alloc_b _ _)
  have c3 : w.cell? ⟨b, 3, none⟩ = some (.slice (some ⟨bU, 0, none⟩) m m) := hR.cell rfl
  have g1 : (w.alloc (.cells #[.int .i64 p, .slice ao n cap] 47)).cell? ⟨w.heap.size, 1, none⟩ = some (.slice ao n cap) := by simp [go_sem]
  have hr0 := hr.alloc (.cells #[.int .i64 p, .slice ao n cap] 47)
  have hA : 0 < n → ∀ a, ao = some a → a.block ≠ bU := fun h a e => (hao h a e).1
  have hA' : 0 < n → ∀ a, ao = some a → a.block ≠ bV := fun h a e => (hao h a e).2
  have HAO : Hid ((0 < n → ∀ a, ao = some a → a.block ≠ bU) ∧ (0 < n → ∀ a, ao = some a → a.block ≠ bV)) := ⟨hA, hA'⟩
  have HR0 : Hid (Row (w.alloc (.cells #[.int .i64 p, .slice ao n cap] 47)) ao n F T G) := hr0
  clear hR hr hA hA' hao hr0
  obtain ⟨w1, hrun1, hI1, hg1⟩ := run_clear_ints (w.alloc (.cells #[.int .i64 p, .slice ao n cap] 47)) bU m m U R0.out.up 0
  have R1 := R0.out.turnU hg1 hI1
  have HR1 := HR0.out.turn hg1 HAO.out.1
  replace g1 := cell_turn g1 hg1 (by omega)
  have c4 : w1.cell? ⟨b, 4, none⟩ = some (.slice (some ⟨bV, 0, none⟩) m m) := R1.cell rfl
  obtain ⟨w2, hrun2, hI2, hg2⟩ := run_clear_ints w1 bV m m V R1.dn 0
  have R2 := (R1.turnD hg2 hI2).congr (U' := wzU F T G P L H 0) (V' := wzD F T G P L H 0) (fun _ _ => rfl) (fun _ _ => rfl)
  have HR2 := HR1.turn hg2 HAO.out.2
  replace g1 := cell_turn g1 hg2 (by omega)
  have hs1 := hg1.size
  have hs2 := hg2.size
  have HTU : Hid (Turns w w2 [bU, bV]) := ((Turns.of_below (alloc_b w _) (Nat.le_refl _) _).trans ((Turns.of_grown hg1).more (by simp))).trans ((Turns.of_grown hg2).more (by simp))
  simp only [World.size_alloc] at hs1
  clear hI1 R1 HR1 R0 HR0 hg1 hI2 hg2
  have HR3 : Hid (Row w2 ao n F T G) := HR2
  have R3 : Hid (Room w0 k P eo m ecap L H b g rcap bm bU bV (wzU F T G P L H 0) (wzD F T G P L H 0) w2) := R2
  clear R2 HR2
  go_enter Try.func106, Try.ntmps106
  go_wp2_with fail
  go_loopw [21] (fun x wr => ∃ t : Nat, t ≤ n ∧ x = .int .i64 t ∧ Room w0 k P eo m ecap L H b g rcap bm bU bV (wzU F T G P L H t) (wzD F T G P L H t) wr ∧ Row wr ao n F T G ∧ w.heap.size < wr.heap.size ∧ Turns w wr [bU, bV]) (fun x _ => n - (intOf x).toNat)
  case atStart => exact ⟨0, Nat.zero_le _, rfl, R3.out, HR3.out, by omega, HTU.out⟩
  case round =>
    clear R3 HR3 hrun1 hrun2 c3 c4 g1 HTU
    obtain ⟨t, ht, rfl, hR, hrow, hsz, htu⟩ := hrel
    have HTU : Hid (Turns w wr [bU, bV]) := htu
    clear htu
    by_cases hlt : t < n
    rotate_left
    · have e : t = n := by omega
      subst e
      have HR9 : Hid (Room w0 k P eo m ecap L H b g rcap bm bU bV (wzU F T G P L H t) (wzD F T G P L H t) wr) := hR
      have c3 : wr.cell? ⟨b, 3, none⟩ = some (.slice (some ⟨bU, 0, none⟩) m m) := hR.cell rfl
      clear hR
      go_wp2_with fail
      refine (farWhereNone_any bU m _ (by omega) _ HR9.out.up).mono ?_
      rintro v1 w5 ⟨⟨v, rfl⟩, hI5, hg5⟩
      have R5 := HR9.out.turnU hg5 hI5
      have HT5 : Hid (Turns w w5 [bU, bV]) := HTU.out.trans ((Turns.of_grown hg5).more (by simp))
      have c4 : w5.cell? ⟨b, 4, none⟩ = some (.slice (some ⟨bV, 0, none⟩) m m) := R5.cell rfl
      clear HR9 hI5 hg5 c3
      go_wp2_with fail
      refine (farWhereNone_any bV m _ (by omega) _ R5.dn).mono ?_
      rintro v1 w6 ⟨⟨v, rfl⟩, hI6, hg6⟩
      have R6 := (R5.turnD hg6 hI6).congr (U' := w0U t F T G P L H) (V' := w0D t F T G P L H) (fun j _ => hE.farU j) (fun j _ => hE.farD j)
      have HT6 : Hid (Turns w w6 [bU, bV]) := HT5.out.trans ((Turns.of_grown hg6).more (by simp))
      clear R5 hI6 hg6 c4
      go_wp2
      go_end0
      exact ⟨⟨_, rfl⟩, R6, HT6.out⟩
    obtain ⟨x, y, e, hx, hy, he, ⟨ex, f0, f1⟩, ⟨ey, t0, t1⟩, ⟨rx, ry⟩, hcase⟩ := hE.arc t hlt
    obtain ⟨tF, hF⟩ : ∃ tF : Nat, F t = (tF : Int) := ⟨(F t).toNat, by omega⟩
    obtain ⟨tT, hT⟩ : ∃ tT : Nat, T t = (tT : Int) := ⟨(T t).toNat, by omega⟩
    have htF : (F t).toNat = tF := by omega
    have htT : (T t).toNat = tT := by omega
    rw [htF] at rx
    rw [htT] at ry
    obtain ⟨ab, aoff, hao, a0, a1, a2⟩ := hrow t hlt
    subst hao
    have hal := lt_of_cell a0
    have lF : tF < k := by omega
    have lT : tT < k := by omega
    have c1 : wr.cell? ⟨b, 1, none⟩ = some (.slice (some ⟨g, 0, none⟩) k rcap) := hR.cell rfl
    have c2 : wr.cell? ⟨b, 2, none⟩ = some (.map (some bm)) := hR.cell rfl
    have c3 : wr.cell? ⟨b, 3, none⟩ = some (.slice (some ⟨bU, 0, none⟩) m m) := hR.cell rfl
    have c4 : wr.cell? ⟨b, 4, none⟩ = some (.slice (some ⟨bV, 0, none⟩) m m) := hR.cell rfl
    have k1 : wr.cell? ⟨g, tF, none⟩ = some (.int .i64 (x : Int)) := by rw [← rx]; exact hR.rks.cell lF
    have k2 : wr.cell? ⟨g, tT, none⟩ = some (.int .i64 (y : Int)) := by rw [← ry]; exact hR.rks.cell lT
    have hbl' : b < wr.heap.size := by omega
    have hgl := hR.rks.lt
    have hml := World.ownsMap.lt hR.nos
    have iF : (tF : Int) < (k : Int) := by omega
    have iT : (tT : Int) < (k : Int) := by omega
    have t9 : (0 : Int) ≤ (t : Int) := by omega
    have t8 : (t : Int) < (n : Int) := by omega
    have e9 : (e : Int) < (m : Int) := by omega
    have R1 : Hid (Room w0 k P eo m ecap L H b g rcap bm bU bV (wzU F T G P L H t) (wzD F T G P L H t) (wr.alloc (.cells #[.int .i64 (tF : Int), .int .i64 (tT : Int), .int .i64 (G t)] 89))) := hR.next (alloc_b _ _)
    have HRW : Hid (Row (wr.alloc (.cells #[.int .i64 (tF : Int), .int .i64 (tT : Int), .int .i64 (G t)] 89)) (some ⟨ab, aoff, none⟩) n F T G) := hrow.alloc _
    clear hR hrow rx ry htF htT
    go_wp2
    go_quiet (fail)
    have hd1 := below_drewN (Below.refl (wr.alloc (.cells #[.int .i64 (tF : Int), .int .i64 (tT : Int), .int .i64 (G t)] 89)).heap.size (wr.alloc (.cells #[.int .i64 (tF : Int), .int .i64 (tT : Int), .int .i64 (G t)] 89))) nq
    have R2 := R1.out.next hd1
    have HR2 : Hid (Row ((wr.alloc (.cells #[.int .i64 (tF : Int), .int .i64 (tT : Int), .int .i64 (G t)] 89)).drewN nq) (some ⟨ab, aoff, none⟩) n F T G) := HRW.out.below hd1 (Nat.le_refl _)
    have g2 : ((wr.alloc (.cells #[.int .i64 (tF : Int), .int .i64 (tT : Int), .int .i64 (G t)] 89)).drewN nq).cell? ⟨wr.heap.size, 2, none⟩ = some (.int .i64 (G t)) := by simp [go_sem]
    have hs9 := hd1.size
    have HT1 : Hid (Turns w ((wr.alloc (.cells #[.int .i64 (tF : Int), .int .i64 (tT : Int), .int .i64 (G t)] 89)).drewN nq) [bU, bV]) := (HTU.out.trans (Turns.of_below (alloc_b wr _) (Nat.le_refl _) _)).trans (Turns.of_below hd1 (Nat.le_refl _) _)
    simp only [World.size_alloc] at hs9
    clear R1 HRW hd1 a0 a1 a2 c1 c2 c3 c4 k1 k2
    generalize (wr.alloc (.cells #[.int .i64 (tF : Int), .int .i64 (tT : Int), .int .i64 (G t)] 89)).drewN nq = W1 at R2 HR2 g2 hs9 HT1 ⊢
    have c2 : W1.cell? ⟨b, 2, none⟩ = some (.map (some bm)) := R2.cell rfl
    have c3 : W1.cell? ⟨b, 3, none⟩ = some (.slice (some ⟨bU, 0, none⟩) m m) := R2.cell rfl
    have c4 : W1.cell? ⟨b, 4, none⟩ = some (.slice (some ⟨bV, 0, none⟩) m m) := R2.cell rfl
    have hwf : EWf L H m := fun j hj => by
      have := hE.ei j hj
      have := hE.k24
      exact ⟨WalkArith.wf_i64 (by omega), WalkArith.wf_i64 (by omega)⟩
    rcases hcase with ⟨hxy, hL, hH⟩ | ⟨hxy, hL, hH⟩
    · have hlk := look_edge R2.nos hwf he (fun q hq h1 h2 => hE.once hq he h1 h2) hL hH
      have hxy' : (x : Int) < (y : Int) := by omega
      have u0 := R2.up.cell he
      have z0 := R2.up.frozen e
      have HX := hE.up hx hy he ex ey hxy hL hH
      have R3 : Hid (Room w0 k P eo m ecap L H b g rcap bm bU bV (wzU F T G P L H t) (wzD F T G P L H t) W1) := R2
      clear R2
      go_wp2
      refine wp_region_last_lit 16 (by kernel_rfl) (by rfl) (by rfl) (by rfl) (by kernel_rfl) (by kernel_rfl) (by kernel_rfl) (by rfl) ?_
      simp only [List.take_succ_cons, List.take_zero, List.cons_append, List.nil_append]
      repeat (go_big_quiet_step (fail))
      refine wpQuiet_nil ?_
      intro w7 hw7
      obtain ⟨nq, rfl⟩ := hw7
      have hd2 := below_drewN (Below.refl W1.heap.size W1) nq
      have R4 := R3.out.next hd2
      have HR4 := HR2.out.below hd2 (Nat.le_refl _)
      have hs8 := hd2.size
      have HT7 : Hid (Turns w (W1.drewN nq) [bU, bV]) := HT1.out.trans (Turns.of_below hd2 (Nat.le_refl _) _)
      clear R3 HR2 hd2 hlk u0 z0 c2 c3 c4 g2
      generalize W1.drewN nq = W7 at R4 HR4 hs8 HT7 ⊢
      have u0 := R4.up.cell he
      have z0 := R4.up.frozen e
      have hgr := gr_setCell W7 bU e (.int .i64 (G t))
      have R5 := (R4.turnU hgr ((R4.up.set e (G t)).congr HX.1)).congr (U' := wzU F T G P L H (t + 1)) (V' := wzD F T G P L H (t + 1)) (fun _ _ => rfl) (fun j hj => (HX.2 j hj).symm)
      have HR5 := HR4.turn hgr HAO.out.1
      have hs7 := hgr.size
      have HT8 := HT7.out.trans ((Turns.of_grown hgr).more (by simp))
      clear R4 HR4 hgr HX
      go_simp
      go_wp2
      go_roundw
      case rel => exact ⟨t + 1, by omega, by go_num, R5, HR5, by omega, HT8⟩
      case measure => simp [intOf]; omega
    · have hlk := look_edge R2.nos hwf he (fun q hq h1 h2 => hE.once hq he h1 h2) hL hH
      have hxy' : ¬ (x : Int) < (y : Int) := by omega
      have u0 := R2.dn.cell he
      have z0 := R2.dn.frozen e
      have HX := hE.dn hx hy he ex ey hxy hL hH
      have R3 : Hid (Room w0 k P eo m ecap L H b g rcap bm bU bV (wzU F T G P L H t) (wzD F T G P L H t) W1) := R2
      clear R2
      go_wp2
      refine wp_region_last_lit 16 (by kernel_rfl) (by rfl) (by rfl) (by rfl) (by kernel_rfl) (by kernel_rfl) (by kernel_rfl) (by rfl) ?_
      simp only [List.take_succ_cons, List.take_zero, List.cons_append, List.nil_append]
      repeat (go_big_quiet_step (fail))
      refine wpQuiet_nil ?_
      intro w7 hw7
      obtain ⟨nq, rfl⟩ := hw7
      have hd2 := below_drewN (Below.refl W1.heap.size W1) nq
      have R4 := R3.out.next hd2
      have HR4 := HR2.out.below hd2 (Nat.le_refl _)
      have hs8 := hd2.size
      have HT7 : Hid (Turns w (W1.drewN nq) [bU, bV]) := HT1.out.trans (Turns.of_below hd2 (Nat.le_refl _) _)
      clear R3 HR2 hd2 hlk u0 z0 c2 c3 c4 g2
      generalize W1.drewN nq = W7 at R4 HR4 hs8 HT7 ⊢
      have u0 := R4.dn.cell he
      have z0 := R4.dn.frozen e
      have hgr := gr_setCell W7 bV e (.int .i64 (G t))
      have R5 := (R4.turnD hgr ((R4.dn.set e (G t)).congr HX.1)).congr (U' := wzU F T G P L H (t + 1)) (V' := wzD F T G P L H (t + 1)) (fun j hj => (HX.2 j hj).symm) (fun _ _ => rfl)
      have HR5 := HR4.turn hgr HAO.out.2
      have hs7 := hgr.size
      have HT8 := HT7.out.trans ((Turns.of_grown hgr).more (by simp))
      clear R4 HR4 hgr HX
      go_simp
      go_wp2
      go_roundw
      case rel => exact ⟨t + 1, by omega, by go_num, R5, HR5, by omega, HT8⟩
      case measure => simp [intOf]; omega

end Go.Proofs.Ytmnohgcjdhokdah
