/-
  Helpers, merged: EdgeLaw, EdgeEq, EdgeMark, HierLaw, MetIn, MetLaw, Has, Mark, Eq, Copy, Open, HasLaw, OpenHier, OpenMet, Clm, ClmS.
-/
import Derived.Test.YtdgnlpafmkhdjahPack1
import Derived.Test.YtdgnlpafmkhdjahPack5
import Derived.Test.YtdgnlpafmkhdjahPack2
import Derived.Laws.CopyOwn
import Derived.Maps.AppendAt
import Derived.Maps.Range
import Derived.Deep.AppendLies
import Derived.Test.YtdgnlpafmkhdjahPack3
import Derived.Test.YtdgnlpafmkhdjahPack4
/-
  What the exact laws' own helpers do with lists of edges: copies, the size that is counted, two held against each other; what the reading of an argument says. For every list of at most 2^20 edges.
-/
set_option linter.unusedVariables false
set_option linter.unusedSimpArgs false
namespace Go.Proofs.Ytdgnlpafmkhdjah
open Go.ChangeShapes Go.WideShapes Go.ChangeAt Go.RowKit Go.Deep Go.Joins

theorem made_edges (w : World) (n : Nat) (f : Nat → Int) : EHas (w.alloc (.cells (madeCells #[.int .i64 0, .int .i64 0] (n * 2)) 71)) w.heap.size n (upto f 0) := by
  refine EHas.of_row ⟨_, Go.Deep.blk_alloc_new _ _, size_madeCells _ _, fun i hi => ?_⟩
  have h3 : i % 2 = 0 ∨ i % 2 = 1 := by omega
  simp [madeCells, hi, upto]
  rcases h3 with h | h <;> simp [h]

theorem make_edges (n : Nat) (hn : n ≤ 1048576) (w : World) :
    (Instr.makeSlice 31 (.int .i64 (n : Int)) (.int .i64 (n : Int))).run Try.prog w = .ok (.slice (some ⟨w.heap.size, 0, none⟩) n n) (w.alloc (.cells (madeCells #[.int .i64 0, .int .i64 0] (n * 2)) 71)) := by
  obtain ⟨i, hi, hz0, hz1, hz2⟩ := info_parts Try.infoEdge
  have hr := run_make (P := Try.prog) w 31 71 i _ Try.underlying31 hi hz0 .i64 .i64 n n (by omega) (Int.le_refl _) (by rw [hz2]; omega) (by omega)
  simpa [hz1, Value.cells] using hr

theorem toEdge_any (f t : Int) (w : World) :
    Calls Try.prog 83 #[.agg #[.int .i64 f, .int .i64 t]] w fun e w' => e = .returned (.agg #[.int .i64 f, .int .i64 t]) ∧ Below w.heap.size w w' := by
  go_enter Try.func83, Try.ntmps83
  go_wp2
  simp [bodyPost, results, Try.results83, go_sem]
  exact (((Below.refl _ _).alloc (Nat.le_refl _) _).alloc (by simp) _).alloc (by simp; omega) _

theorem upto_two {L H : Nat → Int} {k j : Nat} : (if j = k * 2 + 1 then H k else if j = k * 2 then L k else upto (er L H) (k * 2) j) = upto (er L H) ((k + 1) * 2) j := by
  by_cases e1 : j = k * 2 + 1
  · subst e1; rw [if_pos rfl]; unfold upto; rw [if_pos (by omega), er1]
  by_cases e0 : j = k * 2
  · subst e0; rw [if_neg (by omega), if_pos rfl]; unfold upto; rw [if_pos (by omega), er0]
  rw [if_neg e1, if_neg e0]; unfold upto
  by_cases hl : j < k * 2
  · rw [if_pos hl, if_pos (by omega)]
  · rw [if_neg hl, if_neg (by omega)]

set_option maxHeartbeats 400000 in
theorem toEdgeS_any (ao : Option Addr) (n cap : Nat) (L H : Nat → Int) (hn : n ≤ 1048576) (w : World) (hr : ERow w ao n L H) :
    Calls Try.prog 50 #[.slice ao n cap] w fun e w' => e = .returned (.slice (some ⟨w.heap.size, 0, none⟩) n n) ∧ EHas w' w.heap.size n (er L H) ∧ Below w.heap.size w w' := by
  have hmk := make_edges n hn
  go_enter Try.func50, Try.ntmps50
  go_wp2
  clear hmk
  go_loopw [4] (fun i wr => ∃ k : Nat, k ≤ n ∧ i = .int .i64 k ∧ EHas wr w.heap.size n (upto (er L H) (k * 2)) ∧ Below w.heap.size w wr) (fun i _ => n - (intOf i).toNat)
  case atStart => exact ⟨0, Nat.zero_le _, rfl, made_edges w n _, (Below.refl _ _).alloc (Nat.le_refl _) _⟩
  case round =>
    obtain ⟨k, hk, rfl, hown, hbel⟩ := hrel
    by_cases hlt : k < n
    · obtain ⟨b, o, hao, c0, c1⟩ := (hr.below hbel (Nat.le_refl _)) k hlt
      subst hao
      go_wp2_with (go_at_call 83; refine (toEdge_any (L k) (H k) _).mono ?_; rintro e w1 ⟨rfl, hb1⟩; have d0 := EHas.cell (hown.next hb1) (j := k * 2) (by omega); have d1 := EHas.cell (hown.next hb1) (j := k * 2 + 1) (by omega); have z0 := EHas.frozen (hown.next hb1) (k * 2); have z1 := EHas.frozen (hown.next hb1) (k * 2 + 1))
      have R := (((hown.next hb1).set (k * 2) (L k)).set (k * 2 + 1) (H k)).congr (fun j _ => upto_two)
      have S := hbel.trans (hb1.mono hbel.size)
      clear d0 d1 z0 z1 hown hb1 hbel
      go_roundw
      case rel => exact ⟨k + 1, by omega, by go_num, R, (S.setCell (Nat.le_refl _) _).setCell (Nat.le_refl _) _⟩
      case measure => simp [intOf]; omega
    · have hkn : k = n := by omega
      subst hkn
      go_wp2
      go_ret
      exact ⟨rfl, hown.congr (fun j hj => by simp [upto, hj]), hbel⟩

theorem szEdgeS_in (ao : Option Addr) (n cap : Nat) (l : Int) (h0 : (n : Int) ≤ l) (hl : l ≤ 1048576) (w : World) :
    Calls Try.prog 43 #[.slice ao n cap, .int .i64 l] w fun e w' => e = .returned (.int .i64 (l - n)) ∧ w' = w := by
  go_enter Try.func43, Try.ntmps43
  go_wp2
  go_ret
  exact ⟨rfl, rfl⟩
theorem szEdgeS_out (ao : Option Addr) (n cap : Nat) (l : Int) (h0 : l < (n : Int)) (h1 : 0 ≤ l) (hl : l ≤ 1048576) (hn : n ≤ 9223372036854775807) (w : World) :
    Calls Try.prog 43 #[.slice ao n cap, .int .i64 l] w fun e w' => e = .returned (.int .i64 (-1)) ∧ w' = w := by
  go_enter Try.func43, Try.ntmps43
  go_wp2
  go_ret
  exact ⟨rfl, rfl⟩

theorem Try.cellsLEdge : Try.prog.cellsOf 110 = 2 := by kernel_rfl
set_option maxRecDepth 100000 in
theorem open_edges {H : Type} {enc : TypeId × Value → H} {w : World} {base : Nat} {spare : Nat → Bool} {held : Bool} {fuel : Nat} {cs : List Value} {x : DataW H × List MemPlace}
    (h : DataW.trod enc Try.prog w base spare held fuel 23 cs = some x) :
    ∃ (ao : Option Addr) (n cap : Nat) (F T : Nat → Int), cs = [.slice ao n cap] ∧ n ≤ maxLen ∧ ERow w ao n F T ∧ (∀ k, k < n → (Lit.int .i64 (F k)).wf = true) ∧ ∀ k, k < n → (Lit.int .i64 (T k)).wf = true := by
  rcases open_slice Try.underlying23 h with ⟨rfl, _⟩ | ⟨a, len, cap, m, n, D, Pl, rfl, hb, hl, hm, hmm, _, hx⟩
  · exact ⟨none, 0, 0, fun _ => 0, fun _ => 0, rfl, Nat.zero_le _, fun k hk => by omega, fun k hk => by omega, fun k hk => by omega⟩
  have hlm : len ≤ m := by rw [hmm]; split <;> omega
  have each : ∀ i, i < len → ∃ q : Int × Int, w.cell? (a.add (i * 2)) = some (.int .i64 q.1) ∧ w.cell? (a.add (i * 2 + 1)) = some (.int .i64 q.2) ∧ (Lit.int .i64 q.1).wf = true ∧ (Lit.int .i64 q.2).wf = true := by
    intro i hi
    obtain ⟨cs', h1, h2⟩ := hx i (by omega)
    rw [Try.cellsLEdge] at h1
    obtain ⟨_, hlen, hcell⟩ := World.cells?_some h1
    obtain ⟨y0, y1, n', _, _, g0, g1⟩ := trod_struct2 Try.underlying110 h2
    match cs', hlen with
    | [v0, v1], _ =>
      simp [Try.cellsInt] at g0 g1
      obtain ⟨q0, r0, _, f0⟩ := DataW.trod_int Try.underlying2 g0
      obtain ⟨q1, r1, _, f1⟩ := DataW.trod_int Try.underlying2 g1
      have e0 := hcell 0 (by omega)
      have e1 := hcell 1 (by omega)
      rw [add_add] at e0 e1
      simp at r0 r1
      subst r0 r1
      exact ⟨(q0, q1), by simpa using e0, by simpa using e1, f0, f1⟩
  obtain ⟨f, hf⟩ := choose_lt each
  refine ⟨some a, len, cap, fun i => (f i).1, fun i => (f i).2, rfl, by omega, fun k hk => ?_, fun k hk => (hf k hk).2.2.1, fun k hk => (hf k hk).2.2.2⟩
  obtain ⟨b, o, spot⟩ := a
  have hspot : spot = none := by
    have := World.cell?_spot (hf 0 (by omega)).1
    simpa [Addr.add] using this
  subst hspot
  have := hf k hk
  rw [Addr.add_mid, Addr.add_mid] at this
  exact ⟨b, o, rfl, this.1, by simpa [Nat.add_assoc] using this.2.1⟩

end Go.Proofs.Ytdgnlpafmkhdjah

/-
  The laws' own comparison of two lists of edges. For every list of at most 2^20 edges.
-/
set_option linter.unusedVariables false
set_option linter.unusedSimpArgs false
namespace Go.Proofs.Ytdgnlpafmkhdjah
open Go.RowKit
attribute [local go_sem ↓] Go.wp_at_zero Go.wp_at_succ
theorem eqEdge_same (f t : Int) (w : World) :
    Calls Try.prog 88 #[.agg #[.int .i64 f, .int .i64 t], .agg #[.int .i64 f, .int .i64 t]] w fun e w' => e = .returned (.bool true) ∧ Below w.heap.size w w' := by
  go_enter Try.func88, Try.ntmps88
  go_wp2
  go_ret
  exact ⟨rfl, ((Below.refl _ _).alloc (Nat.le_refl _) _).alloc (by simp) _⟩

set_option maxHeartbeats 800000 in
theorem eqEdgeS_same (ao ao' : Option Addr) (n cap cap' : Nat) (L H : Nat → Int) (hn : n ≤ 1048576) (w : World) (hr : ERow w ao n L H) (hr' : ERow w ao' n L H) :
    Calls Try.prog 56 #[.slice ao n cap, .slice ao' n cap'] w fun e w' => e = .returned (.bool true) ∧ Below w.heap.size w w' := by
  go_enter Try.func56, Try.ntmps56
  go_wp2
  go_loopw [5] (fun i wr => ∃ k : Nat, k ≤ n ∧ i = .int .i64 k ∧ Below w.heap.size w wr) (fun i _ => n - (intOf i).toNat)
  case atStart => exact ⟨0, Nat.zero_le _, rfl, Below.refl _ _⟩
  case round =>
    obtain ⟨k, hk, rfl, hbel⟩ := hrel
    by_cases hlt : k < n
    rotate_left
    · have hkn : k = n := by omega
      subst hkn
      go_wp2
      go_ret
      exact ⟨rfl, hbel⟩
    obtain ⟨b, o, hao, c0, c1⟩ := (hr.below hbel (Nat.le_refl _)) k hlt
    obtain ⟨b', o', hao', d0, d1⟩ := (hr'.below hbel (Nat.le_refl _)) k hlt
    subst hao
    subst hao'
    have hk1 : (0 : Int) ≤ (k : Int) := by omega
    have hk2 : (k : Int) < (n : Int) := by omega
    go_wp2
    go_region_held3 (fun w' => w'.cell? ⟨b, o + k * 2, none⟩ = some (.int .i64 (L k)) ∧ w'.cell? ⟨b, o + k * 2 + 1, none⟩ = some (.int .i64 (H k)) ∧ w'.cell? ⟨b', o' + k * 2, none⟩ = some (.int .i64 (L k)) ∧ w'.cell? ⟨b', o' + k * 2 + 1, none⟩ = some (.int .i64 (H k)))
        (first | (go_split_ands; refine ⟨?_, ?_, ?_, ?_⟩ <;> exact keep_cell ‹_› (Nat.le_refl _) (by assumption)) | go_keep)
        (first | (go_at_call 88; refine (eqEdge_same _ _ _).mono ?_; rintro e w2 ⟨rfl, hb2⟩))
    go_wp2
    go_roundw
    case rel => exact ⟨k + 1, by omega, by go_num, below_next hbel.drew (Nat.le_refl _) hb2⟩
    case measure => simp [intOf]; omega

end Go.Proofs.Ytdgnlpafmkhdjah

/-
  The exact laws' marks in edges of the law's own.
-/
set_option linter.unusedVariables false
set_option linter.unusedSimpArgs false
namespace Go.Proofs.Ytdgnlpafmkhdjah
open Go.RowKit

/-- The marks: cell j holds k + j. -/
def mke (k : Int) (j : Nat) : Int := k + j

set_option maxHeartbeats 1000000 in
theorem markEdgeS_any (b n cap : Nat) (f : Nat → Int) (k : Int) (hk0 : 0 ≤ k) (hk1 : k ≤ 4000000) (hn : n ≤ 1048576) (w : World) (h : 0 < n → EHas w b n f) (ao : Option Addr) (hao : 0 < n → ao = some ⟨b, 0, none⟩) :
    Calls Try.prog 68 #[.slice ao n cap, .int .i64 k] w fun e w' => e = .returned (.int .i64 (k + 2 * n)) ∧ (0 < n → EHas w' b n (mke k)) ∧ w.grownBy w' (some b) := by
  go_enter Try.func68, Try.ntmps68
  go_wp2
  go_loopw [1, 5] (fun q i wr => ∃ m : Nat, m ≤ n ∧ i = .int .i64 m ∧ q = .int .i64 (k + 2 * m) ∧ (0 < n → EHas wr b n (fun j => if j < 2 * m then mke k j else f j)) ∧ w.grownBy wr (some b)) (fun _ i _ => n - (intOf i).toNat)
  case atStart => exact ⟨0, Nat.zero_le _, rfl, by simp, fun hp => (h hp).congr (fun j _ => by simp), World.grownBy.refl _ _⟩
  case round =>
    obtain ⟨m, hm, rfl, rfl, hh, hg⟩ := hrel
    by_cases hlt : m < n
    rotate_left
    · have e : m = n := by omega
      subst e
      go_wp2
      go_ret
      exact ⟨rfl, fun hp => (hh hp).congr (fun j hj => by rw [if_pos (by omega)]), hg⟩
    obtain rfl := hao (by omega)
    have HH := hh (by omega)
    have d0 := HH.cell (j := m * 2) (by omega)
    have d1 := HH.cell (j := m * 2 + 1) (by omega)
    have z0 := HH.frozen (m * 2)
    have z1 := HH.frozen (m * 2 + 1)
    have R := (HH.set (m * 2) (k + 2 * m)).set (m * 2 + 1) (k + 2 * m + 1)
    have S := (hg.trans (gr_setCell _ b (m * 2) (.int .i64 (k + 2 * m)))).trans (gr_setCell _ b (m * 2 + 1) (.int .i64 (k + 2 * m + 1)))
    clear HH hh
    go_wp2
    go_roundw
    case rel =>
      refine ⟨m + 1, by omega, by go_num, by go_num, fun _ => R.congr (fun j hj => ?_), S⟩
      by_cases e1 : j = m * 2 + 1
      · subst e1; simp [mke]; omega
      by_cases e0 : j = m * 2
      · subst e0; simp [mke]; omega
      simp only [if_neg e1, if_neg e0]
      by_cases hl : j < 2 * m
      · rw [if_pos hl, if_pos (by omega)]
      · rw [if_neg hl, if_neg (by omega)]
    case measure => simp [intOf]; omega

end Go.Proofs.Ytdgnlpafmkhdjah

/-
  The laws' helpers over hierarchies: measured, copied, held against each other, marked.
-/
set_option linter.unusedVariables false
set_option linter.unusedSimpArgs false
namespace Go.Proofs.Ytdgnlpafmkhdjah
open Go.RowKit
attribute [local go_sem ↓] Go.wp_at_zero Go.wp_at_succ

theorem szInt64S_in (ao : Option Addr) (n cap : Nat) (l : Int) (h0 : (n : Int) ≤ l) (hl : l ≤ 1048576) (w : World) :
    Calls Try.prog 42 #[.slice ao n cap, .int .i64 l] w fun e w' => e = .returned (.int .i64 (l - n)) ∧ w' = w := by
  go_enter Try.func42, Try.ntmps42
  go_wp2
  go_ret
  exact ⟨rfl, rfl⟩
theorem szInt64S_out (ao : Option Addr) (n cap : Nat) (l : Int) (h0 : l < (n : Int)) (h1 : 0 ≤ l) (hl : l ≤ 1048576) (hn : n ≤ 9223372036854775807) (w : World) :
    Calls Try.prog 42 #[.slice ao n cap, .int .i64 l] w fun e w' => e = .returned (.int .i64 (-1)) ∧ w' = w := by
  go_enter Try.func42, Try.ntmps42
  go_wp2
  go_ret
  exact ⟨rfl, rfl⟩
theorem szHier_in (po : Option Addr) (k pcap : Nat) (eo : Option Addr) (m ecap : Nat) (l : Int) (h0 : (k : Int) + (m : Int) ≤ l) (hl : l ≤ 1048576) (w : World) :
    Calls Try.prog 9 #[.agg #[.slice po k pcap, .slice eo m ecap], .int .i64 l] w fun e w' => e = .returned (.int .i64 (l - k - m)) ∧ Below w.heap.size w w' := by
  have hkl : ¬ l - (k : Int) < 0 := by omega
  have hkm : ¬ l - (k : Int) - (m : Int) < 0 := by omega
  go_enter Try.func9, Try.ntmps9
  go_wp2_with (first | (go_at_call 42; refine (szInt64S_in po k pcap l (by omega) hl _).mono ?_; rintro e w1 ⟨rfl, rfl⟩) | (go_at_call 43; refine (szEdgeS_in eo m ecap (l - k) (by omega) (by omega) _).mono ?_; rintro e w1 ⟨rfl, rfl⟩))
  go_ret
  exact ⟨rfl, (Below.refl _ _).alloc (Nat.le_refl _) _⟩
theorem szHier_out (po : Option Addr) (k pcap : Nat) (eo : Option Addr) (m ecap : Nat) (l : Int) (h0 : l < (k : Int) + (m : Int)) (h1 : 0 ≤ l) (hl : l ≤ 1048576) (hk : k ≤ 9223372036854775807) (hm : m ≤ 9223372036854775807) (w : World) :
    Calls Try.prog 9 #[.agg #[.slice po k pcap, .slice eo m ecap], .int .i64 l] w fun e w' => e = .returned (.int .i64 (-1)) ∧ Below w.heap.size w w' := by
  by_cases hkl : l < (k : Int)
  · go_enter Try.func9, Try.ntmps9
    go_wp2_with (go_at_call 42; refine (szInt64S_out po k pcap l hkl h1 hl hk _).mono ?_; rintro e w1 ⟨rfl, rfl⟩)
    go_ret
    exact ⟨rfl, (Below.refl _ _).alloc (Nat.le_refl _) _⟩
  · have hkl' : ¬ l - (k : Int) < 0 := by omega
    go_enter Try.func9, Try.ntmps9
    go_wp2_with (first | (go_at_call 42; refine (szInt64S_in po k pcap l (by omega) hl _).mono ?_; rintro e w1 ⟨rfl, rfl⟩) | (go_at_call 43; refine (szEdgeS_out eo m ecap (l - k) (by omega) (by omega) (by omega) hm _).mono ?_; rintro e w1 ⟨rfl, rfl⟩))
    go_ret
    exact ⟨rfl, (Below.refl _ _).alloc (Nat.le_refl _) _⟩
set_option maxHeartbeats 1000000 in
theorem toHier_any (po : Option Addr) (k pcap : Nat) (P : Nat → Int) (eo : Option Addr) (m ecap : Nat) (L H : Nat → Int) (hk : k ≤ 1048576) (hm : m ≤ 1048576) (w : World) (hp : IRow w po k P) (he : ERow w eo m L H) :
    Calls Try.prog 12 #[.agg #[.slice po k pcap, .slice eo m ecap]] w fun e w' => ∃ b c, e = .returned (.agg #[.slice (some ⟨b, 0, none⟩) k k, .slice (some ⟨c, 0, none⟩) m m]) ∧ w.heap.size ≤ b ∧ b < c ∧ IHas w' b k P ∧ EHas w' c m (er L H) ∧ Below w.heap.size w w' := by
  go_enter Try.func12, Try.ntmps12
  go_wp2_with fail
  refine (toInt64S_any po k pcap P hk _ (((hp.alloc _).alloc _).alloc _)).mono ?_
  rintro e w1 ⟨rfl, hI1, hb1⟩
  obtain ⟨hc, hf⟩ := bcell hb1
  simp only [World.size_alloc] at hI1
  have hz : w.heap.size + 1 + 1 + 1 < w1.heap.size := hI1.lt
  have hB1 : Below w.heap.size w w1 := unbox (unbox (unbox hb1 (by simp)) (by simp)) (by simp)
  have c20 : w1.cell? ⟨w.heap.size + 1 + 1, 0, none⟩ = some (.slice none 0 0) := by rw [hc _ _ (by simp)]; simp [go_sem]
  have c21 : w1.cell? ⟨w.heap.size + 1 + 1, 1, none⟩ = some (.slice none 0 0) := by rw [hc _ _ (by simp)]; simp [go_sem]
  have c10 : w1.cell? ⟨w.heap.size + 1, 0, none⟩ = some (.slice none 0 0) := by rw [hc _ _ (by simp)]; simp [go_sem]
  have c11 : w1.cell? ⟨w.heap.size + 1, 1, none⟩ = some (.slice none 0 0) := by rw [hc _ _ (by simp)]; simp [go_sem]
  have f2 : ∀ o, w1.frozen? ⟨w.heap.size + 1 + 1, o, none⟩ = false := fun o => by rw [hf _ _ (by simp)]; simp [go_sem]
  have f1 : ∀ o, w1.frozen? ⟨w.heap.size + 1, o, none⟩ = false := fun o => by rw [hf _ _ (by simp)]; simp [go_sem]
  go_wp2_with fail
  have hB2 := hB1.setCell (p := ⟨w.heap.size + 1 + 1, 0, none⟩) (by simp; omega) (.slice (some ⟨w.heap.size + 1 + 1 + 1, 0, none⟩) k k)
  have hI2 := hI1.grown (gr_setCell w1 (w.heap.size + 1 + 1) 0 (.slice (some ⟨w.heap.size + 1 + 1 + 1, 0, none⟩) k k)) (by simp)
  have hz2 : (w1.setCell ⟨w.heap.size + 1 + 1, 0, none⟩ (.slice (some ⟨w.heap.size + 1 + 1 + 1, 0, none⟩) k k)).heap.size = w1.heap.size := by simp [World.setCell]
  refine (toEdgeS_any eo m ecap L H hm _ (he.below hB2 (Nat.le_refl _))).mono ?_
  rintro e w3 ⟨rfl, hE3, hb3⟩
  obtain ⟨hc3, hf3⟩ := bcell hb3
  rw [hz2] at hc3 hf3 hE3
  have d20 : w3.cell? ⟨w.heap.size + 1 + 1, 0, none⟩ = some (.slice (some ⟨w.heap.size + 1 + 1 + 1, 0, none⟩) k k) := by rw [hc3 _ _ (by omega)]; simp [go_sem, c20]
  have d21 : w3.cell? ⟨w.heap.size + 1 + 1, 1, none⟩ = some (.slice none 0 0) := by rw [hc3 _ _ (by omega)]; simp [go_sem, c21]
  have d10 : w3.cell? ⟨w.heap.size + 1, 0, none⟩ = some (.slice none 0 0) := by rw [hc3 _ _ (by omega)]; simp [go_sem, c10]
  have d11 : w3.cell? ⟨w.heap.size + 1, 1, none⟩ = some (.slice none 0 0) := by rw [hc3 _ _ (by omega)]; simp [go_sem, c11]
  have g2 : ∀ o, w3.frozen? ⟨w.heap.size + 1 + 1, o, none⟩ = false := fun o => by rw [hf3 _ _ (by omega)]; simp [go_sem, f2]
  have g1 : ∀ o, w3.frozen? ⟨w.heap.size + 1, o, none⟩ = false := fun o => by rw [hf3 _ _ (by omega)]; simp [go_sem, f1]
  have hI3 := hI2.below hb3 hI2.lt
  have hB3 := below_next hB2 (Nat.le_refl _) hb3
  have hz3 : w1.heap.size < w3.heap.size := hE3.lt
  clear hc hf hc3 hf3 c20 c21 c10 c11 f2 f1 hI1 hb1 hb3 hB1 hB2 hI2 hz2
  go_wp2
  have hI4 := ((hI3.grown (gr_setCell w3 (w.heap.size + 1 + 1) 1 (.slice (some ⟨w1.heap.size, 0, none⟩) m m)) (by simp)).grown (gr_setCell _ (w.heap.size + 1) 0 (.slice (some ⟨w.heap.size + 1 + 1 + 1, 0, none⟩) k k)) (by simp; omega)).grown (gr_setCell _ (w.heap.size + 1) 1 (.slice (some ⟨w1.heap.size, 0, none⟩) m m)) (by simp; omega)
  have hE4 := ((hE3.grown (gr_setCell w3 (w.heap.size + 1 + 1) 1 (.slice (some ⟨w1.heap.size, 0, none⟩) m m)) (by simp; omega)).grown (gr_setCell _ (w.heap.size + 1) 0 (.slice (some ⟨w.heap.size + 1 + 1 + 1, 0, none⟩) k k)) (by simp; omega)).grown (gr_setCell _ (w.heap.size + 1) 1 (.slice (some ⟨w1.heap.size, 0, none⟩) m m)) (by simp; omega)
  have hB4 := ((hB3.setCell (p := ⟨w.heap.size + 1 + 1, 1, none⟩) (by simp; omega) (.slice (some ⟨w1.heap.size, 0, none⟩) m m)).setCell (p := ⟨w.heap.size + 1, 0, none⟩) (by simp) (.slice (some ⟨w.heap.size + 1 + 1 + 1, 0, none⟩) k k)).setCell (p := ⟨w.heap.size + 1, 1, none⟩) (by simp) (.slice (some ⟨w1.heap.size, 0, none⟩) m m)
  have r0 : (((w3.setCell ⟨w.heap.size + 1 + 1, 1, none⟩ (.slice (some ⟨w1.heap.size, 0, none⟩) m m)).setCell ⟨w.heap.size + 1, 0, none⟩ (.slice (some ⟨w.heap.size + 1 + 1 + 1, 0, none⟩) k k)).setCell ⟨w.heap.size + 1, 1, none⟩ (.slice (some ⟨w1.heap.size, 0, none⟩) m m)).cell? ⟨w.heap.size + 1, 0, none⟩ = some (.slice (some ⟨w.heap.size + 1 + 1 + 1, 0, none⟩) k k) := by simp [go_sem, d10, d11]
  have r1 : (((w3.setCell ⟨w.heap.size + 1 + 1, 1, none⟩ (.slice (some ⟨w1.heap.size, 0, none⟩) m m)).setCell ⟨w.heap.size + 1, 0, none⟩ (.slice (some ⟨w.heap.size + 1 + 1 + 1, 0, none⟩) k k)).setCell ⟨w.heap.size + 1, 1, none⟩ (.slice (some ⟨w1.heap.size, 0, none⟩) m m)).cell? ⟨w.heap.size + 1, 1, none⟩ = some (.slice (some ⟨w1.heap.size, 0, none⟩) m m) := by simp [go_sem, d10, d11]
  generalize (((w3.setCell ⟨w.heap.size + 1 + 1, 1, none⟩ (.slice (some ⟨w1.heap.size, 0, none⟩) m m)).setCell ⟨w.heap.size + 1, 0, none⟩ (.slice (some ⟨w.heap.size + 1 + 1 + 1, 0, none⟩) k k)).setCell ⟨w.heap.size + 1, 1, none⟩ (.slice (some ⟨w1.heap.size, 0, none⟩) m m)) = W4 at hI4 hE4 hB4 r0 r1 ⊢
  simp [bodyPost, results, Try.results12, go_sem, r0, r1]
  exact ⟨_, _, ⟨rfl, rfl⟩, by omega, by omega, hI4, hE4, hB4⟩
set_option maxHeartbeats 1000000 in
theorem eqHier_same (po po' : Option Addr) (k pcap pcap' : Nat) (P : Nat → Int) (eo eo' : Option Addr) (m ecap ecap' : Nat) (L H : Nat → Int) (hk : k ≤ 1048576) (hm : m ≤ 1048576) (w : World) (hp : IRow w po k P) (hp' : IRow w po' k P) (he : ERow w eo m L H) (he' : ERow w eo' m L H) :
    Calls Try.prog 15 #[.agg #[.slice po k pcap, .slice eo m ecap], .agg #[.slice po' k pcap', .slice eo' m ecap']] w fun e w' => e = .returned (.bool true) ∧ Below w.heap.size w w' := by
  go_enter Try.func15, Try.ntmps15
  go_wp2_with fail
  refine (eqInt64S_same po po' k pcap pcap' P hk _ ((hp.alloc _).alloc _) ((hp'.alloc _).alloc _)).mono ?_
  rintro e w1 ⟨rfl, hb1⟩
  have hB1 : Below w.heap.size w w1 := unbox (unbox hb1 (by simp)) (by simp)
  have c01 := keep_cell hb1 (Nat.le_refl _) (b := w.heap.size) (o := 1) (by simp [go_sem]; rfl)
  have c11 := keep_cell hb1 (Nat.le_refl _) (b := w.heap.size + 1) (o := 1) (by simp [go_sem]; rfl)
  clear hb1
  go_wp2_with fail
  refine (eqEdgeS_same eo eo' m ecap ecap' L H hm _ (he.below hB1 (Nat.le_refl _)) (he'.below hB1 (Nat.le_refl _))).mono ?_
  rintro e w2 ⟨rfl, hb2⟩
  go_wp2
  go_ret
  exact ⟨rfl, below_next hB1 (Nat.le_refl _) hb2⟩
set_option maxHeartbeats 1000000 in
theorem markHier_any (b c k m pcap ecap : Nat) (f h : Nat → Int) (q : Int) (hq0 : 0 ≤ q) (hq1 : q + (k : Int) ≤ 4000000) (hk : k ≤ 1048576) (hm : m ≤ 1048576) (w : World) (hi : 0 < k → IHas w b k f) (he : 0 < m → EHas w c m h) (hbc : b ≠ c) (po : Option Addr) (hpo : 0 < k → po = some ⟨b, 0, none⟩) (eo : Option Addr) (heo : 0 < m → eo = some ⟨c, 0, none⟩) (hbl : b < w.heap.size) (hcl : c < w.heap.size) :
    Calls Try.prog 26 #[.agg #[.slice po k pcap, .slice eo m ecap], .int .i64 q] w fun e w' => e = .returned (.int .i64 (q + k + 2 * m)) ∧ (0 < k → IHas w' b k (mki q)) ∧ (0 < m → EHas w' c m (mke (q + k))) ∧ Turns w w' [b, c] := by
  go_enter Try.func26, Try.ntmps26
  go_wp2_with fail
  have hal := (Below.refl w.heap.size w).alloc (Nat.le_refl _) (.cells #[.slice po k pcap, .slice eo m ecap] 33)
  refine (markInt64S_any b k pcap f q hq0 (by omega) hk _ (fun h => (hi h).below hal (hi h).lt) po hpo).mono ?_
  rintro e w1 ⟨rfl, hi1, hg1⟩
  have c1 : w1.cell? ⟨w.heap.size, 1, none⟩ = some (.slice eo m ecap) := hg1.cell (by simp [go_sem]) (by simp; omega)
  have T1 : Turns w w1 [b, c] := (Turns.of_below hal (Nat.le_refl _) _).trans ((Turns.of_grown hg1).more (by simp))
  have he1 : 0 < m → EHas w1 c m h := fun x => ((he x).below hal (he x).lt).grown hg1 (by simp; omega)
  have hq3 : 0 ≤ q + (k : Int) := by omega
  have hq4 : q + (k : Int) ≤ 4000000 := by omega
  clear hg1
  go_wp2_with fail
  refine (markEdgeS_any c m ecap h (q + k) hq3 hq4 hm _ he1 eo heo).mono ?_
  rintro e w2 ⟨rfl, he2, hg2⟩
  go_wp2
  go_ret
  exact ⟨rfl, fun x => (hi1 x).grown hg2 (by simp; omega), he2, T1.trans ((Turns.of_grown hg2).more (by simp))⟩

end Go.Proofs.Ytdgnlpafmkhdjah

/-
  The laws' helpers over metrics: measured, copied.
-/
set_option linter.unusedVariables false
set_option linter.unusedSimpArgs false
namespace Go.Proofs.Ytdgnlpafmkhdjah
open Go.RowKit
attribute [local go_sem ↓] Go.wp_at_zero Go.wp_at_succ

theorem szMetric_in (po : Option Addr) (k pcap : Nat) (eo : Option Addr) (m ecap : Nat) (l : Int) (h0 : (k : Int) + (m : Int) ≤ l) (hl : l ≤ 1048576) (w : World) :
    Calls Try.prog 10 #[.agg #[.slice po k pcap, .slice eo m ecap], .int .i64 l] w fun e w' => e = .returned (.int .i64 (l - k - m)) ∧ Below w.heap.size w w' := by
  have hkl : ¬ l - (k : Int) < 0 := by omega
  have hkm : ¬ l - (k : Int) - (m : Int) < 0 := by omega
  go_enter Try.func10, Try.ntmps10
  go_wp2_with fail
  refine (szInt64S_in po k pcap l (by omega) hl _).mono ?_
  rintro e w1 ⟨rfl, rfl⟩
  go_wp2_with fail
  refine (szInt64S_in eo m ecap (l - k) (by omega) (by omega) _).mono ?_
  rintro e w1 ⟨rfl, rfl⟩
  go_wp2
  go_ret
  exact ⟨rfl, (Below.refl _ _).alloc (Nat.le_refl _) _⟩
theorem szMetric_out (po : Option Addr) (k pcap : Nat) (eo : Option Addr) (m ecap : Nat) (l : Int) (h0 : l < (k : Int) + (m : Int)) (h1 : 0 ≤ l) (hl : l ≤ 1048576) (hk : k ≤ 9223372036854775807) (hm : m ≤ 9223372036854775807) (w : World) :
    Calls Try.prog 10 #[.agg #[.slice po k pcap, .slice eo m ecap], .int .i64 l] w fun e w' => e = .returned (.int .i64 (-1)) ∧ Below w.heap.size w w' := by
  by_cases hkl : l < (k : Int)
  · go_enter Try.func10, Try.ntmps10
    go_wp2_with (go_at_call 42; refine (szInt64S_out po k pcap l hkl h1 hl hk _).mono ?_; rintro e w1 ⟨rfl, rfl⟩)
    go_ret
    exact ⟨rfl, (Below.refl _ _).alloc (Nat.le_refl _) _⟩
  · have hkl' : ¬ l - (k : Int) < 0 := by omega
    go_enter Try.func10, Try.ntmps10
    go_wp2_with fail
    refine (szInt64S_in po k pcap l (by omega) hl _).mono ?_
    rintro e w1 ⟨rfl, rfl⟩
    go_wp2_with fail
    refine (szInt64S_out eo m ecap (l - k) (by omega) (by omega) (by omega) hm _).mono ?_
    rintro e w1 ⟨rfl, rfl⟩
    go_wp2
    go_ret
    exact ⟨rfl, (Below.refl _ _).alloc (Nat.le_refl _) _⟩
set_option maxHeartbeats 1000000 in
theorem toMetric_any (po : Option Addr) (k pcap : Nat) (P : Nat → Int) (eo : Option Addr) (m ecap : Nat) (D : Nat → Int) (hk : k ≤ 1048576) (hm : m ≤ 1048576) (w : World) (hp : IRow w po k P) (he : IRow w eo m D) :
    Calls Try.prog 13 #[.agg #[.slice po k pcap, .slice eo m ecap]] w fun e w' => ∃ b c, e = .returned (.agg #[.slice (some ⟨b, 0, none⟩) k k, .slice (some ⟨c, 0, none⟩) m m]) ∧ w.heap.size ≤ b ∧ b < c ∧ IHas w' b k P ∧ IHas w' c m D ∧ Below w.heap.size w w' := by
  go_enter Try.func13, Try.ntmps13
  go_wp2_with fail
  refine (toInt64S_any po k pcap P hk _ (((hp.alloc _).alloc _).alloc _)).mono ?_
  rintro e w1 ⟨rfl, hI1, hb1⟩
  obtain ⟨hc, hf⟩ := bcell hb1
  simp only [World.size_alloc] at hI1
  have hz : w.heap.size + 1 + 1 + 1 < w1.heap.size := hI1.lt
  have hB1 : Below w.heap.size w w1 := unbox (unbox (unbox hb1 (by simp)) (by simp)) (by simp)
  have c20 : w1.cell? ⟨w.heap.size + 1 + 1, 0, none⟩ = some (.slice none 0 0) := by rw [hc _ _ (by simp)]; simp [go_sem]
  have c21 : w1.cell? ⟨w.heap.size + 1 + 1, 1, none⟩ = some (.slice none 0 0) := by rw [hc _ _ (by simp)]; simp [go_sem]
  have c10 : w1.cell? ⟨w.heap.size + 1, 0, none⟩ = some (.slice none 0 0) := by rw [hc _ _ (by simp)]; simp [go_sem]
  have c11 : w1.cell? ⟨w.heap.size + 1, 1, none⟩ = some (.slice none 0 0) := by rw [hc _ _ (by simp)]; simp [go_sem]
  have f2 : ∀ o, w1.frozen? ⟨w.heap.size + 1 + 1, o, none⟩ = false := fun o => by rw [hf _ _ (by simp)]; simp [go_sem]
  have f1 : ∀ o, w1.frozen? ⟨w.heap.size + 1, o, none⟩ = false := fun o => by rw [hf _ _ (by simp)]; simp [go_sem]
  go_wp2_with fail
  have hB2 := hB1.setCell (p := ⟨w.heap.size + 1 + 1, 0, none⟩) (by simp; omega) (.slice (some ⟨w.heap.size + 1 + 1 + 1, 0, none⟩) k k)
  have hI2 := hI1.grown (gr_setCell w1 (w.heap.size + 1 + 1) 0 (.slice (some ⟨w.heap.size + 1 + 1 + 1, 0, none⟩) k k)) (by simp)
  have hz2 : (w1.setCell ⟨w.heap.size + 1 + 1, 0, none⟩ (.slice (some ⟨w.heap.size + 1 + 1 + 1, 0, none⟩) k k)).heap.size = w1.heap.size := by simp [World.setCell]
  refine (toInt64S_any eo m ecap D hm _ (he.below hB2 (Nat.le_refl _))).mono ?_
  rintro e w3 ⟨rfl, hE3, hb3⟩
  obtain ⟨hc3, hf3⟩ := bcell hb3
  rw [hz2] at hc3 hf3 hE3
  have d20 : w3.cell? ⟨w.heap.size + 1 + 1, 0, none⟩ = some (.slice (some ⟨w.heap.size + 1 + 1 + 1, 0, none⟩) k k) := by rw [hc3 _ _ (by omega)]; simp [go_sem, c20]
  have d21 : w3.cell? ⟨w.heap.size + 1 + 1, 1, none⟩ = some (.slice none 0 0) := by rw [hc3 _ _ (by omega)]; simp [go_sem, c21]
  have d10 : w3.cell? ⟨w.heap.size + 1, 0, none⟩ = some (.slice none 0 0) := by rw [hc3 _ _ (by omega)]; simp [go_sem, c10]
  have d11 : w3.cell? ⟨w.heap.size + 1, 1, none⟩ = some (.slice none 0 0) := by rw [hc3 _ _ (by omega)]; simp [go_sem, c11]
  have g2 : ∀ o, w3.frozen? ⟨w.heap.size + 1 + 1, o, none⟩ = false := fun o => by rw [hf3 _ _ (by omega)]; simp [go_sem, f2]
  have g1 : ∀ o, w3.frozen? ⟨w.heap.size + 1, o, none⟩ = false := fun o => by rw [hf3 _ _ (by omega)]; simp [go_sem, f1]
  have hI3 := hI2.below hb3 hI2.lt
  have hB3 := below_next hB2 (Nat.le_refl _) hb3
  have hz3 : w1.heap.size < w3.heap.size := hE3.lt
  clear hc hf hc3 hf3 c20 c21 c10 c11 f2 f1 hI1 hb1 hb3 hB1 hB2 hI2 hz2
  go_wp2
  have hI4 := ((hI3.grown (gr_setCell w3 (w.heap.size + 1 + 1) 1 (.slice (some ⟨w1.heap.size, 0, none⟩) m m)) (by simp)).grown (gr_setCell _ (w.heap.size + 1) 0 (.slice (some ⟨w.heap.size + 1 + 1 + 1, 0, none⟩) k k)) (by simp; omega)).grown (gr_setCell _ (w.heap.size + 1) 1 (.slice (some ⟨w1.heap.size, 0, none⟩) m m)) (by simp; omega)
  have hE4 := ((hE3.grown (gr_setCell w3 (w.heap.size + 1 + 1) 1 (.slice (some ⟨w1.heap.size, 0, none⟩) m m)) (by simp; omega)).grown (gr_setCell _ (w.heap.size + 1) 0 (.slice (some ⟨w.heap.size + 1 + 1 + 1, 0, none⟩) k k)) (by simp; omega)).grown (gr_setCell _ (w.heap.size + 1) 1 (.slice (some ⟨w1.heap.size, 0, none⟩) m m)) (by simp; omega)
  have hB4 := ((hB3.setCell (p := ⟨w.heap.size + 1 + 1, 1, none⟩) (by simp; omega) (.slice (some ⟨w1.heap.size, 0, none⟩) m m)).setCell (p := ⟨w.heap.size + 1, 0, none⟩) (by simp) (.slice (some ⟨w.heap.size + 1 + 1 + 1, 0, none⟩) k k)).setCell (p := ⟨w.heap.size + 1, 1, none⟩) (by simp) (.slice (some ⟨w1.heap.size, 0, none⟩) m m)
  have r0 : (((w3.setCell ⟨w.heap.size + 1 + 1, 1, none⟩ (.slice (some ⟨w1.heap.size, 0, none⟩) m m)).setCell ⟨w.heap.size + 1, 0, none⟩ (.slice (some ⟨w.heap.size + 1 + 1 + 1, 0, none⟩) k k)).setCell ⟨w.heap.size + 1, 1, none⟩ (.slice (some ⟨w1.heap.size, 0, none⟩) m m)).cell? ⟨w.heap.size + 1, 0, none⟩ = some (.slice (some ⟨w.heap.size + 1 + 1 + 1, 0, none⟩) k k) := by simp [go_sem, d10, d11]
  have r1 : (((w3.setCell ⟨w.heap.size + 1 + 1, 1, none⟩ (.slice (some ⟨w1.heap.size, 0, none⟩) m m)).setCell ⟨w.heap.size + 1, 0, none⟩ (.slice (some ⟨w.heap.size + 1 + 1 + 1, 0, none⟩) k k)).setCell ⟨w.heap.size + 1, 1, none⟩ (.slice (some ⟨w1.heap.size, 0, none⟩) m m)).cell? ⟨w.heap.size + 1, 1, none⟩ = some (.slice (some ⟨w1.heap.size, 0, none⟩) m m) := by simp [go_sem, d10, d11]
  generalize (((w3.setCell ⟨w.heap.size + 1 + 1, 1, none⟩ (.slice (some ⟨w1.heap.size, 0, none⟩) m m)).setCell ⟨w.heap.size + 1, 0, none⟩ (.slice (some ⟨w.heap.size + 1 + 1 + 1, 0, none⟩) k k)).setCell ⟨w.heap.size + 1, 1, none⟩ (.slice (some ⟨w1.heap.size, 0, none⟩) m m)) = W4 at hI4 hE4 hB4 r0 r1 ⊢
  simp [bodyPost, results, Try.results13, go_sem, r0, r1]
  exact ⟨_, _, ⟨rfl, rfl⟩, by omega, by omega, hI4, hE4, hB4⟩

end Go.Proofs.Ytdgnlpafmkhdjah

/-
  The laws' helpers over metrics: measured, copied, held against each other, marked.
-/
set_option linter.unusedVariables false
set_option linter.unusedSimpArgs false
namespace Go.Proofs.Ytdgnlpafmkhdjah
open Go.RowKit
attribute [local go_sem ↓] Go.wp_at_zero Go.wp_at_succ

set_option maxHeartbeats 1000000 in
theorem eqMetric_same (po po' : Option Addr) (k pcap pcap' : Nat) (P : Nat → Int) (eo eo' : Option Addr) (m ecap ecap' : Nat) (D : Nat → Int) (hk : k ≤ 1048576) (hm : m ≤ 1048576) (w : World) (hp : IRow w po k P) (hp' : IRow w po' k P) (he : IRow w eo m D) (he' : IRow w eo' m D) :
    Calls Try.prog 16 #[.agg #[.slice po k pcap, .slice eo m ecap], .agg #[.slice po' k pcap', .slice eo' m ecap']] w fun e w' => e = .returned (.bool true) ∧ Below w.heap.size w w' := by
  go_enter Try.func16, Try.ntmps16
  go_wp2_with fail
  refine (eqInt64S_same po po' k pcap pcap' P hk _ ((hp.alloc _).alloc _) ((hp'.alloc _).alloc _)).mono ?_
  rintro e w1 ⟨rfl, hb1⟩
  have hB1 : Below w.heap.size w w1 := unbox (unbox hb1 (by simp)) (by simp)
  have c01 := keep_cell hb1 (Nat.le_refl _) (b := w.heap.size) (o := 1) (by simp [go_sem]; rfl)
  have c11 := keep_cell hb1 (Nat.le_refl _) (b := w.heap.size + 1) (o := 1) (by simp [go_sem]; rfl)
  clear hb1
  go_wp2_with fail
  refine (eqInt64S_same eo eo' m ecap ecap' D hm _ (he.below hB1 (Nat.le_refl _)) (he'.below hB1 (Nat.le_refl _))).mono ?_
  rintro e w2 ⟨rfl, hb2⟩
  go_wp2
  go_ret
  exact ⟨rfl, below_next hB1 (Nat.le_refl _) hb2⟩
set_option maxHeartbeats 1000000 in
theorem markMetric_any (b c k m pcap ecap : Nat) (f h : Nat → Int) (q : Int) (hq0 : 0 ≤ q) (hq1 : q + (k : Int) ≤ 4000000) (hk : k ≤ 1048576) (hm : m ≤ 1048576) (w : World) (hi : 0 < k → IHas w b k f) (he : 0 < m → IHas w c m h) (hbc : b ≠ c) (po : Option Addr) (hpo : 0 < k → po = some ⟨b, 0, none⟩) (eo : Option Addr) (heo : 0 < m → eo = some ⟨c, 0, none⟩) (hbl : b < w.heap.size) (hcl : c < w.heap.size) :
    Calls Try.prog 27 #[.agg #[.slice po k pcap, .slice eo m ecap], .int .i64 q] w fun e w' => e = .returned (.int .i64 (q + k + m)) ∧ (0 < k → IHas w' b k (mki q)) ∧ (0 < m → IHas w' c m (mki (q + k))) ∧ Turns w w' [b, c] := by
  go_enter Try.func27, Try.ntmps27
  go_wp2_with fail
  have hal := (Below.refl w.heap.size w).alloc (Nat.le_refl _) (.cells #[.slice po k pcap, .slice eo m ecap] 35)
  refine (markInt64S_any b k pcap f q hq0 (by omega) hk _ (fun h => (hi h).below hal (hi h).lt) po hpo).mono ?_
  rintro e w1 ⟨rfl, hi1, hg1⟩
  have c1 : w1.cell? ⟨w.heap.size, 1, none⟩ = some (.slice eo m ecap) := hg1.cell (by simp [go_sem]) (by simp; omega)
  have T1 : Turns w w1 [b, c] := (Turns.of_below hal (Nat.le_refl _) _).trans ((Turns.of_grown hg1).more (by simp))
  have he1 : 0 < m → IHas w1 c m h := fun x => ((he x).below hal (he x).lt).grown hg1 (by simp; omega)
  have hq3 : 0 ≤ q + (k : Int) := by omega
  have hq4 : q + (k : Int) ≤ 4000000 := by omega
  clear hg1
  go_wp2_with fail
  refine (markInt64S_any c m ecap h (q + k) hq3 hq4 hm _ he1 eo heo).mono ?_
  rintro e w2 ⟨rfl, he2, hg2⟩
  go_wp2
  go_ret
  exact ⟨rfl, fun x => (hi1 x).grown hg2 (by simp; omega), he2, T1.trans ((Turns.of_grown hg2).more (by simp))⟩
set_option maxHeartbeats 1000000 in
theorem heldMetric_any (b c k m pcap ecap : Nat) (q : Int) (hq0 : 0 ≤ q) (hq1 : q + (k : Int) ≤ 4000000) (hk : k ≤ 1048576) (hm : m ≤ 1048576) (w : World) (hi : 0 < k → IHas w b k (mki q)) (he : 0 < m → IHas w c m (mki (q + k))) (po : Option Addr) (hpo : 0 < k → po = some ⟨b, 0, none⟩) (eo : Option Addr) (heo : 0 < m → eo = some ⟨c, 0, none⟩) :
    Calls Try.prog 30 #[.agg #[.slice po k pcap, .slice eo m ecap], .int .i64 q] w fun e w' => e = .returned (.int .i64 (q + k + m)) ∧ Below w.heap.size w w' := by
  have hal := (Below.refl w.heap.size w).alloc (Nat.le_refl _) (.cells #[.slice po k pcap, .slice eo m ecap] 35)
  have hq3 : 0 ≤ q + (k : Int) := by omega
  have hq4 : q + (k : Int) ≤ 4000000 := by omega
  have hq5 : ¬ q + (k : Int) < 0 := by omega
  have hq6 : ¬ q + (k : Int) + (m : Int) < 0 := by omega
  go_enter Try.func30, Try.ntmps30
  go_wp2_with fail
  refine (heldInt64S_any b k pcap q hq0 (by omega) hk _ (fun h => (hi h).below hal (hi h).lt) po hpo).mono ?_
  rintro e w1 ⟨rfl, hq⟩
  have hq' := hq.symm
  subst hq'
  clear hq
  go_wp2_with fail
  refine (heldInt64S_any c m ecap (q + k) hq3 hq4 hm _ (fun h => (he h).below hal (he h).lt) eo heo).mono ?_
  rintro e w1 ⟨rfl, hq⟩
  have hq' := hq.symm
  subst hq'
  clear hq
  go_wp2
  go_ret
  exact ⟨rfl, hal⟩

end Go.Proofs.Ytdgnlpafmkhdjah

/-
  Memory of the call's own that holds arcs: read, written, and left alone; the laws' marks in it.
-/
set_option linter.unusedVariables false
set_option linter.unusedSimpArgs false
namespace Go.Proofs.Ytdgnlpafmkhdjah
open Go.RowKit Go.Maps

/-- Block b begins with n arcs' cells, may be written, and holds the numbers f. -/
def Has (w : World) (b n : Nat) (f : Nat → Int) : Prop := ∃ cur : Array Value, w.heap[b]? = some (.cells cur 89 (0, 0)) ∧ n * 3 ≤ cur.size ∧ ∀ j, j < n * 3 → cur[j]? = some (.int .i64 (f j))

theorem Has.of_own {w : World} {b n : Nat} {f : Nat → Int} (h : Own w b n f) : Has w b n f := by
  obtain ⟨c, hb, hn, hc⟩ := h
  exact ⟨c, hb, by omega, hc⟩
theorem Has.cell {w : World} {b n : Nat} {f : Nat → Int} (h : Has w b n f) {j : Nat} (hj : j < n * 3) : w.cell? ⟨b, j, none⟩ = some (.int .i64 (f j)) := by
  obtain ⟨c, hb, _, hc⟩ := h
  simp [World.cell?, hb, hc j hj]
theorem Has.frozen {w : World} {b n : Nat} {f : Nat → Int} (h : Has w b n f) (j : Nat) : w.frozen? ⟨b, j, none⟩ = false := by
  obtain ⟨c, hb, _, _⟩ := h
  simp [World.frozen?, hb]
theorem Has.lt {w : World} {b n : Nat} {f : Nat → Int} (h : Has w b n f) : b < w.heap.size := by
  obtain ⟨c, hb, _, _⟩ := h
  exact (Array.getElem?_eq_some_iff.1 hb).1
theorem Has.of_block {w w' : World} {b n : Nat} {f : Nat → Int} (h : Has w b n f) (e : w'.heap[b]? = w.heap[b]?) : Has w' b n f := by
  obtain ⟨c, hb, hn, hc⟩ := h
  exact ⟨c, e.trans hb, hn, hc⟩
theorem Has.congr {w : World} {b n : Nat} {f g : Nat → Int} (h : Has w b n f) (e : ∀ j, j < n * 3 → f j = g j) : Has w b n g := by
  obtain ⟨c, hb, hn, hc⟩ := h
  exact ⟨c, hb, hn, fun j hj => by rw [hc j hj, e j hj]⟩
theorem Has.set {w : World} {b n : Nat} {f : Nat → Int} (h : Has w b n f) (i : Nat) (v : Int) : Has (w.setCell ⟨b, i, none⟩ (.int .i64 v)) b n (fun j => if j = i then v else f j) := by
  obtain ⟨c, hb, hn, hc⟩ := h
  refine ⟨c.setIfInBounds i (.int .i64 v), ?_, by simpa using hn, fun j hj => ?_⟩
  · simp [World.setCell, Array.getElem?_modify, hb]
  · rw [Array.getElem?_setIfInBounds]
    by_cases e : j = i
    · subst e
      simp; omega
    · rw [if_neg (fun h => e h.symm)]
      show c[j]? = some (.int .i64 (if j = i then v else f j))
      rw [if_neg e]
      exact hc j hj
theorem Has.row {w : World} {b n : Nat} {F T G : Nat → Int} (h : Has w b n (ar F T G)) : Row w (some ⟨b, 0, none⟩) n F T G := fun k hk => by
  refine ⟨b, 0, rfl, ?_, ?_, ?_⟩
  · have := h.cell (j := k * 3) (by omega); rw [ar0] at this; simpa using this
  · have := h.cell (j := k * 3 + 1) (by omega); rw [ar1] at this; simpa using this
  · have := h.cell (j := k * 3 + 2) (by omega); rw [ar2] at this; simpa using this
theorem Has.below {w w' : World} {b n B : Nat} {f : Nat → Int} (h : Has w b n f) (hb : Below B w w') (hB : b < B) : Has w' b n f := h.of_block (hb.block b hB)
theorem Has.grown {w w' : World} {b n : Nat} {f : Nat → Int} {row : Option Nat} (h : Has w b n f) (hg : w.grownBy w' row) (hne : some b ≠ row) : Has w' b n f := h.of_block (hg.block b h.lt hne)

theorem grown_setCell (w : World) (b o : Nat) (v : Value) : w.grownBy (w.setCell ⟨b, o, none⟩ v) (some b) :=
  ⟨rfl, rfl, rfl, by simp [World.setCell], fun k _ hne => Below.heap_setCell _ _ _ _ (fun e => hne (by rw [e]))⟩
theorem grown_below {w w' : World} {b B : Nat} (h : w.grownBy w' (some b)) (hb : B ≤ b) (hB : B ≤ w.heap.size) : Below B w w' :=
  ⟨h.os, h.tape, h.output, h.size, fun k hk => h.block k (by omega) (fun e => by simp at e; omega)⟩
theorem below_grown {w w' : World} {row : Option Nat} (h : Below w.heap.size w w') : w.grownBy w' row := ⟨h.os, h.tape, h.output, h.size, fun k hk _ => h.block k hk⟩
theorem grown_drew (w : World) (row : Option Nat) : w.grownBy w.drew row := ⟨rfl, rfl, rfl, Nat.le_refl _, fun _ _ _ => rfl⟩
theorem Row.grown {w w' : World} {ao : Option Addr} {n b B : Nat} {F T G : Nat → Int} (h : Row w ao n F T G) (hg : w.grownBy w' (some b)) (hB : ∀ a, ao = some a → 0 < n → a.block < b) : Row w' ao n F T G := fun k hk => by
  obtain ⟨b', o, e, c0, c1, c2⟩ := h k hk
  have hlt := hB _ e (by omega)
  have hne : some b' ≠ some b := fun e => by simp at e; simp at hlt; omega
  exact ⟨b', o, e, hg.cell c0 hne, hg.cell c1 hne, hg.cell c2 hne⟩

/-- n arcs behind a slice are the call's own, from block B on. -/
def OwnS (w : World) (B : Nat) (ao : Option Addr) (n : Nat) (f : Nat → Int) : Prop := ∀ k, k < n → ∃ b, ao = some ⟨b, 0, none⟩ ∧ B ≤ b ∧ Has w b n f
theorem OwnS.row {w : World} {B n : Nat} {ao : Option Addr} {F T G : Nat → Int} (h : OwnS w B ao n (ar F T G)) : Row w ao n F T G := fun k hk => by
  obtain ⟨b, e, _, hh⟩ := h k hk
  subst e
  exact hh.row k hk

/-- The marks: cell j holds k + j. -/
def mk (k : Int) (j : Nat) : Int := k + j


end Go.Proofs.Ytdgnlpafmkhdjah

/-
  The laws' marks in an answer's memory, and the look whether they are still held; copies of arcs.
-/
set_option linter.unusedVariables false
set_option linter.unusedSimpArgs false
namespace Go.Proofs.Ytdgnlpafmkhdjah
open Go.RowKit Go.Maps
attribute [local go_sem ↓] Go.wp_at_zero Go.wp_at_succ

theorem grown_unbox {w w' : World} {o : Obj} {b : Nat} (h : (w.alloc o).grownBy w' (some b)) : w.grownBy w' (some b) := (World.grownBy_alloc w o _).trans h


/-- The cells of n arcs, one behind the other. -/
def cellsOf (f : Nat → Int) (m : Nat) : List Value := (List.range m).map fun j => .int .i64 (f j)
theorem Row.news {w : World} {b o n : Nat} {F T G : Nat → Int} (hr : Row w (some ⟨b, o, none⟩) n F T G) : ∀ j u, (cellsOf (ar F T G) (n * 3))[j]? = some u → w.cell? ((⟨b, o, none⟩ : Addr).add j) = some u := fun j u hu => by
  have hj : j < n * 3 := by
    have := (List.getElem?_eq_some_iff.1 hu).1
    simpa [cellsOf] using this
  have hu' : u = .int .i64 (ar F T G j) := by
    rw [cellsOf, List.getElem?_map, List.getElem?_range hj] at hu
    simpa using hu.symm
  subst hu'
  obtain ⟨b', o', e, c0, c1, c2⟩ := hr (j / 3) (by omega)
  simp at e
  obtain ⟨rfl, rfl⟩ := e
  rw [Addr.add_mid]
  have h3 : j % 3 = 0 ∨ j % 3 = 1 ∨ j % 3 = 2 := by omega
  unfold ar
  rcases h3 with h | h | h
  · rw [if_pos h, ← c0]; congr 2; omega
  · rw [if_neg (by omega), if_pos h, ← c1]; congr 2; omega
  · rw [if_neg (by omega), if_neg (by omega), ← c2]; congr 2; omega
theorem cellsOf_one (f : Nat → Int) (m : Nat) : ∀ u ∈ cellsOf f m, u.oneCell' = true := fun u hu => by
  simp [cellsOf] at hu
  obtain ⟨_, _, rfl⟩ := hu
  rfl

end Go.Proofs.Ytdgnlpafmkhdjah

/-
  The laws' own comparison: two maps with the same places and arcs are told alike.
-/
set_option linter.unusedVariables false
set_option linter.unusedSimpArgs false
namespace Go.Proofs.Ytdgnlpafmkhdjah
open Go.RowKit
attribute [local go_sem ↓] Go.wp_at_zero Go.wp_at_succ

theorem eqArc_same (f t g : Int) (w : World) :
    Calls Try.prog 67 #[.agg #[.int .i64 f, .int .i64 t, .int .i64 g], .agg #[.int .i64 f, .int .i64 t, .int .i64 g]] w fun e w' => e = .returned (.bool true) ∧ Below w.heap.size w w' := by
  go_enter Try.func67, Try.ntmps67
  go_wp2
  go_ret
  exact ⟨rfl, ((Below.refl _ _).alloc (Nat.le_refl _) _).alloc (by simp) _⟩

set_option maxHeartbeats 800000 in
theorem eqArcS_same (ao ao' : Option Addr) (n cap cap' : Nat) (F T G : Nat → Int) (hn : n ≤ 1048576) (w : World) (hr : Row w ao n F T G) (hr' : Row w ao' n F T G) :
    Calls Try.prog 24 #[.slice ao n cap, .slice ao' n cap'] w fun e w' => e = .returned (.bool true) ∧ Below w.heap.size w w' := by
  go_enter Try.func24, Try.ntmps24
  go_wp2
  go_loopw [5] (fun i wr => ∃ k : Nat, k ≤ n ∧ i = .int .i64 k ∧ Below w.heap.size w wr) (fun i _ => n - (intOf i).toNat)
  case atStart => exact ⟨0, Nat.zero_le _, rfl, Below.refl _ _⟩
  case round =>
    obtain ⟨k, hk, rfl, hbel⟩ := hrel
    by_cases hlt : k < n
    rotate_left
    · have hkn : k = n := by omega
      subst hkn
      go_wp2
      go_ret
      exact ⟨rfl, hbel⟩
    obtain ⟨b, o, hao, c0, c1, c2⟩ := (hr.below hbel (Nat.le_refl _)) k hlt
    obtain ⟨b', o', hao', d0, d1, d2⟩ := (hr'.below hbel (Nat.le_refl _)) k hlt
    subst hao
    subst hao'
    have hk1 : (0 : Int) ≤ (k : Int) := by omega
    have hk2 : (k : Int) < (n : Int) := by omega
    go_wp2
    go_region_held3 (fun w' => w'.cell? ⟨b, o + k * 3, none⟩ = some (.int .i64 (F k)) ∧ w'.cell? ⟨b, o + k * 3 + 1, none⟩ = some (.int .i64 (T k)) ∧ w'.cell? ⟨b, o + k * 3 + 2, none⟩ = some (.int .i64 (G k)) ∧ w'.cell? ⟨b', o' + k * 3, none⟩ = some (.int .i64 (F k)) ∧ w'.cell? ⟨b', o' + k * 3 + 1, none⟩ = some (.int .i64 (T k)) ∧ w'.cell? ⟨b', o' + k * 3 + 2, none⟩ = some (.int .i64 (G k)))
        (first | (go_split_ands; refine ⟨?_, ?_, ?_, ?_, ?_, ?_⟩ <;> exact keep_cell ‹_› (Nat.le_refl _) (by assumption)) | go_keep)
        (first | (go_at_call 67; refine (eqArc_same _ _ _ _).mono ?_; rintro e w2 ⟨rfl, hb2⟩))
    go_wp2
    go_roundw
    case rel => exact ⟨k + 1, by omega, by go_num, below_next hbel.drew (Nat.le_refl _) hb2⟩
    case measure => simp [intOf]; omega

set_option maxHeartbeats 800000 in
theorem eqGraph_same (p : Int) (ao ao' : Option Addr) (n cap cap' : Nat) (F T G : Nat → Int) (hn : n ≤ 1048576) (w : World) (hr : Row w ao n F T G) (hr' : Row w ao' n F T G) :
    Calls Try.prog 23 #[.agg #[.int .i64 p, .slice ao n cap], .agg #[.int .i64 p, .slice ao' n cap']] w fun e w' => e = .returned (.bool true) ∧ Below w.heap.size w w' := by
  go_enter Try.func23, Try.ntmps23
  go_wp2_with (go_at_call 24; refine (eqArcS_same ao ao' n cap cap' F T G hn _ ((hr.alloc _).alloc _) ((hr'.alloc _).alloc _)).mono ?_; rintro e w1 ⟨rfl, hb1⟩)
  go_ret
  exact ⟨rfl, below_next (((Below.refl _ _).alloc (Nat.le_refl _) _).alloc (by simp) _) (Nat.le_refl _) hb1⟩

end Go.Proofs.Ytdgnlpafmkhdjah

/-
  What the laws' own helpers of chapter 1 do: the size that is counted, the copies that are made. For every list of at most 2^20 arcs.
-/
set_option linter.unusedVariables false
set_option linter.unusedSimpArgs false
namespace Go.Proofs.Ytdgnlpafmkhdjah
open Go.RowKit

theorem toArc_any (f t g : Int) (w : World) :
    Calls Try.prog 60 #[.agg #[.int .i64 f, .int .i64 t, .int .i64 g]] w fun e w' => e = .returned (.agg #[.int .i64 f, .int .i64 t, .int .i64 g]) ∧ Below w.heap.size w w' := by
  go_enter Try.func60, Try.ntmps60
  go_wp2
  simp [bodyPost, results, Try.results60, go_sem]
  exact (((Below.refl _ _).alloc (Nat.le_refl _) _).alloc (by simp) _).alloc (by simp; omega) _

set_option maxHeartbeats 400000 in
theorem toArcS_any (ao : Option Addr) (n cap : Nat) (F T G : Nat → Int) (hn : n ≤ 1048576) (w : World) (hr : Row w ao n F T G) :
    Calls Try.prog 21 #[.slice ao n cap] w fun e w' => e = .returned (.slice (some ⟨w.heap.size, 0, none⟩) n n) ∧ Own w' w.heap.size n (ar F T G) ∧ Below w.heap.size w w' := by
  have hmk := make_arcs n hn
  go_enter Try.func21, Try.ntmps21
  go_wp2
  clear hmk
  go_loopw [4] (fun i wr => ∃ k : Nat, k ≤ n ∧ i = .int .i64 k ∧ Own wr w.heap.size n (upto (ar F T G) (k * 3)) ∧ Below w.heap.size w wr) (fun i _ => n - (intOf i).toNat)
  case atStart => exact ⟨0, Nat.zero_le _, rfl, made_own w n _, (Below.refl _ _).alloc (Nat.le_refl _) _⟩
  case round =>
    obtain ⟨k, hk, rfl, hown, hbel⟩ := hrel
    by_cases hlt : k < n
    · obtain ⟨b, o, hao, c0, c1, c2⟩ := (hr.below hbel (Nat.le_refl _)) k hlt
      subst hao
      go_wp2_with (go_at_call 60; refine (toArc_any (F k) (T k) (G k) _).mono ?_; rintro e w1 ⟨rfl, hb1⟩; have d0 := World.rowIs.cell (hown.below hb1) (i := k * 3) (by omega); have d1 := World.rowIs.cell (hown.below hb1) (i := k * 3 + 1) (by omega); have d2 := World.rowIs.cell (hown.below hb1) (i := k * 3 + 2) (by omega); have z0 := World.rowIs.frozen (hown.below hb1) (k * 3); have z1 := World.rowIs.frozen (hown.below hb1) (k * 3 + 1); have z2 := World.rowIs.frozen (hown.below hb1) (k * 3 + 2))
      have R := (hown.below hb1).three hlt
      have S := hbel.trans (hb1.mono hbel.size)
      clear d0 d1 d2 z0 z1 z2 hown hb1 hbel
      go_roundw
      case rel => exact ⟨k + 1, by omega, by go_num, R, ((S.setCell (Nat.le_refl _) _).setCell (Nat.le_refl _) _).setCell (Nat.le_refl _) _⟩
      case measure => simp [intOf]; omega
    · have hkn : k = n := by omega
      subst hkn
      go_wp2
      go_ret
      exact ⟨rfl, World.rowIs.congr hown (fun j hj => by simp [upto, hj]), hbel⟩

/-- A copy of a map: its arcs in new memory of the call's own. -/
theorem toGraph_any (p : Int) (ao : Option Addr) (n cap : Nat) (F T G : Nat → Int) (hn : n ≤ 1048576) (w : World) (hr : Row w ao n F T G) :
    Calls Try.prog 20 #[.agg #[.int .i64 p, .slice ao n cap]] w fun e w' => ∃ b, e = .returned (.agg #[.int .i64 p, .slice (some ⟨b, 0, none⟩) n n]) ∧ w.heap.size ≤ b ∧ Own w' b n (ar F T G) ∧ Below w.heap.size w w' := by
  go_enter Try.func20, Try.ntmps20
  go_wp2_with (go_at_call 21; refine (toArcS_any ao n cap F T G hn _ (((hr.alloc _).alloc _).alloc _)).mono ?_; rintro e w1 ⟨rfl, hown, hb1⟩; obtain ⟨hc, hf⟩ := bcell hb1; have hz : w.heap.size + 2 < w1.heap.size := by have := hb1.size; simp at this; omega)
  simp [bodyPost, results, Try.results20, go_sem, hc, hz]
  have hown' : Own w1 (w.heap.size + 1 + 1 + 1) n (ar F T G) := by simpa using hown
  refine ⟨by omega, World.rowIs.setOther (World.rowIs.setOther (World.rowIs.setOther hown' (by simp) _) (by simp; omega) _) (by simp; omega) _, ?_⟩
  exact (((((((Below.refl _ _).alloc (Nat.le_refl _) _).alloc (by simp) _).alloc (by simp; omega) _).trans (hb1.mono (by simp; omega))).setCell (by simp; omega) _).setCell (by simp) _).setCell (by simp) _

theorem szArcS_in (ao : Option Addr) (n cap : Nat) (l : Int) (h0 : (n : Int) ≤ l) (hl : l ≤ 1048576) (w : World) :
    Calls Try.prog 18 #[.slice ao n cap, .int .i64 l] w fun e w' => e = .returned (.int .i64 (l - n)) ∧ w' = w := by
  go_enter Try.func18, Try.ntmps18
  go_wp2
  go_ret
  exact ⟨rfl, rfl⟩
theorem szArcS_out (ao : Option Addr) (n cap : Nat) (l : Int) (h0 : l < (n : Int)) (h1 : 0 ≤ l) (hl : l ≤ 1048576) (hn : n ≤ 9223372036854775807) (w : World) :
    Calls Try.prog 18 #[.slice ao n cap, .int .i64 l] w fun e w' => e = .returned (.int .i64 (-1)) ∧ w' = w := by
  go_enter Try.func18, Try.ntmps18
  go_wp2
  go_ret
  exact ⟨rfl, rfl⟩
theorem szGraph_in (p : Int) (ao : Option Addr) (n cap : Nat) (l : Int) (h0 : (n : Int) ≤ l) (hl : l ≤ 1048576) (w : World) :
    Calls Try.prog 17 #[.agg #[.int .i64 p, .slice ao n cap], .int .i64 l] w fun e w' => e = .returned (.int .i64 (l - n)) ∧ Below w.heap.size w w' := by
  go_enter Try.func17, Try.ntmps17
  go_wp2_with (go_at_call 18; refine (szArcS_in ao n cap l h0 hl _).mono ?_; rintro e w1 ⟨rfl, rfl⟩)
  go_ret
  exact ⟨rfl, (Below.refl _ _).alloc (Nat.le_refl _) _⟩
theorem szGraph_out (p : Int) (ao : Option Addr) (n cap : Nat) (l : Int) (h0 : l < (n : Int)) (h1 : 0 ≤ l) (hl : l ≤ 1048576) (hn : n ≤ 9223372036854775807) (w : World) :
    Calls Try.prog 17 #[.agg #[.int .i64 p, .slice ao n cap], .int .i64 l] w fun e w' => e = .returned (.int .i64 (-1)) ∧ Below w.heap.size w w' := by
  go_enter Try.func17, Try.ntmps17
  go_wp2_with (go_at_call 18; refine (szArcS_out ao n cap l h0 h1 hl hn _).mono ?_; rintro e w1 ⟨rfl, rfl⟩)
  go_ret
  exact ⟨rfl, (Below.refl _ _).alloc (Nat.le_refl _) _⟩

end Go.Proofs.Ytdgnlpafmkhdjah

/-
  What the reading of an argument says of its memory: a list of arcs that came in lies behind its address, three numbers an arc.
-/
set_option linter.unusedVariables false
set_option linter.unusedSimpArgs false
namespace Go.Proofs.Ytdgnlpafmkhdjah
open Go.ChangeShapes Go.WideShapes Go.ChangeAt Go.RowKit Go.Deep Go.Joins

theorem Try.cellsLArc : Try.prog.cellsOf 91 = 3 := by kernel_rfl
theorem Try.cellsLGraph : Try.prog.cellsOf 42 = 2 := by kernel_rfl

set_option maxRecDepth 100000 in
theorem open_arcs {H : Type} {enc : TypeId × Value → H} {w : World} {base : Nat} {spare : Nat → Bool} {held : Bool} {fuel : Nat} {cs : List Value} {x : DataW H × List MemPlace}
    (h : DataW.trod enc Try.prog w base spare held fuel 40 cs = some x) :
    ∃ (ao : Option Addr) (n cap : Nat) (F T G : Nat → Int), cs = [.slice ao n cap] ∧ n ≤ maxLen ∧ Row w ao n F T G := by
  rcases open_slice Try.underlying40 h with ⟨rfl, _⟩ | ⟨a, len, cap, m, n, D, Pl, rfl, hb, hl, hm, hmm, _, hx⟩
  · exact ⟨none, 0, 0, fun _ => 0, fun _ => 0, fun _ => 0, rfl, Nat.zero_le _, fun k hk => by omega⟩
  have hlm : len ≤ m := by rw [hmm]; split <;> omega
  have each : ∀ i, i < len → ∃ q : Int × Int × Int, w.cell? (a.add (i * 3)) = some (.int .i64 q.1) ∧ w.cell? (a.add (i * 3 + 1)) = some (.int .i64 q.2.1) ∧ w.cell? (a.add (i * 3 + 2)) = some (.int .i64 q.2.2) := by
    intro i hi
    obtain ⟨cs', h1, h2⟩ := hx i (by omega)
    rw [Try.cellsLArc] at h1
    obtain ⟨_, hlen, hcell⟩ := World.cells?_some h1
    obtain ⟨y0, y1, y2, n', _, _, g0, g1, g2⟩ := trod_struct3 Try.underlying91 h2
    match cs', hlen with
    | [v0, v1, v2], _ =>
      simp [Try.cellsInt] at g0 g1 g2
      obtain ⟨q0, r0, _⟩ := DataW.trod_int Try.underlying2 g0
      obtain ⟨q1, r1, _⟩ := DataW.trod_int Try.underlying2 g1
      obtain ⟨q2, r2, _⟩ := DataW.trod_int Try.underlying2 g2
      have e0 := hcell 0 (by omega)
      have e1 := hcell 1 (by omega)
      have e2 := hcell 2 (by omega)
      rw [add_add] at e0 e1 e2
      simp at r0 r1 r2
      subst r0 r1 r2
      exact ⟨(q0, q1, q2), by simpa using e0, by simpa using e1, by simpa using e2⟩
  obtain ⟨f, hf⟩ := choose_lt each
  refine ⟨some a, len, cap, fun i => (f i).1, fun i => (f i).2.1, fun i => (f i).2.2, rfl, by omega, fun k hk => ?_⟩
  obtain ⟨b, o, spot⟩ := a
  have hspot : spot = none := by
    have := World.cell?_spot (hf 0 (by omega)).1
    simpa [Addr.add] using this
  subst hspot
  have := hf k hk
  rw [Addr.add_mid, Addr.add_mid, Addr.add_mid] at this
  exact ⟨b, o, rfl, this.1, by simpa [Nat.add_assoc] using this.2.1, by simpa [Nat.add_assoc] using this.2.2⟩

end Go.Proofs.Ytdgnlpafmkhdjah

/-
  What the exact laws' own helpers do with arcs and maps of the law's own: each number is marked.
-/
set_option linter.unusedVariables false
set_option linter.unusedSimpArgs false
namespace Go.Proofs.Ytdgnlpafmkhdjah
open Go.RowKit Go.Maps

set_option maxHeartbeats 1000000 in
theorem markArcS_any (b n cap : Nat) (f : Nat → Int) (k : Int) (hk0 : 0 ≤ k) (hk1 : k ≤ 4000000) (hn : n ≤ 1048576) (w : World) (h : 0 < n → Has w b n f) (ao : Option Addr) (hao : 0 < n → ao = some ⟨b, 0, none⟩) :
    Calls Try.prog 28 #[.slice ao n cap, .int .i64 k] w fun e w' => e = .returned (.int .i64 (k + 3 * n)) ∧ (0 < n → Has w' b n (mk k)) ∧ w.grownBy w' (some b) := by
  go_enter Try.func28, Try.ntmps28
  go_wp2
  go_loopw [1, 5] (fun q i wr => ∃ m : Nat, m ≤ n ∧ i = .int .i64 m ∧ q = .int .i64 (k + 3 * m) ∧ (0 < n → Has wr b n (fun j => if j < 3 * m then mk k j else f j)) ∧ w.grownBy wr (some b)) (fun _ i _ => n - (intOf i).toNat)
  case atStart => exact ⟨0, Nat.zero_le _, rfl, by simp, fun hp => (h hp).congr (fun j _ => by simp), World.grownBy.refl _ _⟩
  case round =>
    obtain ⟨m, hm, rfl, rfl, hh, hg⟩ := hrel
    by_cases hlt : m < n
    rotate_left
    · have e : m = n := by omega
      subst e
      go_wp2
      go_ret
      exact ⟨rfl, fun hp => (hh hp).congr (fun j hj => by rw [if_pos (by omega)]), hg⟩
    obtain rfl := hao (by omega)
    have HH := hh (by omega)
    have d0 := HH.cell (j := m * 3) (by omega)
    have d1 := HH.cell (j := m * 3 + 1) (by omega)
    have d2 := HH.cell (j := m * 3 + 2) (by omega)
    have z0 := HH.frozen (m * 3)
    have z1 := HH.frozen (m * 3 + 1)
    have z2 := HH.frozen (m * 3 + 2)
    have R := ((HH.set (m * 3) (k + 3 * m)).set (m * 3 + 1) (k + 3 * m + 1)).set (m * 3 + 2) (k + 3 * m + 1 + 1)
    have S := ((hg.trans (grown_setCell _ b (m * 3) (.int .i64 (k + 3 * m)))).trans (grown_setCell _ b (m * 3 + 1) (.int .i64 (k + 3 * m + 1)))).trans (grown_setCell _ b (m * 3 + 2) (.int .i64 (k + 3 * m + 1 + 1)))
    clear HH hh
    go_wp2
    go_roundw
    case rel =>
      refine ⟨m + 1, by omega, by go_num, by go_num, fun _ => R.congr (fun j hj => ?_), S⟩
      by_cases e2 : j = m * 3 + 2
      · subst e2; simp [mk]; omega
      by_cases e1 : j = m * 3 + 1
      · subst e1; simp [mk]; omega
      by_cases e0 : j = m * 3
      · subst e0; simp [mk]; omega
      simp only [if_neg e2, if_neg e1, if_neg e0]
      by_cases hl : j < 3 * m
      · rw [if_pos hl, if_pos (by omega)]
      · rw [if_neg hl, if_neg (by omega)]
    case measure => simp [intOf]; omega

attribute [local go_sem ↓] Go.wp_at_zero Go.wp_at_succ

theorem markGraph_any (p : Int) (b n cap : Nat) (f : Nat → Int) (k : Int) (hk0 : 0 ≤ k) (hk1 : k ≤ 4000000) (hn : n ≤ 1048576) (w : World) (h : 0 < n → Has w b n f) (ao : Option Addr) (hao : 0 < n → ao = some ⟨b, 0, none⟩) :
    Calls Try.prog 25 #[.agg #[.int .i64 p, .slice ao n cap], .int .i64 k] w fun e w' => e = .returned (.int .i64 (k + 3 * n)) ∧ (0 < n → Has w' b n (mk k)) ∧ w.grownBy w' (some b) := by
  go_enter Try.func25, Try.ntmps25
  go_wp2_with (go_at_call 28; refine (markArcS_any b n cap f k hk0 hk1 hn _ (fun hp => (h hp).below ((Below.refl w.heap.size w).alloc (Nat.le_refl _) _) (h hp).lt) ao hao).mono ?_; rintro e w1 ⟨rfl, hh, hg⟩)
  go_ret
  exact ⟨rfl, hh, grown_unbox hg⟩

end Go.Proofs.Ytdgnlpafmkhdjah

/-
  The cells of a hierarchy as it is handed in.
-/
set_option linter.unusedVariables false
set_option linter.unusedSimpArgs false
namespace Go.Proofs.Ytdgnlpafmkhdjah

theorem Try.cellsLHier : Try.prog.cellsOf 25 = 2 := by kernel_rfl

end Go.Proofs.Ytdgnlpafmkhdjah

/-
  The cells of a metric as it is handed in.
-/
set_option linter.unusedVariables false
set_option linter.unusedSimpArgs false
namespace Go.Proofs.Ytdgnlpafmkhdjah

theorem Try.cellsLMetric : Try.prog.cellsOf 27 = 2 := by kernel_rfl

end Go.Proofs.Ytdgnlpafmkhdjah

/-
  Sums along edges upward, with no program in sight, and the rank where two of them meet.
-/
set_option linter.unusedVariables false
set_option linter.unusedSimpArgs false
namespace Go.Proofs.Ytdgnlpafmkhdjah

/-- The sums from rank s behind i edges. -/
def cl (L H W : Nat → Int) (s : Nat) : Nat → (Nat → Int)
  | 0 => fun r => if r = s then 0 else 1000000000000
  | i + 1 => fun r => if r = (H i).toNat then min (cl L H W s i (H i).toNat) (min 1000000000000 (cl L H W s i (L i).toNat + W i)) else cl L H W s i r
theorem cl_in {m : Nat} {L H W : Nat → Int} (s : Nat) (hW : InF m W) : ∀ i, i ≤ m → ∀ r, 0 ≤ cl L H W s i r ∧ cl L H W s i r ≤ 1000000000000
  | 0, _, r => by unfold cl; split <;> omega
  | i + 1, hi, r => by
    have h1 := cl_in (L := L) (H := H) s hW i (by omega) (H i).toNat
    have h2 := cl_in (L := L) (H := H) s hW i (by omega) (L i).toNat
    have h3 := cl_in (L := L) (H := H) s hW i (by omega) r
    have h4 := hW i (by omega)
    unfold cl
    split <;> omega
theorem cl_far {k m : Nat} {L H W : Nat → Int} {s : Nat} (hs : s < k) (hH : ∀ i, i < m → 0 ≤ H i ∧ H i < (k : Int)) : ∀ i, i ≤ m → ∀ r, k ≤ r → cl L H W s i r = 1000000000000
  | 0, _, r, hr => by unfold cl; rw [if_neg (by omega)]
  | i + 1, hi, r, hr => by
    have h1 := hH i (by omega)
    unfold cl
    rw [if_neg (by omega)]
    exact cl_far hs hH i (by omega) r hr

/-- The rank of the least sum, and that sum. -/
def mt (A B : Nat → Int) : Nat → Int × Int
  | 0 => (-1, 1000000000000)
  | i + 1 => if min 1000000000000 (A i + B i) < (mt A B i).2 then ((i : Int), min 1000000000000 (A i + B i)) else mt A B i
theorem mt_yes {A B : Nat → Int} {i : Nat} {a b : Int} (h : mt A B i = (a, b)) (hl : min 1000000000000 (A i + B i) < b) : mt A B (i + 1) = ((i : Int), min 1000000000000 (A i + B i)) := by
  unfold mt; rw [h]; simp only; rw [if_pos hl]
theorem mt_no {A B : Nat → Int} {i : Nat} {a b : Int} (h : mt A B i = (a, b)) (hl : ¬ min 1000000000000 (A i + B i) < b) : mt A B (i + 1) = (a, b) := by
  unfold mt; rw [h]; simp only; rw [if_neg hl]
theorem mt_le (A B : Nat → Int) : ∀ i, (mt A B i).2 ≤ 1000000000000
  | 0 => by unfold mt; simp
  | i + 1 => by
    have := mt_le A B i
    unfold mt
    split
    · simp only; omega
    · exact this
theorem mt_far {A B : Nat → Int} {k : Nat} (hA : ∀ r, k ≤ r → A r = 1000000000000) (hB : ∀ r, 0 ≤ B r) : ∀ j, mt A B (k + j) = mt A B k
  | 0 => rfl
  | j + 1 => by
    have h := mt_far hA hB j
    have h1 := mt_le A B (k + j)
    have h2 := hA (k + j) (by omega)
    have h3 := hB (k + j)
    rw [← h, ← Nat.add_assoc]
    show (if _ then _ else _) = _
    rw [if_neg (by omega)]
theorem mt_ge {A B : Nat → Int} (hA : ∀ r, 0 ≤ A r) (hB : ∀ r, 0 ≤ B r) : ∀ i, 0 ≤ (mt A B i).2
  | 0 => by unfold mt; simp
  | i + 1 => by
    have := mt_ge hA hB i
    have h1 := hA i
    have h2 := hB i
    unfold mt
    split
    · simp only; omega
    · exact this

/-- What a climb asks of a hierarchy and a metric. -/
def TOld (k m : Nat) (L H : Nat → Int) (u : Nat) (U : Nat → Int) (v : Nat) (V : Nat → Int) : Prop := edgesB (k : Int) m L H = true ∧ u = m ∧ v = m ∧ InF m U ∧ InF m V
theorem told_k {k m : Nat} {L H : Nat → Int} {u : Nat} {U : Nat → Int} {v : Nat} {V : Nat → Int} (h : TOld k m L H u U v V) : 1 ≤ k ∧ k ≤ 24 := by
  have := h.1
  simp [edgesB, inB] at this
  omega
theorem told_e {k m : Nat} {L H : Nat → Int} {u : Nat} {U : Nat → Int} {v : Nat} {V : Nat → Int} (h : TOld k m L H u U v V) : ∀ i, i < m → 0 ≤ L i ∧ L i < H i ∧ H i < (k : Int) := fun i hi => by
  have := h.1
  simp [edgesB] at this
  exact edgeB_in (edB_at m this.2 i hi)
/-- The rank lies among the places. -/
def RIn (k : Nat) (r : Int) : Prop := 0 ≤ r ∧ r < (k : Int)
open Classical in
noncomputable def lenC (k m : Nat) (L H : Nat → Int) (u : Nat) (U : Nat → Int) (v : Nat) (V : Nat → Int) (r : Int) : Nat := if TOld k m L H u U v V ∧ RIn k r then k else 0
theorem lenC_yes {k m : Nat} {L H : Nat → Int} {u : Nat} {U : Nat → Int} {v : Nat} {V : Nat → Int} {r : Int} (h : TOld k m L H u U v V) (hr : RIn k r) : lenC k m L H u U v V r = k := by unfold lenC; rw [if_pos ⟨h, hr⟩]
theorem lenC_no {k m : Nat} {L H : Nat → Int} {u : Nat} {U : Nat → Int} {v : Nat} {V : Nat → Int} {r : Int} (h : ¬ (TOld k m L H u U v V ∧ RIn k r)) : lenC k m L H u U v V r = 0 := by unfold lenC; rw [if_neg h]
theorem lenC_le (k m : Nat) (L H : Nat → Int) (u : Nat) (U : Nat → Int) (v : Nat) (V : Nat → Int) (r : Int) : lenC k m L H u U v V r ≤ 24 := by
  by_cases h : TOld k m L H u U v V ∧ RIn k r
  · rw [lenC_yes h.1 h.2]; exact (told_k h.1).2
  · rw [lenC_no h]; omega
/-- The weights of a climb. -/
def wts (U V : Nat → Int) (b : Bool) : Nat → Int := if b then V else U
theorem wts_in {m : Nat} {U V : Nat → Int} (hU : InF m U) (hV : InF m V) (b : Bool) : InF m (wts U V b) := by cases b <;> assumption

open Classical in
/-- What Meeting and its search answer. -/
noncomputable def mtg (k m : Nat) (L H : Nat → Int) (u : Nat) (U : Nat → Int) (v : Nat) (V : Nat → Int) (a b : Int) : Int × Int :=
  if TOld k m L H u U v V ∧ RIn k a ∧ RIn k b then mt (cl L H U a.toNat m) (cl L H V b.toNat m) k else (-1, 1000000000000)
theorem mtg_yes {k m : Nat} {L H : Nat → Int} {u : Nat} {U : Nat → Int} {v : Nat} {V : Nat → Int} {a b : Int} (h : TOld k m L H u U v V) (ha : RIn k a) (hb : RIn k b) : mtg k m L H u U v V a b = mt (cl L H U a.toNat m) (cl L H V b.toNat m) k := by unfold mtg; rw [if_pos ⟨h, ha, hb⟩]
theorem mtg_no {k m : Nat} {L H : Nat → Int} {u : Nat} {U : Nat → Int} {v : Nat} {V : Nat → Int} {a b : Int} (h : ¬ (TOld k m L H u U v V ∧ RIn k a ∧ RIn k b)) : mtg k m L H u U v V a b = (-1, 1000000000000) := by unfold mtg; rw [if_neg h]

end Go.Proofs.Ytdgnlpafmkhdjah

/-
  Climb, the document's, at every hierarchy and every metric.
-/
set_option linter.unusedVariables false
set_option linter.unusedSimpArgs false
namespace Go.Proofs.Ytdgnlpafmkhdjah
open Go.RowKit Go.Deep Go.Joins
attribute [local go_sem ↓] Go.wp_at_zero Go.wp_at_succ

set_option maxRecDepth 100000 in
set_option maxHeartbeats 2000000 in
theorem l6Told_any (po : Option Addr) (k pcap : Nat) (eo : Option Addr) (m ecap : Nat) (L H : Nat → Int) (uo : Option Addr) (u ucap : Nat) (U : Nat → Int) (vo : Option Addr) (v vcap : Nat) (V : Nat → Int) (hk : k ≤ 1048576) (hm : m ≤ 1048576) (hu : u ≤ 1048576) (hv : v ≤ 1048576) (w : World) (he : ERow w eo m L H) (hU : IRow w uo u U) (hV : IRow w vo v V) :
    Calls Try.prog 70 #[.agg #[.slice po k pcap, .slice eo m ecap], .agg #[.slice uo u ucap, .slice vo v vcap]] w fun e w' => BAns e (TOld k m L H u U v V) ∧ Below w.heap.size w w' := by
  by_cases hf : edgesB (k : Int) m L H = true ∧ u = m ∧ v = m
  rotate_left
  · have HN : Hid (¬ TOld k m L H u U v V) := fun x => hf ⟨x.1, x.2.1, x.2.2.1⟩
    go_enter Try.func70, Try.ntmps70
    go_wp2_with (go_at_call 44; refine (l5Fits_any po k pcap eo m ecap L H uo u ucap vo v vcap hk hm hu hv _ ((he.alloc _).alloc _)).mono ?_; rintro e w1 ⟨⟨b, rfl, hb⟩, hb1⟩; (obtain rfl : b = false := by cases b <;> simp_all))
    go_ret
    exact ⟨bans_no HN.out, unbox2 hb1 (by simp; omega)⟩
  obtain ⟨hf1, rfl, rfl⟩ := hf
  have HF : Hid (edgesB (k : Int) v L H = true) := hf1
  clear hf1
  go_enter Try.func70, Try.ntmps70
  go_wp2_with fail
  refine (l5Fits_any po k pcap eo v ecap L H uo v ucap vo v vcap hk hm hu hv _ ((he.alloc _).alloc _)).mono ?_
  rintro e w1 ⟨⟨b, rfl, hb⟩, hb1⟩
  obtain rfl : b = true := hb.2 ⟨HF.out, rfl, rfl⟩
  have hA1 := hb1.mono (B' := w.heap.size + 2) (by simp)
  obtain ⟨⟨q0, q1⟩, ⟨q2, q3⟩, q6⟩ := box2m hA1
  clear hb hb1
  have HUR : Hid (IRow w1 uo v U) := ((hU.alloc _).alloc _).below hA1 (by simp)
  have HVR : Hid (IRow w1 vo v V) := ((hV.alloc _).alloc _).below hA1 (by simp)
  have HA2 : Hid (Below w.heap.size w w1) := unbox2 hA1 (by omega)
  clear hA1 he hU hV
  go_wp2
  go_loopw [5] (fun x wr => ∃ j : Nat, j ≤ v ∧ x = .int .i64 j ∧ (InF j U ∧ InF j V) ∧ Below w1.heap.size w1 wr) (fun x _ => v - (intOf x).toNat)
  case atStart => exact ⟨0, Nat.zero_le _, rfl, ⟨fun i hi => by omega, fun i hi => by omega⟩, Below.refl _ _⟩
  case round =>
    obtain ⟨j, hj, rfl, hall, hbel⟩ := hrel
    have HA : Hid (InF j U ∧ InF j V) := hall
    have q0' := keep_cell hbel (Nat.le_refl _) q0
    have q1' := keep_cell hbel (Nat.le_refl _) q1
    have q2' := keep_cell hbel (Nat.le_refl _) q2
    have q3' := keep_cell hbel (Nat.le_refl _) q3
    clear hall q0 q1 q2 q3
    by_cases hlt : j < v
    rotate_left
    · have hkn : j = v := by omega
      subst hkn
      have HY : Hid (TOld k j L H j U j V) := ⟨HF.out, rfl, rfl, HA.out⟩
      go_wp2
      go_ret
      exact ⟨bans_yes HY.out, below_next HA2.out (Nat.le_refl _) hbel⟩
    obtain ⟨bu, ou, hao, c0⟩ := (HUR.out.below hbel (Nat.le_refl _)) j hlt
    subst hao
    obtain ⟨bv, ov, hao', d0⟩ := (HVR.out.below hbel (Nat.le_refl _)) j hlt
    subst hao'
    have hk1 : (0 : Int) ≤ (j : Int) := by omega
    have hk2 : (j : Int) < (v : Int) := by omega
    have HB : Hid (∀ q, Below w.heap.size w (wr.drewN q)) := fun q => below_next HA2.out (Nat.le_refl _) (below_drewN hbel q)
    rcases Bool.eq_false_or_eq_true (inB (U j) 0 1000000000000) with h1 | h1
    rotate_left
    · have HN : Hid (¬ TOld k v L H v U v V) := fun x => by
        have := x.2.2.2.1 j hlt
        simp [inB] at h1
        omega
      go_wp2_with (go_at_call 46; refine (l1In_any _ _ _ _).mono ?_; rw [h1]; rintro e w3 ⟨rfl, hw3⟩; have hw4 := hw3.symm; subst hw4; clear hw3)
      go_ret
      exact ⟨bans_no HN.out, below_next HA2.out (Nat.le_refl _) hbel⟩
    rcases Bool.eq_false_or_eq_true (inB (V j) 0 1000000000000) with h2 | h2
    rotate_left
    · have HN : Hid (¬ TOld k v L H v U v V) := fun x => by
        have := x.2.2.2.2 j hlt
        simp [inB] at h2
        omega
      go_wp2_with fail
      refine (l1In_any (U j) _ _ _).mono ?_
      rw [h1]
      rintro e w3 ⟨rfl, hw3⟩
      have hw4 := hw3.symm
      subst hw4
      clear hw3
      go_wp2_with fail
      refine (l1In_any (V j) _ _ _).mono ?_
      rw [h2]
      rintro e w3 ⟨rfl, hw3⟩
      have hw4 := hw3.symm
      subst hw4
      clear hw3
      go_wp2
      go_ret
      exact ⟨bans_no HN.out, below_next HA2.out (Nat.le_refl _) hbel⟩
    have HI : Hid (InF (j + 1) U ∧ InF (j + 1) V) := by
      simp [inB] at h1 h2
      exact ⟨fun i hi => by
        by_cases e : i = j
        · subst e; exact h1
        · exact HA.out.1 i (by omega), fun i hi => by
        by_cases e : i = j
        · subst e; exact h2
        · exact HA.out.2 i (by omega)⟩
    go_wp2_with fail
    refine (l1In_any (U j) _ _ _).mono ?_
    rw [h1]
    rintro e w3 ⟨rfl, hw3⟩
    have hw4 := hw3.symm
    subst hw4
    clear hw3
    go_wp2_with fail
    refine (l1In_any (V j) _ _ _).mono ?_
    rw [h2]
    rintro e w3 ⟨rfl, hw3⟩
    have hw4 := hw3.symm
    subst hw4
    clear hw3
    go_wp2
    go_roundw
    case rel => exact ⟨j + 1, by omega, by go_num, HI.out, hbel⟩
    case measure => simp [intOf]; omega

set_option maxRecDepth 100000 in
set_option maxHeartbeats 4000000 in
theorem l6Climb_any (po : Option Addr) (k pcap : Nat) (eo : Option Addr) (m ecap : Nat) (L H : Nat → Int) (uo : Option Addr) (ucap : Nat) (U : Nat → Int) (vo : Option Addr) (vcap : Nat) (V : Nat → Int) (r : Nat) (bk : Bool) (hT : TOld k m L H m U m V) (hr : r < k) (hm : m ≤ 1048576) (w : World) (he : ERow w eo m L H) (hU : IRow w uo m U) (hV : IRow w vo m V) :
    Calls Try.prog 71 #[.agg #[.slice po k pcap, .slice eo m ecap], .agg #[.slice uo m ucap, .slice vo m vcap], .int .i64 r, .bool bk] w fun e w' => ∃ g cap', e = .returned (.slice (some ⟨g, 0, none⟩) k cap') ∧ w.heap.size ≤ g ∧ IHas w' g k (cl L H (wts U V bk) r m) ∧ Below w.heap.size w w' := by
  have hk24 := (told_k hT).2
  have HED : Hid (∀ i, i < m → 0 ≤ L i ∧ L i < H i ∧ H i < (k : Int)) := told_e hT
  have HWI : Hid (InF m (wts U V bk)) := wts_in hT.2.2.2.1 hT.2.2.2.2 bk
  have HIU : Hid (InF m U ∧ InF m V) := hT.2.2.2
  have HWT0 : Hid (∀ i, wts U V bk i = if bk then V i else U i) := fun i => by cases bk <;> rfl
  generalize wts U V bk = Wt at HWI HWT0 ⊢
  clear hT
  go_enter Try.func71, Try.ntmps71
  go_wp2
  go_loopw [9, 10] (fun d i wr => ∃ j g c : Nat, j ≤ k ∧ i = .int .i64 j ∧ d = .slice (some ⟨g, 0, none⟩) j c ∧ IOwn wr (w.heap.size + 2) g c j (fun _ => 1000000000000) ∧ Below (w.heap.size + 2) ((w.alloc (.cells #[.slice po k pcap, .slice eo m ecap] 33)).alloc (.cells #[.slice uo m ucap, .slice vo m vcap] 35)) wr) (fun _ i _ => k - (intOf i).toNat)
  case atStart => exact ⟨0, w.heap.size + 1 + 1, 0, Nat.zero_le _, rfl, rfl, by simpa using IOwn.empty ((w.alloc (.cells #[.slice po k pcap, .slice eo m ecap] 33)).alloc (.cells #[.slice uo m ucap, .slice vo m vcap] 35)) (base := w.heap.size + 2) (by simp) _, (Below.refl _ _).alloc (by simp) _⟩
  case round =>
    obtain ⟨j, g, c, hj, rfl, rfl, hown, hbel⟩ := hrel
    obtain ⟨⟨q0, q1⟩, ⟨q2, q3⟩, hsz⟩ := box2m hbel
    have hgl := hown.lt
    have hgb := hown.base
    by_cases hlt : j < k
    · have hlt' : (j : Int) < (k : Int) := by omega
      go_wp2_with (at_builtin; refine wpList_append_int rfl _ _ rfl (w.heap.size + 2) g c j (fun _ => 1000000000000) rfl (by exact hown.below ((Below.refl _ _).alloc (Nat.le_refl _) _) (by omega)) ⟨wr.heap.size, 0, none⟩ 1 1000000000000 rfl (by simp [go_sem]) (by omega) (by simp; omega) ?_; intro g' c' w2 hown2 hgrow2 hat2)
      go_wp2
      go_roundw
      case rel => exact ⟨j + 1, g', c', by omega, by go_num, rfl, hown2 _ (fun _ _ => rfl) rfl, (hbel.alloc (by omega) _).grown hgrow2 (by simp; omega) (fun j hj => by cases hj; omega)⟩
      case measure => simp [intOf]; omega
    have hjk : j = k := by omega
    subst hjk
    have d0 := hown.has.cell hr
    have z0 := hown.has.frozen r
    have hs0 : (r : Int) < (j : Int) := by omega
    have R : IHas (wr.setCell ⟨g, r, none⟩ (.int .i64 0)) g j (cl L H Wt r 0) := (hown.has.set r 0).congr (fun i hi => by unfold cl; rfl)
    have B := hbel.setCell (p := ⟨g, r, none⟩) hgb (.int .i64 0)
    clear hown
    go_wp2
    clear d0 z0 q0 q1 q2 q3
    go_loopw [11] (fun x wr2 => ∃ i : Nat, i ≤ m ∧ x = .int .i64 i ∧ IHas wr2 g j (cl L H Wt r i) ∧ Below (w.heap.size + 2) ((w.alloc (.cells #[.slice po j pcap, .slice eo m ecap] 33)).alloc (.cells #[.slice uo m ucap, .slice vo m vcap] 35)) wr2) (fun x _ => m - (intOf x).toNat)
    case atStart => exact ⟨0, Nat.zero_le _, rfl, R, B⟩
    case round =>
      obtain ⟨i, hi, rfl, hI3, hB3⟩ := hrel
      clear R B
      obtain ⟨⟨q0, q1⟩, ⟨q2, q3⟩, hsz2⟩ := box2m hB3
      by_cases hlt3 : i < m
      rotate_left
      · have hin : i = m := by omega
        subst hin
        go_wp2
        go_ret
        exact ⟨g, c, rfl, by omega, hI3, unbox2 hB3 (by omega)⟩
      obtain ⟨ab, aoff, hao, e0, e1⟩ := (((he.alloc _).alloc _).below hB3 (by simp)) i hlt3
      subst hao
      obtain ⟨ub, uoff, huo, u0⟩ := (((hU.alloc _).alloc _).below hB3 (by simp)) i hlt3
      subst huo
      obtain ⟨vb, voff, hvo, v0⟩ := (((hV.alloc _).alloc _).below hB3 (by simp)) i hlt3
      subst hvo
      have ha := HED.out i hlt3
      obtain ⟨tF, hF⟩ : ∃ tF : Nat, L i = (tF : Int) := ⟨(L i).toNat, by omega⟩
      obtain ⟨tT, hTT⟩ : ∃ tT : Nat, H i = (tT : Int) := ⟨(H i).toNat, by omega⟩
      have l1 : tF < j := by omega
      have l2 : tT < j := by omega
      have x1 : (tF : Int) < (j : Int) := by omega
      have x2 : (tT : Int) < (j : Int) := by omega
      have w0 := hI3.cell l1
      have w1 := hI3.cell l2
      have z1 := hI3.frozen tT
      have b1 := hI3.frozen tF
      have hk1 : (0 : Int) ≤ (i : Int) := by omega
      have hk2 : (i : Int) < (m : Int) := by omega
      have PK : Hid (IHas wr g j (cl L H Wt r i) ∧ Below (w.heap.size + 2) ((w.alloc (.cells #[.slice po j pcap, .slice (some ⟨ab, aoff, none⟩) m ecap] 33)).alloc (.cells #[.slice (some ⟨ub, uoff, none⟩) m ucap, .slice (some ⟨vb, voff, none⟩) m vcap] 35)) wr) := ⟨hI3, hB3⟩
      have hgl3 := hI3.lt
      have hs1 : w.heap.size < wr.heap.size := by omega
      have hs2 : w.heap.size + 1 < wr.heap.size := by omega
      have hul := lt_of_cell u0
      have hvl := lt_of_cell v0
      have c0 : 0 ≤ cl L H Wt r i tF ∧ cl L H Wt r i tF ≤ 1000000000000 := cl_in r HWI.out i (by omega) tF
      have c1 : 0 ≤ Wt i ∧ Wt i ≤ 1000000000000 := HWI.out i hlt3
      clear hI3 hB3 he hU hV ha hbel hj hlt
      have hwt := HWT0.out i
      cases bk <;>
      · simp only [if_true, if_false, Bool.false_eq_true, reduceIte] at hwt
        rw [hwt] at c1
        have HWT : Hid (_ = _) := hwt
        clear hwt
        go_wp2
        refine wp_region_last_lit 17 (by kernel_rfl) (by rfl) (by rfl) (by rfl) (by kernel_rfl) (by kernel_rfl) (by kernel_rfl) (by rfl) ?_
        simp only [List.take_succ_cons, List.take_zero, List.cons_append, List.nil_append]
        repeat (go_big_quiet_step (first | exact Calls.quiet_of_same (l1Add_any _ _ c0.1 c0.2 c1.1 c1.2 _) | exact Calls.quiet_of_same (l1Min_any _ _ _)))
        refine wpQuiet_nil ?_
        intro w7 hw7
        obtain ⟨nq, rfl⟩ := hw7
        obtain ⟨hI3, hB3⟩ := PK.out
        have al := (Below.refl wr.heap.size wr).alloc (Nat.le_refl _) (.cells #[.int .i64 (tF : Int), .int .i64 (tT : Int)] 71)
        have hI6 := hI3.below al hI3.lt
        have hI7 := hI6.below (below_drewN (Below.refl _ _) nq) hI6.lt
        have hB7 := below_drewN (hB3.trans (al.mono (by omega))) nq
        clear PK hI3 hB3 al hI6 w0 w1 z1 b1 e0 e1 u0 v0 q0 q1 q2 q3
        generalize (wr.alloc (.cells #[.int .i64 (tF : Int), .int .i64 (tT : Int)] 71)).drewN nq = W7 at hI7 hB7 ⊢
        have s0 := hI7.cell l2
        have s1 := hI7.frozen tT
        have R : IHas (W7.setCell ⟨g, tT, none⟩ (.int .i64 (min (cl L H Wt r i tT) (min 1000000000000 (cl L H Wt r i tF + Wt i))))) g j (cl L H Wt r (i + 1)) := (hI7.set tT _).congr (fun x hx => by
          have h1 : (H i).toNat = tT := by omega
          have h2 : (L i).toNat = tF := by omega
          show _ = (if x = (H i).toNat then _ else _)
          rw [h1, h2])
        have B := hB7.setCell (p := ⟨g, tT, none⟩) hgb (.int .i64 (min (cl L H Wt r i tT) (min 1000000000000 (cl L H Wt r i tF + Wt i))))
        rw [HWT.out] at R B
        clear hI7 hB7
        go_simp
        go_wp2
        go_roundw
        case rel => exact ⟨i + 1, by omega, by go_num, R, B⟩
        case measure => simp [intOf]; omega

set_option maxHeartbeats 2000000 in
theorem specClimb_any (po : Option Addr) (k pcap : Nat) (eo : Option Addr) (m ecap : Nat) (L H : Nat → Int) (uo : Option Addr) (u ucap : Nat) (U : Nat → Int) (vo : Option Addr) (v vcap : Nat) (V : Nat → Int) (r : Int) (bk : Bool) (hk : k ≤ 1048576) (hm : m ≤ 1048576) (hu : u ≤ 1048576) (hv : v ≤ 1048576) (w : World) (he : ERow w eo m L H) (hU : IRow w uo u U) (hV : IRow w vo v V) :
    Calls Try.prog 31 #[.agg #[.slice po k pcap, .slice eo m ecap], .agg #[.slice uo u ucap, .slice vo v vcap], .int .i64 r, .bool bk] w fun e w' => Ans w w' e (lenC k m L H u U v V r) (cl L H (wts U V bk) r.toNat m) := by
  by_cases hT : TOld k m L H u U v V
  rotate_left
  · rw [lenC_no (fun h => hT h.1)]
    go_enter Try.func31, Try.ntmps31
    go_wp2_with (go_at_call 70; refine (l6Told_any po k pcap eo m ecap L H uo u ucap U vo v vcap V hk hm hu hv _ ((he.alloc _).alloc _) ((hU.alloc _).alloc _) ((hV.alloc _).alloc _)).mono ?_; rintro e w1 ⟨⟨b, rfl, hb⟩, hb1⟩; (obtain rfl : b = false := by cases b <;> simp_all))
    go_ret
    exact ⟨_, _, rfl, fun h => by omega, unbox2 (hb1.alloc (by have := hb1.size; omega) _) (by simp; omega)⟩
  obtain ⟨hk1, hk2⟩ := told_k hT
  obtain rfl : u = m := hT.2.1
  obtain rfl : v = u := hT.2.2.1
  have HT : Hid (TOld k v L H v U v V) := hT
  clear hT
  rcases Bool.eq_false_or_eq_true (inB r 0 ((k : Int) - 1)) with h2 | h2
  rotate_left
  · rw [lenC_no (fun h => by have := h.2; simp [RIn] at this; simp [inB] at h2; omega)]
    go_enter Try.func31, Try.ntmps31
    go_wp2_with (first | (go_at_call 70; refine (l6Told_any po k pcap eo v ecap L H uo v ucap U vo v vcap V hk hm hu hv _ ((he.alloc _).alloc _) ((hU.alloc _).alloc _) ((hV.alloc _).alloc _)).mono ?_; rintro e w1 ⟨⟨b, rfl, hb⟩, hb1⟩; obtain rfl : b = true := hb.2 HT.out; clear hb; obtain ⟨hc, hf⟩ := bcell hb1) | (go_at_call 46; refine (l1In_any _ _ _ _).mono ?_; rw [h2]; rintro e wq ⟨rfl, hq⟩; have hq' := hq.symm; subst hq'; clear hq))
    go_ret
    exact ⟨_, _, rfl, fun h => by omega, unbox2 (hb1.alloc (by have := hb1.size; omega) _) (by simp; omega)⟩
  have hr0 : 0 ≤ r ∧ r ≤ (k : Int) - 1 := by simpa [inB] using h2
  obtain ⟨rn, rfl⟩ : ∃ rn : Nat, r = (rn : Int) := ⟨r.toNat, by omega⟩
  rw [lenC_yes HT.out ⟨by omega, by omega⟩]
  go_enter Try.func31, Try.ntmps31
  go_wp2_with (first | (go_at_call 70; refine (l6Told_any po k pcap eo v ecap L H uo v ucap U vo v vcap V hk hm hu hv _ ((he.alloc _).alloc _) ((hU.alloc _).alloc _) ((hV.alloc _).alloc _)).mono ?_; rintro e w1 ⟨⟨b, rfl, hb⟩, hb1⟩; obtain rfl : b = true := hb.2 HT.out; clear hb; obtain ⟨hc, hf⟩ := bcell hb1) | (go_at_call 46; refine (l1In_any _ _ _ _).mono ?_; rw [h2]; rintro e wq ⟨rfl, hq⟩; have hq' := hq.symm; subst hq'; clear hq) | (go_at_call 71; refine (l6Climb_any po k pcap eo v ecap L H uo ucap U vo vcap V rn bk HT.out (by omega) hm _ (((he.alloc _).alloc _).below hb1 (Nat.le_refl _)) (((hU.alloc _).alloc _).below hb1 (Nat.le_refl _)) (((hV.alloc _).alloc _).below hb1 (Nat.le_refl _))).mono ?_; rintro e w2 ⟨g, c, rfl, hg, hI, hb2⟩))
  go_ret
  exact ⟨_, _, rfl, fun _ => ⟨g, rfl, by have := hb1.size; simp at this; omega, by simpa using hI⟩, unbox2 (below_next hb1 (Nat.le_refl _) hb2) (by simp; omega)⟩

end Go.Proofs.Ytdgnlpafmkhdjah
