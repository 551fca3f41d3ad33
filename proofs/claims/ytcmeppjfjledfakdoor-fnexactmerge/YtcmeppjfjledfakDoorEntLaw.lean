/-
  What the exact laws' own helpers do with lists of entries: copies, the size that is counted, two held against each other; what the reading of an argument says. For every list of at most 2^20 entries.
-/
import Derived.Test.YtcmeppjfjledfakDoorEnt
import Derived.Deep.QuietTactic
import Derived.BigQuiet
set_option linter.unusedVariables false
set_option linter.unusedSimpArgs false
namespace Go.Proofs.YtcmeppjfjledfakDoor
open Go.ChangeShapes Go.WideShapes Go.ChangeAt Go.RowKit Go.Deep Go.Joins
attribute [local go_sem ↓] Go.wp_at_zero Go.wp_at_succ

/-- Cell j where the first entries are written and the others are new. -/
def nup (T : Nat → Int) (X : Nat → ByteArray) (k : Nat) (j : Nat) : Value := if j < k * 2 then nr T X j else if j % 2 = 0 then .int .i64 0 else .string ByteArray.empty
theorem made_entries (w : World) (n : Nat) (T : Nat → Int) (X : Nat → ByteArray) : VHas (w.alloc (.cells (madeCells #[.int .i64 0, .string ByteArray.empty] (n * 2)) 36)) w.heap.size 36 (n * 2) (nup T X 0) := by
  refine VHas.of_row ⟨_, Go.Deep.blk_alloc_new _ _, size_madeCells _ _, fun i hi => ?_⟩
  have h3 : i % 2 = 0 ∨ i % 2 = 1 := by omega
  simp [madeCells, hi, nup]
  rcases h3 with h | h <;> simp [h]

theorem make_entries (n : Nat) (hn : n ≤ 1048576) (w : World) :
    (Instr.makeSlice 24 (.int .i64 (n : Int)) (.int .i64 (n : Int))).run Tryd.prog w = .ok (.slice (some ⟨w.heap.size, 0, none⟩) n n) (w.alloc (.cells (madeCells #[.int .i64 0, .string ByteArray.empty] (n * 2)) 36)) := by
  obtain ⟨i, hi, hz0, hz1, hz2⟩ := info_parts Tryd.infoEntry
  have hr := run_make (P := Tryd.prog) w 24 36 i _ Tryd.underlying24 hi hz0 .i64 .i64 n n (by omega) (Int.le_refl _) (by rw [hz2]; omega) (by omega)
  simpa [hz1, Value.cells] using hr

theorem toEntry_any (t : Int) (x : ByteArray) (w : World) :
    Calls Tryd.prog 14 #[.agg #[.int .i64 t, .string x]] w fun e w' => e = .returned (.agg #[.int .i64 t, .string x]) ∧ Below w.heap.size w w' := by
  go_enter Tryd.func14, Tryd.ntmps14
  go_wp2
  simp [bodyPost, results, Tryd.results14, go_sem]
  exact (((Below.refl _ _).alloc (Nat.le_refl _) _).alloc (by simp) _).alloc (by simp; omega) _

theorem nup_two {T : Nat → Int} {X : Nat → ByteArray} {k j : Nat} : (if j = k * 2 + 1 then .string (X k) else if j = k * 2 then .int .i64 (T k) else nup T X k j) = nup T X (k + 1) j := by
  by_cases e1 : j = k * 2 + 1
  · subst e1; rw [if_pos rfl]; unfold nup; rw [if_pos (by omega), nr1]
  by_cases e0 : j = k * 2
  · subst e0; rw [if_neg (by omega), if_pos rfl]; unfold nup; rw [if_pos (by omega), nr0]
  rw [if_neg e1, if_neg e0]; unfold nup
  by_cases hl : j < k * 2
  · rw [if_pos hl, if_pos (show j < (k + 1) * 2 by omega)]
  · rw [if_neg hl, if_neg (show ¬ j < (k + 1) * 2 by omega)]

set_option maxHeartbeats 400000 in
theorem toEntryS_any (ao : Option Addr) (n cap : Nat) (T : Nat → Int) (X : Nat → ByteArray) (hn : n ≤ 1048576) (w : World) (hr : NRow w ao n T X) :
    Calls Tryd.prog 6 #[.slice ao n cap] w fun e w' => e = .returned (.slice (some ⟨w.heap.size, 0, none⟩) n n) ∧ NHas w' w.heap.size n T X ∧ Below w.heap.size w w' := by
  have hmk := make_entries n hn
  go_enter Tryd.func6, Tryd.ntmps6
  go_wp2
  clear hmk
  go_loopw [4] (fun i wr => ∃ k : Nat, k ≤ n ∧ i = .int .i64 k ∧ VHas wr w.heap.size 36 (n * 2) (nup T X k) ∧ Below w.heap.size w wr) (fun i _ => n - (intOf i).toNat)
  case atStart => exact ⟨0, Nat.zero_le _, rfl, made_entries w n _ _, (Below.refl _ _).alloc (Nat.le_refl _) _⟩
  case round =>
    obtain ⟨k, hk, rfl, hown, hbel⟩ := hrel
    by_cases hlt : k < n
    · obtain ⟨b, o, hao, c0, c1⟩ := (hr.below hbel (Nat.le_refl _)) k hlt
      subst hao
      go_wp2_with (go_at_call 14; refine (toEntry_any (T k) (X k) _).mono ?_; rintro e w1 ⟨rfl, hb1⟩; have d0 := VHas.cell (hown.next hb1) (j := k * 2) (by omega); have d1 := VHas.cell (hown.next hb1) (j := k * 2 + 1) (by omega); have z0 := VHas.frozen (hown.next hb1) (k * 2); have z1 := VHas.frozen (hown.next hb1) (k * 2 + 1))
      have R := (((hown.next hb1).set (k * 2) (.int .i64 (T k))).set (k * 2 + 1) (.string (X k))).congr (fun j _ => nup_two)
      have S := hbel.trans (hb1.mono hbel.size)
      clear d0 d1 z0 z1 hown hb1 hbel
      go_roundw
      case rel => exact ⟨k + 1, by omega, by go_num, R, (S.setCell (Nat.le_refl _) _).setCell (Nat.le_refl _) _⟩
      case measure => simp [intOf]; omega
    · have hkn : k = n := by omega
      subst hkn
      go_wp2
      go_ret
      exact ⟨rfl, hown.congr (fun j hj => by simp [nup, hj]), hbel⟩

theorem szEntry_any (t : Int) (x : ByteArray) (l : Int) (h0 : 0 ≤ l) (hl : l ≤ 1048576) (hx : x.size ≤ 9223372036854775807) (w : World) :
    Calls Tryd.prog 11 #[.agg #[.int .i64 t, .string x], .int .i64 l] w fun e w' => e = .returned (.int .i64 (if l < (x.size : Int) then -1 else l - x.size)) ∧ Below w.heap.size w w' := by
  have hw9 : IntKind.i64.wrap (l - (x.size : Int)) = l - (x.size : Int) := by rw [IntKind.wrap_i64]; omega
  by_cases hneg : l - (x.size : Int) < 0
  · rw [if_pos (by omega)]
    go_enter Tryd.func11, Tryd.ntmps11
    go_wp2
    go_ret
    exact ⟨rfl, (Below.refl _ _).alloc (Nat.le_refl _) _⟩
  · rw [if_neg (by omega)]
    go_enter Tryd.func11, Tryd.ntmps11
    go_wp2
    go_ret
    exact ⟨rfl, (Below.refl _ _).alloc (Nat.le_refl _) _⟩

set_option maxHeartbeats 800000 in
theorem szEntryS_any (ao : Option Addr) (n cap : Nat) (T : Nat → Int) (X : Nat → ByteArray) (l : Int) (h0 : 0 ≤ l) (hl : l ≤ 1048576) (hn : n ≤ 9223372036854775807) (hS : ∀ k, k < n → (X k).size ≤ 9223372036854775807) (w : World) (hr : NRow w ao n T X) :
    Calls Tryd.prog 4 #[.slice ao n cap, .int .i64 l] w fun e w' => ∃ r : Int, e = .returned (.int .i64 r) ∧ (0 ≤ r → (n : Int) ≤ l ∧ r ≤ l ∧ ∀ k, k < n → ((X k).size : Int) ≤ l) ∧ r ≤ 1048576 ∧ -1 ≤ r ∧ Below w.heap.size w w' := by
  by_cases hnl : l < (n : Int)
  · have h1 : l - (n : Int) < 0 := by omega
    go_enter Tryd.func4, Tryd.ntmps4
    go_wp2
    go_ret
    exact ⟨-1, rfl, fun h => by omega, by omega, by omega, Below.refl _ _⟩
  have h1 : ¬ l - (n : Int) < 0 := by omega
  go_enter Tryd.func4, Tryd.ntmps4
  go_wp2
  go_loopw [1, 5] (fun q i wr => ∃ (k : Nat) (z : Int), k ≤ n ∧ 0 ≤ z ∧ z ≤ l ∧ q = .int .i64 z ∧ i = .int .i64 k ∧ (∀ j, j < k → ((X j).size : Int) ≤ l) ∧ Below w.heap.size w wr) (fun _ i _ => n - (intOf i).toNat)
  case atStart => exact ⟨0, l - n, Nat.zero_le _, by omega, by omega, rfl, rfl, fun j hj => by omega, Below.refl _ _⟩
  case round =>
    obtain ⟨k, z, hk, hz0, hz1, rfl, rfl, hle, hbel⟩ := hrel
    by_cases hlt : k < n
    rotate_left
    · have hkn : k = n := by omega
      subst hkn
      go_wp2
      go_ret
      exact ⟨z, rfl, fun _ => ⟨by omega, hz1, hle⟩, by omega, by omega, hbel⟩
    obtain ⟨b, o, hao, c0, c1⟩ := (hr.below hbel (Nat.le_refl _)) k hlt
    subst hao
    have hs := hS k hlt
    have hk2 : (k : Int) < (n : Int) := by omega
    have hsz := fun W => szEntry_any (T k) (X k) z hz0 (by omega) hs W
    by_cases hneg : z < ((X k).size : Int)
    · simp only [if_pos hneg] at hsz
      go_wp2_with (go_at_call 11; refine (hsz _).mono ?_; rintro e w1 ⟨rfl, hb1⟩)
      go_ret
      exact ⟨-1, rfl, fun h => by omega, by omega, by omega, below_next hbel (Nat.le_refl _) hb1⟩
    · simp only [if_neg hneg] at hsz
      have h2 : ¬ z - ((X k).size : Int) < 0 := by omega
      go_wp2_with (go_at_call 11; refine (hsz _).mono ?_; rintro e w1 ⟨rfl, hb1⟩)
      go_roundw
      case rel =>
        refine ⟨k + 1, z - (X k).size, by omega, by omega, by omega, rfl, by go_num, fun j hj => ?_, below_next hbel (Nat.le_refl _) hb1⟩
        by_cases e : j = k
        · subst e; omega
        · exact hle j (by omega)
      case measure => simp [intOf]; omega

theorem eqEntry_same (t : Int) (x : ByteArray) (w : World) :
    Calls Tryd.prog 19 #[.agg #[.int .i64 t, .string x], .agg #[.int .i64 t, .string x]] w fun e w' => e = .returned (.bool true) ∧ Below w.heap.size w w' := by
  go_enter Tryd.func19, Tryd.ntmps19
  go_wp2
  go_ret
  exact ⟨rfl, ((Below.refl _ _).alloc (Nat.le_refl _) _).alloc (by simp) _⟩

set_option maxHeartbeats 800000 in
theorem eqEntryS_same (ao ao' : Option Addr) (n cap cap' : Nat) (T : Nat → Int) (X : Nat → ByteArray) (hn : n ≤ 1048576) (w : World) (hr : NRow w ao n T X) (hr' : NRow w ao' n T X) :
    Calls Tryd.prog 8 #[.slice ao n cap, .slice ao' n cap'] w fun e w' => e = .returned (.bool true) ∧ Below w.heap.size w w' := by
  go_enter Tryd.func8, Tryd.ntmps8
  go_wp2
  go_loopw [5] (fun i wr => ∃ k : Nat, k ≤ n ∧ i = .int .i64 k ∧ Below w.heap.size w wr) (fun i _ => n - (intOf i).toNat)
  case atStart => exact ⟨0, Nat.zero_le _, rfl, Below.refl _ _⟩
  case round =>
    obtain ⟨k, hk, rfl, hbel⟩ := hrel
    by_cases hlt : k < n
    rotate_left
    · have hkn : k = n := by omega
      subst hkn
      go_wp2
      go_ret
      exact ⟨rfl, hbel⟩
    obtain ⟨b, o, hao, c0, c1⟩ := (hr.below hbel (Nat.le_refl _)) k hlt
    obtain ⟨b', o', hao', d0, d1⟩ := (hr'.below hbel (Nat.le_refl _)) k hlt
    subst hao
    subst hao'
    have hk1 : (0 : Int) ≤ (k : Int) := by omega
    have hk2 : (k : Int) < (n : Int) := by omega
    go_wp2
    go_region_held3 (fun w' => w'.cell? ⟨b, o + k * 2, none⟩ = some (.int .i64 (T k)) ∧ w'.cell? ⟨b, o + k * 2 + 1, none⟩ = some (.string (X k)) ∧ w'.cell? ⟨b', o' + k * 2, none⟩ = some (.int .i64 (T k)) ∧ w'.cell? ⟨b', o' + k * 2 + 1, none⟩ = some (.string (X k)))
        (first | (go_split_ands; refine ⟨?_, ?_, ?_, ?_⟩ <;> exact keep_cell ‹_› (Nat.le_refl _) (by assumption)) | go_keep)
        (first | (go_at_call 19; refine (eqEntry_same _ _ _).mono ?_; rintro e w2 ⟨rfl, hb2⟩))
    go_wp2
    go_roundw
    case rel => exact ⟨k + 1, by omega, by go_num, below_next hbel.drew (Nat.le_refl _) hb2⟩
    case measure => simp [intOf]; omega

theorem Tryd.cellsLEntry : Tryd.prog.cellsOf 33 = 2 := by kernel_rfl
theorem Tryd.cellsStr : Tryd.prog.cellsOf 9 = 1 := by kernel_rfl
set_option maxRecDepth 100000 in
theorem open_entries {H : Type} {enc : TypeId × Value → H} {w : World} {base : Nat} {spare : Nat → Bool} {held : Bool} {fuel : Nat} {cs : List Value} {x : DataW H × List MemPlace}
    (h : DataW.trod enc Tryd.prog w base spare held fuel 22 cs = some x) :
    ∃ (ao : Option Addr) (n cap : Nat) (T : Nat → Int) (X : Nat → ByteArray), cs = [.slice ao n cap] ∧ n ≤ maxLen ∧ NRow w ao n T X ∧ (∀ k, k < n → (Lit.int .i64 (T k)).wf = true) ∧ ∀ k, k < n → (X k).size ≤ maxLen := by
  rcases open_slice Tryd.underlying22 h with ⟨rfl, _⟩ | ⟨a, len, cap, m, n, D, Pl, rfl, hb, hl, hm, hmm, _, hx⟩
  · exact ⟨none, 0, 0, fun _ => 0, fun _ => ByteArray.empty, rfl, Nat.zero_le _, fun k hk => by omega, fun k hk => by omega, fun k hk => by omega⟩
  have hlm : len ≤ m := by rw [hmm]; split <;> omega
  have each : ∀ i, i < len → ∃ q : Int × ByteArray, w.cell? (a.add (i * 2)) = some (.int .i64 q.1) ∧ w.cell? (a.add (i * 2 + 1)) = some (.string q.2) ∧ (Lit.int .i64 q.1).wf = true ∧ q.2.size ≤ maxLen := by
    intro i hi
    obtain ⟨cs', h1, h2⟩ := hx i (by omega)
    rw [Tryd.cellsLEntry] at h1
    obtain ⟨_, hlen, hcell⟩ := World.cells?_some h1
    obtain ⟨y0, y1, n', _, _, g0, g1⟩ := trod_struct2 Tryd.underlying33 h2
    match cs', hlen with
    | [v0, v1], _ =>
      simp [Tryd.cellsInt, Tryd.cellsStr] at g0 g1
      obtain ⟨q0, r0, _, f0⟩ := DataW.trod_int Tryd.underlying2 g0
      obtain ⟨q1, r1, _, f1⟩ := DataW.trod_string Tryd.underlying9 g1
      have e0 := hcell 0 (by omega)
      have e1 := hcell 1 (by omega)
      rw [add_add] at e0 e1
      simp at r0 r1
      subst r0 r1
      exact ⟨(q0, q1), by simpa using e0, by simpa using e1, f0, f1⟩
  obtain ⟨f, hf⟩ := choose_lt each
  refine ⟨some a, len, cap, fun i => (f i).1, fun i => (f i).2, rfl, by omega, fun k hk => ?_, fun k hk => (hf k hk).2.2.1, fun k hk => (hf k hk).2.2.2⟩
  obtain ⟨b, o, spot⟩ := a
  have hspot : spot = none := by
    have := World.cell?_spot (hf 0 (by omega)).1
    simpa [Addr.add] using this
  subst hspot
  have := hf k hk
  rw [Addr.add_mid, Addr.add_mid] at this
  exact ⟨b, o, rfl, this.1, by simpa [Nat.add_assoc] using this.2.1⟩

end Go.Proofs.YtcmeppjfjledfakDoor
