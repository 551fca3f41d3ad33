/-
  Helpers, merged: Cells, MeshMem, Vis, Iter, Count, TriSeq, Skips, RoundAny, Ans, RankSpec, OrderSp, RankImpl, OrderOk, TakeP, FillP, EList, Grow.
-/
import Derived.Test.YtdgnlpafmkhdjahPack1
import Derived.Test.YtdgnlpafmkhdjahPack2
import Derived.Sort.QuietIn
import Derived.Test.YtdgnlpafmkhdjahRows
import Derived.Deep.RegionHeld
import Derived.OrdersHeld
import Derived.Deep.AppendLies
/-
  Memory of the call's own, cell by cell: a block that may be written and whose first cells are known.
-/
set_option linter.unusedVariables false
set_option linter.unusedSimpArgs false
namespace Go.Proofs.Ytdgnlpafmkhdjah
open Go.RowKit

/-- Block b, of type t, begins with the n cells f and may be written. -/
def VHas (w : World) (b : Nat) (t : TypeId) (n : Nat) (f : Nat → Value) : Prop := ∃ cur : Array Value, w.heap[b]? = some (.cells cur t (0, 0)) ∧ n ≤ cur.size ∧ ∀ j, j < n → cur[j]? = some (f j)
theorem VHas.cell {w : World} {b n : Nat} {t : TypeId} {f : Nat → Value} (h : VHas w b t n f) {j : Nat} (hj : j < n) : w.cell? ⟨b, j, none⟩ = some (f j) := by
  obtain ⟨c, hb, _, hc⟩ := h
  simp [World.cell?, hb, hc j hj]
theorem VHas.frozen {w : World} {b n : Nat} {t : TypeId} {f : Nat → Value} (h : VHas w b t n f) (j : Nat) : w.frozen? ⟨b, j, none⟩ = false := by
  obtain ⟨c, hb, _, _⟩ := h
  simp [World.frozen?, hb]
theorem VHas.lt {w : World} {b n : Nat} {t : TypeId} {f : Nat → Value} (h : VHas w b t n f) : b < w.heap.size := by
  obtain ⟨c, hb, _, _⟩ := h
  exact (Array.getElem?_eq_some_iff.1 hb).1
theorem VHas.of_block {w w' : World} {b n : Nat} {t : TypeId} {f : Nat → Value} (h : VHas w b t n f) (e : w'.heap[b]? = w.heap[b]?) : VHas w' b t n f := by
  obtain ⟨c, hb, hn, hc⟩ := h
  exact ⟨c, e.trans hb, hn, hc⟩
theorem VHas.congr {w : World} {b n : Nat} {t : TypeId} {f g : Nat → Value} (h : VHas w b t n f) (e : ∀ j, j < n → f j = g j) : VHas w b t n g := by
  obtain ⟨c, hb, hn, hc⟩ := h
  exact ⟨c, hb, hn, fun j hj => by rw [hc j hj, e j hj]⟩
theorem VHas.set {w : World} {b n : Nat} {t : TypeId} {f : Nat → Value} (h : VHas w b t n f) (i : Nat) (v : Value) : VHas (w.setCell ⟨b, i, none⟩ v) b t n (fun j => if j = i then v else f j) := by
  obtain ⟨c, hb, hn, hc⟩ := h
  refine ⟨c.setIfInBounds i v, ?_, by simpa using hn, fun j hj => ?_⟩
  · simp [World.setCell, Array.getElem?_modify, hb]
  · rw [Array.getElem?_setIfInBounds]
    by_cases e : j = i
    · subst e
      simp; omega
    · rw [if_neg (fun h => e h.symm)]
      show c[j]? = some (if j = i then v else f j)
      rw [if_neg e]
      exact hc j hj
theorem VHas.other {w : World} {b n c i : Nat} {t : TypeId} {f : Nat → Value} (h : VHas w b t n f) (hne : b ≠ c) (v : Value) : VHas (w.setCell ⟨c, i, none⟩ v) b t n f := h.of_block (Below.heap_setCell _ _ _ _ (fun e => hne (by simpa using e)))
theorem VHas.below {w w' : World} {b n B : Nat} {t : TypeId} {f : Nat → Value} (h : VHas w b t n f) (hb : Below B w w') (hB : b < B) : VHas w' b t n f := h.of_block (hb.block b hB)
theorem VHas.next {w w' : World} {b n : Nat} {t : TypeId} {f : Nat → Value} (h : VHas w b t n f) (hb : Below w.heap.size w w') : VHas w' b t n f := h.below hb h.lt
theorem VHas.alloc {w : World} {b n : Nat} {t : TypeId} {f : Nat → Value} (h : VHas w b t n f) (o : Obj) : VHas (w.alloc o) b t n f := h.next ((Below.refl _ _).alloc (Nat.le_refl _) _)
theorem VHas.grown {w w' : World} {b n : Nat} {t : TypeId} {f : Nat → Value} {row : Option Nat} (h : VHas w b t n f) (hg : w.grownBy w' row) (hne : some b ≠ row) : VHas w' b t n f := h.of_block (hg.block b h.lt hne)
theorem VHas.of_row {w : World} {b n : Nat} {t : TypeId} {f : Nat → Value} (h : w.rowIs b t n f) : VHas w b t n f := by
  obtain ⟨c, hb, hn, hc⟩ := h
  exact ⟨c, hb, by omega, hc⟩

/-- Block b begins with n truths. -/
abbrev BHas (w : World) (b n : Nat) (f : Nat → Bool) : Prop := VHas w b 4 n (fun j => .bool (f j))
theorem BHas.put {w : World} {b n : Nat} {f : Nat → Bool} (h : BHas w b n f) (i : Nat) (v : Bool) : BHas (w.setCell ⟨b, i, none⟩ (.bool v)) b n (fun j => if j = i then v else f j) :=
  (VHas.set h i (.bool v)).congr (fun j _ => by by_cases e : j = i <;> simp [e])
theorem BHas.same {w : World} {b n : Nat} {f g : Nat → Bool} (h : BHas w b n f) (e : ∀ j, j < n → f j = g j) : BHas w b n g := VHas.congr h (fun j hj => by rw [e j hj])

theorem Try.infoBool : (Try.prog.info? 4).map (fun i => (i.zero, i.size, i.bytes)) = some (some (.bool false), 1, 1) := by kernel_rfl
theorem make_bools (n : Nat) (hn : n ≤ 1048576) (w : World) :
    (Instr.makeSlice 127 (.int .i64 (n : Int)) (.int .i64 (n : Int))).run Try.prog w = .ok (.slice (some ⟨w.heap.size, 0, none⟩) n n) (w.alloc (.cells (madeCells #[.bool false] n) 4)) :=
  run_make_row' 127 4 _ 1 Try.underlying127 Try.infoBool rfl .i64 .i64 n (by omega) (by omega) w
theorem made_bools (w : World) (n : Nat) : BHas (w.alloc (.cells (madeCells #[.bool false] n) 4)) w.heap.size n (fun _ => false) := VHas.of_row (World.rowIs_made w _ n _)

end Go.Proofs.Ytdgnlpafmkhdjah

/-
  The program's mesh in memory: read, written; two places joined, two places parted.
-/
set_option linter.unusedVariables false
set_option linter.unusedSimpArgs false
namespace Go.Proofs.Ytdgnlpafmkhdjah
open Go.RowKit
attribute [local go_sem ↓] Go.wp_at_zero Go.wp_at_succ

/-- The cells of a mesh: how many places, a square of 24 rows, who is gone. -/
def meshV (p : Int) (B : Nat → Nat → Bool) (gone : Nat → Bool) (j : Nat) : Value := if j = 0 then .int .i64 p else if j < 577 then .bool (B ((j - 1) / 24) ((j - 1) % 24)) else .bool (gone (j - 577))
def MeshAt (w : World) (bm : Nat) (p : Int) (B : Nat → Nat → Bool) (gone : Nat → Bool) : Prop := VHas w bm 148 601 (meshV p B gone)
theorem MeshAt.places {w : World} {bm : Nat} {p : Int} {B : Nat → Nat → Bool} {gone : Nat → Bool} (h : MeshAt w bm p B gone) : w.cell? ⟨bm, 0, none⟩ = some (.int .i64 p) := by
  rw [VHas.cell h (by omega)]; rfl
theorem MeshAt.at {w : World} {bm : Nat} {p : Int} {B : Nat → Nat → Bool} {gone : Nat → Bool} (h : MeshAt w bm p B gone) {x y : Nat} (hx : x < 24) (hy : y < 24) : w.cell? ⟨bm, 1 + x * 24 + y, none⟩ = some (.bool (B x y)) := by
  rw [VHas.cell h (by omega)]
  unfold meshV
  rw [if_neg (by omega), if_pos (by omega)]
  have h1 : (1 + x * 24 + y - 1) / 24 = x := by omega
  have h2 : (1 + x * 24 + y - 1) % 24 = y := by omega
  rw [h1, h2]
theorem MeshAt.gone {w : World} {bm : Nat} {p : Int} {B : Nat → Nat → Bool} {gone : Nat → Bool} (h : MeshAt w bm p B gone) {x : Nat} (hx : x < 24) : w.cell? ⟨bm, 577 + x, none⟩ = some (.bool (gone x)) := by
  rw [VHas.cell h (by omega)]
  unfold meshV
  rw [if_neg (by omega), if_neg (by omega)]
  have h1 : 577 + x - 577 = x := by omega
  rw [h1]
theorem MeshAt.put {w : World} {bm : Nat} {p : Int} {B : Nat → Nat → Bool} {gone : Nat → Bool} (h : MeshAt w bm p B gone) {x y : Nat} (hx : x < 24) (hy : y < 24) (v : Bool) : MeshAt (w.setCell ⟨bm, 1 + x * 24 + y, none⟩ (.bool v)) bm p (upd B x y v) gone := by
  refine (VHas.set h (1 + x * 24 + y) (.bool v)).congr (fun j hj => ?_)
  by_cases e : j = 1 + x * 24 + y
  · subst e
    rw [if_pos rfl]
    unfold meshV upd
    have h1 : (1 + x * 24 + y - 1) / 24 = x := by omega
    have h2 : (1 + x * 24 + y - 1) % 24 = y := by omega
    rw [if_neg (by omega), if_pos (by omega), h1, h2, if_pos ⟨rfl, rfl⟩]
  · rw [if_neg e]
    unfold meshV upd
    by_cases h0 : j = 0
    · rw [if_pos h0, if_pos h0]
    · rw [if_neg h0, if_neg h0]
      by_cases h1 : j < 577
      · rw [if_pos h1, if_pos h1, if_neg (by omega)]
      · rw [if_neg h1, if_neg h1]
theorem MeshAt.go {w : World} {bm : Nat} {p : Int} {B : Nat → Nat → Bool} {gone : Nat → Bool} (h : MeshAt w bm p B gone) {x : Nat} (hx : x < 24) : MeshAt (w.setCell ⟨bm, 577 + x, none⟩ (.bool true)) bm p B (goneU gone x) := by
  refine (VHas.set h (577 + x) (.bool true)).congr (fun j hj => ?_)
  by_cases e : j = 577 + x
  · subst e
    rw [if_pos rfl]
    unfold meshV goneU
    have h1 : 577 + x - 577 = x := by omega
    rw [if_neg (by omega), if_neg (by omega), h1, if_pos rfl]
  · rw [if_neg e]
    unfold meshV goneU
    by_cases h0 : j = 0
    · rw [if_pos h0, if_pos h0]
    · rw [if_neg h0, if_neg h0]
      by_cases h1 : j < 577
      · rw [if_pos h1, if_pos h1]
      · rw [if_neg h1, if_neg h1, if_neg (by omega)]
theorem MeshAt.same {w : World} {bm : Nat} {p : Int} {B B' : Nat → Nat → Bool} {gone : Nat → Bool} (h : MeshAt w bm p B gone) (e : ∀ x y, x < 24 → y < 24 → B x y = B' x y) : MeshAt w bm p B' gone := by
  refine VHas.congr h (fun j hj => ?_)
  unfold meshV
  by_cases h0 : j = 0
  · rw [if_pos h0, if_pos h0]
  · rw [if_neg h0, if_neg h0]
    by_cases h1 : j < 577
    · rw [if_pos h1, if_pos h1, e _ _ (by omega) (by omega)]
    · rw [if_neg h1, if_neg h1]

set_option maxHeartbeats 1000000 in
theorem join_any (bm a b : Nat) (p : Int) (B : Nat → Nat → Bool) (gone : Nat → Bool) (ha : a < 24) (hb : b < 24) (hne : a ≠ b) (w : World) (h : MeshAt w bm p B gone) :
    Calls Try.prog 121 #[.pointer (some ⟨bm, 0, none⟩), .int .i64 (a : Int), .int .i64 (b : Int)] w fun e w' => e = .returned (.tuple #[]) ∧ MeshAt w' bm p (upd2 B a b true) gone ∧ w.grownBy w' (some bm) := by
  have d0 := h.at ha hb
  have z0 := VHas.frozen h (1 + a * 24 + b)
  have d1 := h.at hb ha
  have z1 := VHas.frozen h (1 + b * 24 + a)
  have n1 : ¬ 1 + a * 24 + b = 1 + b * 24 + a := by omega
  have n2 : ¬ 1 + b * 24 + a = 1 + a * 24 + b := by omega
  have ha' : (a : Int) < 24 := by omega
  have hb' : (b : Int) < 24 := by omega
  go_enter Try.func121, Try.ntmps121
  go_wp2
  simp [bodyPost, results, Try.results121, go_sem]
  exact ⟨(h.put ha hb true).put hb ha true, (gr_setCell w bm (1 + a * 24 + b) (.bool true)).trans (gr_setCell _ bm (1 + b * 24 + a) (.bool true))⟩

set_option maxHeartbeats 1000000 in
theorem part_any (bm a b : Nat) (p : Int) (B : Nat → Nat → Bool) (gone : Nat → Bool) (ha : a < 24) (hb : b < 24) (hne : a ≠ b) (w : World) (h : MeshAt w bm p B gone) :
    Calls Try.prog 123 #[.pointer (some ⟨bm, 0, none⟩), .int .i64 (a : Int), .int .i64 (b : Int)] w fun e w' => e = .returned (.tuple #[]) ∧ MeshAt w' bm p (upd2 B a b false) gone ∧ w.grownBy w' (some bm) := by
  have d0 := h.at ha hb
  have z0 := VHas.frozen h (1 + a * 24 + b)
  have d1 := h.at hb ha
  have z1 := VHas.frozen h (1 + b * 24 + a)
  have n1 : ¬ 1 + a * 24 + b = 1 + b * 24 + a := by omega
  have n2 : ¬ 1 + b * 24 + a = 1 + a * 24 + b := by omega
  have ha' : (a : Int) < 24 := by omega
  have hb' : (b : Int) < 24 := by omega
  go_enter Try.func123, Try.ntmps123
  go_wp2
  simp [bodyPost, results, Try.results123, go_sem]
  exact ⟨(h.put ha hb false).put hb ha false, (gr_setCell w bm (1 + a * 24 + b) (.bool false)).trans (gr_setCell _ bm (1 + b * 24 + a) (.bool false))⟩

/-- A new mesh's cells. -/
def isF : Option Value → Bool
  | some (.bool b) => !b
  | _ => false
set_option maxRecDepth 100000 in
theorem zero_cells : (List.range 601).all (fun j => j == 0 || isF (Try.zeroCells148[j]?)) = true := by kernel_rfl
set_option maxRecDepth 100000 in
theorem zero_size : Try.zeroCells148.size = 601 := by kernel_rfl
theorem mesh_new (w : World) (p : Int) : MeshAt (w.alloc (.cells (Try.zeroCells148.setIfInBounds 0 (.int .i64 p)) 148)) w.heap.size p (fun _ _ => false) (fun _ => false) := by
  refine ⟨_, Go.Deep.blk_alloc_new _ _, by rw [Array.size_setIfInBounds, zero_size]; exact Nat.le_refl _, fun j hj => ?_⟩
  unfold meshV
  by_cases h0 : j = 0
  · subst h0
    rw [if_pos rfl, Array.getElem?_setIfInBounds_self_of_lt (by rw [zero_size]; omega)]
  · rw [if_neg h0, Array.getElem?_setIfInBounds_ne (fun e => h0 e.symm)]
    have := List.all_eq_true.1 zero_cells j (List.mem_range.2 hj)
    have hz : (j == 0) = false := by simpa using h0
    rw [hz, Bool.false_or] at this
    have e : Try.zeroCells148[j]? = some (.bool false) := by
      generalize Try.zeroCells148[j]? = o at this
      cases o with
      | none => cases this
      | some v =>
        cases v <;> first | (simp [isF] at this; done) | (simp [isF] at this; subst this; rfl)
    rw [e]
    split <;> rfl

set_option maxHeartbeats 1000000 in
theorem meshOf_any (p : Nat) (ao : Option Addr) (n cap : Nat) (F T G : Nat → Int) (hp : p ≤ 24) (hn : n ≤ 100) (hF : ∀ k, k < n → 0 ≤ F k ∧ F k < (p : Int)) (hT : ∀ k, k < n → 0 ≤ T k ∧ T k < (p : Int)) (hFT : ∀ k, k < n → F k ≠ T k) (w : World) (hr : Row w ao n F T G) :
    Calls Try.prog 111 #[.agg #[.int .i64 (p : Int), .slice ao n cap]] w fun e w' => ∃ bm, e = .returned (.pointer (some ⟨bm, 0, none⟩)) ∧ w.heap.size ≤ bm ∧ MeshAt w' bm (p : Int) (nbA F T n) (fun _ => false) ∧ Below w.heap.size w w' := by
  go_enter Try.func111, Try.ntmps111
  go_wp2
  go_loopw [13] (fun i wr => ∃ k : Nat, k ≤ n ∧ i = .int .i64 k ∧ MeshAt wr (w.heap.size + 1) (p : Int) (nbA F T k) (fun _ => false) ∧ Below (w.heap.size + 1) (w.alloc (.cells #[.int .i64 (p : Int), .slice ao n cap] 47)) wr) (fun i _ => n - (intOf i).toNat)
  case atStart => exact ⟨0, Nat.zero_le _, rfl, by have := mesh_new (w.alloc (.cells #[.int .i64 (p : Int), .slice ao n cap] 47)) (p : Int); simp only [World.size_alloc] at this; exact this, (Below.refl _ _).alloc (by simp) _⟩
  case round =>
    obtain ⟨k, hk, rfl, hM, hbel⟩ := hrel
    have hml := VHas.lt hM
    by_cases hlt : k < n
    rotate_left
    · have hkn : k = n := by omega
      subst hkn
      go_wp2
      go_ret
      exact ⟨_, rfl, by omega, hM, unbox hbel (by omega)⟩
    obtain ⟨b, o, hao, c0, c1, c2⟩ := ((hr.alloc _).below hbel (by simp)) k hlt
    subst hao
    have hf0 := hF k hlt
    have ht0 := hT k hlt
    have hne0 := hFT k hlt
    obtain ⟨f, hf⟩ : ∃ f : Nat, F k = (f : Int) := ⟨(F k).toNat, by omega⟩
    obtain ⟨t, ht⟩ : ∃ t : Nat, T k = (t : Int) := ⟨(T k).toNat, by omega⟩
    have hst : Hid (nbA F T (k + 1) = upd2 (nbA F T k) f t true) := by
      show upd2 (nbA F T k) (F k).toNat (T k).toNat true = _
      rw [hf, ht]; rfl
    rw [hf] at c0 hf0 hne0
    rw [ht] at c1 ht0 hne0
    clear hf ht
    have hft : f ≠ t := by omega
    have hal := (Below.refl wr.heap.size wr).alloc (Nat.le_refl _) (.cells #[.int .i64 (f : Int), .int .i64 (t : Int), .int .i64 (G k)] 89)
    have hj := join_any (w.heap.size + 1) f t (p : Int) _ _ (by omega) (by omega) hft _ (VHas.next hM hal)
    have hB2 := below_next hbel (by simp) hal
    clear hM hbel
    go_wp2_with (go_at_call 121; refine hj.mono ?_; rintro e w2 ⟨rfl, hM2, hg2⟩)
    go_roundw
    case rel => exact ⟨k + 1, by omega, by go_num, by rw [hst.out]; exact hM2, hB2.trans (gr_below hg2 (Nat.le_refl _) (by have := hB2.size; simpa using this))⟩
    case measure => simp [intOf]; omega

end Go.Proofs.Ytdgnlpafmkhdjah

/-
  Whom an iterator visits: the plain part.
-/
set_option linter.unusedVariables false
set_option linter.unusedSimpArgs false
namespace Go.Proofs.Ytdgnlpafmkhdjah



/-- The places that have come when k have been looked at; 'bits' tells the row when a list has come. -/
def vis (bits : List Nat → Nat → Bool) : Nat → List Nat
  | 0 => []
  | k + 1 => if bits (vis bits k) k then vis bits k ++ [k] else vis bits k
/-- Those of the first k that are there. -/
def visF (f : Nat → Bool) (k : Nat) : List Nat := vis (fun _ => f) k
theorem visF_len (f : Nat → Bool) : ∀ k, (visF f k).length = cntB f k
  | 0 => rfl
  | k + 1 => by
    show (if f k then visF f k ++ [k] else visF f k).length = cntB f k + _
    have := visF_len f k
    split <;> simp_all
theorem visF_mem (f : Nat → Bool) : ∀ k x, x ∈ visF f k ↔ x < k ∧ f x = true
  | 0, x => by simp [visF, vis]
  | k + 1, x => by
    show x ∈ (if f k then visF f k ++ [k] else visF f k) ↔ _
    have := visF_mem f k x
    by_cases h : f k = true
    · rw [if_pos h, List.mem_append, this, List.mem_singleton]
      constructor
      · rintro (⟨h1, h2⟩ | rfl)
        · exact ⟨by omega, h2⟩
        · exact ⟨by omega, h⟩
      · rintro ⟨h1, h2⟩
        by_cases e : x = k
        · exact .inr e
        · exact .inl ⟨by omega, h2⟩
    · rw [if_neg h, this]
      constructor
      · rintro ⟨h1, h2⟩
        exact ⟨by omega, h2⟩
      · rintro ⟨h1, h2⟩
        refine ⟨?_, h2⟩
        by_cases e : x = k
        · subst e; exact absurd h2 h
        · omega

end Go.Proofs.Ytdgnlpafmkhdjah

/-
  The program's iterator over the neighbours of a place: what it hands over, whatever the rounds do, as long as its own row can be read.
-/
set_option linter.unusedVariables false
set_option linter.unusedSimpArgs false
namespace Go.Proofs.Ytdgnlpafmkhdjah
open Go.RowKit Go.Shelf
attribute [local go_sem] Oper.semAt_some

theorem neighbours_any (bm : Nat) (place : Int) (w : World) :
    Calls Try.prog 112 #[.pointer (some ⟨bm, 0, none⟩), .int .i64 place] w fun e w' => e = .returned (.func (.func 122) #[] #[.pointer (some ⟨w.heap.size, 0, none⟩), .pointer (some ⟨w.heap.size + 1, 0, none⟩)]) ∧ w' = (w.alloc (.cells #[.pointer (some ⟨bm, 0, none⟩)] 132)).alloc (.cells #[.int .i64 place] 2) := by
  go_enter Try.func112, Try.ntmps112
  go_wp2
  go_ret
  exact ⟨rfl, rfl⟩
/-- What the iterator reads: its two boxes, how many places, the row of its place. -/
structure Reads (bM bP bm p place : Nat) (W : World) (f : Nat → Bool) : Prop where
  rdM : W.cell? ⟨bM, 0, none⟩ = some (.pointer (some ⟨bm, 0, none⟩))
  rdP : W.cell? ⟨bP, 0, none⟩ = some (.int .i64 (place : Int))
  rdN : W.cell? ⟨bm, 0, none⟩ = some (.int .i64 (p : Int))
  rdR : ∀ j, j < 24 → W.cell? ⟨bm, 1 + place * 24 + j, none⟩ = some (.bool (f j))
set_option maxRecDepth 100000 in
set_option maxHeartbeats 2000000 in
theorem iter_core (n : Nat) (hn : 1 ≤ n) (l bM bP bm p place : Nat) (hp : p ≤ 24) (hpl : place < 24) (J Jx : List Nat → World → Prop) (bits : List Nat → Nat → Bool) (W : World) (hJ : AbidesFrom W.heap.size J)
    (hRd : ∀ pre W1, J pre W1 → Reads bM bP bm p place W1 (bits pre))
    (hY : ∀ k W1, k < p → bits (vis bits k) k = true → J (vis bits k) W1 → YieldAt Fence.wide (n - 1) Try.prog l #[.int .i64 (k : Int)] W1 fun e W' => (e = .returned (.bool true) ∧ J (vis bits k ++ [k]) W') ∨ (e = .returned (.bool false) ∧ Jx (vis bits k ++ [k]) W'))
    (h0 : J [] W) :
    CallsIn Fence.wide n Try.prog 122 #[.func (.yield l) #[] #[], .pointer (some ⟨bM, 0, none⟩), .pointer (some ⟨bP, 0, none⟩)] W fun e W' => (∃ v, e = .returned v) ∧ (J (vis bits p) W' ∨ ∃ k, k < p ∧ bits (vis bits k) k = true ∧ Jx (vis bits k ++ [k]) W') := by
  obtain ⟨r1, r2, r3, r4⟩ := hRd _ _ h0
  refine callsIn_of_wp Try.func122 rfl trivial ?_ rfl
  simp only [Try.ntmps122, List.size_toArray, List.length_cons, List.length_nil, Nat.reduceAdd, Nat.reduceSub, Array.replicate_succ, Array.replicate_zero, List.push_toArray, List.append_toArray, List.nil_append, List.cons_append]
  gi_wp2
  clear r1 r2 r3 r4
  gi_loopw [9] (fun i wr => ∃ k : Nat, k ≤ p ∧ i = .int .i64 k ∧ J (vis bits k) wr) (fun i _ => p - (intOf i).toNat)
  case atStart => exact ⟨0, Nat.zero_le _, rfl, h0⟩
  case round =>
    obtain ⟨k, hk, rfl, hJk⟩ := hrel
    by_cases hlt : k < p
    rotate_left
    · have hkp : k = p := by omega
      subst hkp
      gi_wp2
      go_end0
      exact ⟨⟨_, rfl⟩, .inl hJk⟩
    have hlt' : (k : Int) < (p : Int) := by omega
    obtain ⟨r1, r2, r3, r4⟩ := hRd _ _ hJk
    have r5 := r4 k (by omega)
    have hpl' : (place : Int) < 24 := by omega
    have hk24 : (k : Int) < 24 := by omega
    cases hb : bits (vis bits k) k
    · have hv : Hid (vis bits (k + 1) = vis bits k) := by
        show (if bits (vis bits k) k then _ else _) = _
        rw [hb]; rfl
      rw [hb] at r5
      clear r4
      gi_wp2
      refine wpIn_region_quiet_lit rfl (by kernel_rfl) (by kernel_rfl) ?_
      repeat (gi_big_quiet_step (fail))
      refine BigFrame.wpQuietIn_skip (fun _ _ _ _ => trivial) rfl ?_
      simp only [go_sem, Act.put, List.setIfInBounds_toArray, List.set_cons_succ, List.set_cons_zero]
      repeat (gi_big_quiet_step (fail))
      refine wpQuietIn_nil ?_
      intro _ hw'
      obtain ⟨nq, hw''⟩ := hw'
      subst hw''
      gi_wp2
      go_roundw
      case rel => exact ⟨k + 1, by omega, by go_num, by rw [hv.out]; exact hJ _ _ _ none hJk ⟨rfl, rfl, rfl, Nat.le_refl _, fun _ _ _ => rfl⟩ (fun r e => by cases e)⟩
      case measure => simp [intOf]; omega
    · have hv : Hid (vis bits (k + 1) = vis bits k ++ [k]) := by
        show (if bits (vis bits k) k then _ else _) = _
        rw [hb]; rfl
      rw [hb] at r5
      clear r4
      obtain ⟨fn, tmps, assign, body, hy, hR⟩ := hY k wr.drew hlt hb (hJ _ _ _ none hJk ⟨rfl, rfl, rfl, Nat.le_refl _, fun _ _ _ => rfl⟩ (fun r e => by cases e))
      have hR' := hR.mono (R' := fun e W' => ∃ b : Bool, e = .returned (.bool b) ∧ ((b = true ∧ J (vis bits k ++ [k]) W') ∨ (b = false ∧ Jx (vis bits k ++ [k]) W'))) (fun e W' h => by
        rcases h with ⟨h1, h2⟩ | ⟨h1, h2⟩
        · exact ⟨true, h1, .inl ⟨rfl, h2⟩⟩
        · exact ⟨false, h1, .inr ⟨rfl, h2⟩⟩)
      clear hR
      gi_wp2
      gi_region_with (refine hR'.mono ?_; rintro e W3 ⟨b, rfl, hor⟩)
      all_goals
        rcases hor with ⟨rfl, hJ3⟩ | ⟨rfl, hJx3⟩
        · gi_wp2
          go_roundw
          case rel => exact ⟨k + 1, by omega, by go_num, by rw [hv.out]; exact hJ3⟩
          case measure => simp [intOf]; omega
        · gi_wp2
          refine bodyPost_ret (results_none rfl _ _ _) rfl ?_
          exact ⟨⟨_, rfl⟩, .inr ⟨k, hlt, hb, hJx3⟩⟩

end Go.Proofs.Ytdgnlpafmkhdjah

/-
  The program's count of a place's neighbours, which leaves off at a limit.
-/
set_option linter.unusedVariables false
set_option linter.unusedSimpArgs false
namespace Go.Proofs.Ytdgnlpafmkhdjah
open Go.RowKit Go.Shelf
attribute [local go_sem] Oper.semAt_some

theorem Reads.grown {bM bP bm p place : Nat} {W W' : World} {f : Nat → Bool} {row : Option Nat} (h : Reads bM bP bm p place W f) (hg : W.grownBy W' row) (hr : ∀ r, row = some r → ∃ o : Obj, W.heap[r]? = some o ∧ o.isCells = false) : Reads bM bP bm p place W' f :=
  ⟨cell_kept h.rdM hg hr, cell_kept h.rdP hg hr, cell_kept h.rdN hg hr, fun j hj => cell_kept (h.rdR j hj) hg hr⟩
theorem Reads.of_mesh {bM bP bm p place : Nat} {W : World} {B : Nat → Nat → Bool} {gone : Nat → Bool} (hp : place < 24) (h1 : W.cell? ⟨bM, 0, none⟩ = some (.pointer (some ⟨bm, 0, none⟩))) (h2 : W.cell? ⟨bP, 0, none⟩ = some (.int .i64 (place : Int))) (h : MeshAt W bm (p : Int) B gone) : Reads bM bP bm p place W (B place) :=
  ⟨h1, h2, h.places, fun j hj => h.at hp hj⟩
/-- Over a row that no round turns: all that are there, in their order; or a part, where a round has said 'no more'. -/
theorem iter_stops (n : Nat) (hn : 1 ≤ n) (bM bP bm p place : Nat) (f : Nat → Bool) (hp : p ≤ 24) (hpl : place < 24) (w : World) (hR : Reads bM bP bm p place w f) :
    SeqStopsK Fence.wide n Try.prog 122 #[.pointer (some ⟨bM, 0, none⟩), .pointer (some ⟨bP, 0, none⟩)] (fun x : Nat => #[Value.int .i64 (x : Int)]) (fun W W' => Reads bM bP bm p place W f → Reads bM bP bm p place W' f) (fun xs => xs = visF f p) (fun pre => ∃ k, k < p ∧ f k = true ∧ pre = visF f k ++ [k]) 25 w := fun l J Jx W hW hJ hJx hY h0 => by
  have hRW : Reads bM bP bm p place W f := hR.grown (row := none) ⟨hW.os, hW.tape, hW.output, hW.size, fun k hk _ => hW.block k hk⟩ (fun r e => by cases e)
  refine (iter_core n hn l bM bP bm p place hp hpl (fun pre W => J pre W ∧ Reads bM bP bm p place W f) Jx (fun _ => f) W ?_ (fun _ _ h => h.2) ?_ ⟨h0, hRW⟩).mono ?_
  · rintro s A B row ⟨h1, h2⟩ hg hr
    exact ⟨hJ s A B row h1 hg hr, h2.grown hg (fun r e => by obtain ⟨_, o, ho, hw⟩ := hr r e; exact ⟨o, ho, Obj.not_cells_of_walk hw⟩)⟩
  · rintro k W1 hk hb ⟨h1, h2⟩
    obtain ⟨fn, tmps, assign, body, hy, hR1⟩ := hY (visF f k) k W1 h1 (by rw [visF_len]; have := cntB_le f k; omega)
    refine ⟨fn, tmps, assign, body, hy, hR1.mono ?_⟩
    rintro e W' (⟨h3, h4, h5⟩ | ⟨h3, h4⟩)
    · exact .inl ⟨h3, h4, h5 h2⟩
    · exact .inr ⟨h3, h4⟩
  · rintro e W' ⟨hv, (⟨h1, _⟩ | ⟨k, hk, hb, h1⟩)⟩
    · exact ⟨hv, .inl ⟨_, rfl, h1⟩⟩
    · exact ⟨hv, .inr ⟨_, ⟨k, hk, hb, rfl⟩, h1⟩⟩

end Go.Proofs.Ytdgnlpafmkhdjah

/-
  The iterator over triangles as a range over a function wants it.
-/
set_option linter.unusedVariables false
set_option linter.unusedSimpArgs false
namespace Go.Proofs.Ytdgnlpafmkhdjah
open Go.RowKit Go.Shelf Go.Maps

abbrev TrO (m : Nat) (L H : Nat → Int) := { t : Tr // TOk m L H t }
/-- What the iterator reads: its box and its edges. -/
def TRd (bE : Nat) (eo : Option Addr) (m ecap : Nat) (L H : Nat → Int) (W : World) : Prop := W.cell? ⟨bE, 0, none⟩ = some (.slice eo m ecap) ∧ ERow W eo m L H
theorem TRd.grown {bE : Nat} {eo : Option Addr} {m ecap : Nat} {L H : Nat → Int} {W W' : World} {row : Option Nat} (h : TRd bE eo m ecap L H W) (hg : W.grownBy W' row) (hr : ∀ r, row = some r → ∃ o : Obj, W.heap[r]? = some o ∧ o.isCells = false) : TRd bE eo m ecap L H W' :=
  ⟨cell_kept h.1 hg hr, fun k hk => by
    obtain ⟨b, o, e, c0, c1⟩ := h.2 k hk
    exact ⟨b, o, e, cell_kept c0 hg hr, cell_kept c1 hg hr⟩⟩
theorem TRd.putObj {bE : Nat} {eo : Option Addr} {m ecap : Nat} {L H : Nat → Int} {W : World} {l : Nat} {o o' : Obj} (h : TRd bE eo m ecap L H W) (hl : W.heap[l]? = some o) (ho : o.isCells = false) : TRd bE eo m ecap L H (W.putObj l o') :=
  h.grown (grownBy_putObj' W l o') (fun r e => by cases e; exact ⟨o, hl, ho⟩)
/-- What a round owes the iterator. -/
def TKp (B bE : Nat) (eo : Option Addr) (m ecap : Nat) (L H : Nat → Int) (W W' : World) : Prop := KeepsOwn B W W' ∧ (TRd bE eo m ecap L H W → TRd bE eo m ecap L H W')
theorem KeepsOwn.less {B B' : Nat} {W W' : World} (h : KeepsOwn B W W') (hB : B ≤ B') : KeepsOwn B' W W' := ⟨h.size, fun k o hk => h.same k o (by omega)⟩

theorem tri_stops (n : Nat) (hn : 1 ≤ n) (bE : Nat) (eo : Option Addr) (m ecap : Nat) (L H : Nat → Int) (p : Int) (hm : m ≤ 1048576) (hp : p ≤ 24) (he : edB p L H m = true) (hc : ChdTo m L H m) (w : World) (hR : TRd bE eo m ecap L H w) :
    SeqStopsK Fence.wide n Try.prog 86 #[.pointer (some ⟨bE, 0, none⟩)] (fun x : TrO m L H => #[trv x.1]) (TKp w.heap.size bE eo m ecap L H) (fun xs => xs.map (·.1) = allT m L H m) (fun _ => True) (m * m) w := fun l J Jx W hW hJ hJx hY h0 => by
  have hRW : TRd bE eo m ecap L H W := hR.grown (row := none) ⟨hW.os, hW.tape, hW.output, hW.size, fun k hk _ => hW.block k hk⟩ (fun r e => by cases e)
  refine (tri_core n hn l bE eo m ecap L H p hm hp he hc (fun pre W => (∃ xs : List (TrO m L H), xs.map (·.1) = pre ∧ J xs W) ∧ TRd bE eo m ecap L H W) (fun pre W => ∃ xs : List (TrO m L H), Jx xs W) W ?_ (fun _ _ h => h.2) ?_ ⟨⟨[], rfl, h0⟩, hRW⟩).mono ?_
  · rintro s A B row ⟨⟨xs, e, h1⟩, h2⟩ hg hr
    exact ⟨⟨xs, e, hJ xs A B row h1 hg hr⟩, h2.grown hg (fun r e => by obtain ⟨_, o, ho, hw⟩ := hr r e; exact ⟨o, ho, Obj.not_cells_of_walk hw⟩)⟩
  · rintro pre t W1 ht hlen ⟨⟨xs, rfl, h1⟩, h2⟩
    obtain ⟨fn, tmps, assign, body, hy, hR1⟩ := hY xs ⟨t, ht⟩ W1 h1 (by simpa using hlen)
    refine ⟨fn, tmps, assign, body, hy, hR1.mono ?_⟩
    rintro e W' (⟨h3, h4, h5, h6⟩ | ⟨h3, h4⟩)
    · exact .inl ⟨h3, ⟨⟨xs ++ [⟨t, ht⟩], by simp, h4⟩, h6 h2⟩, h5.less hW.size⟩
    · exact .inr ⟨h3, _, h4⟩
  · rintro e W' ⟨hv, (⟨⟨xs, e, h1⟩, _⟩ | ⟨pre, xs, h1⟩)⟩
    · exact ⟨hv, .inl ⟨xs, e, h1⟩⟩
    · exact ⟨hv, .inr ⟨xs, trivial, h1⟩⟩

end Go.Proofs.Ytdgnlpafmkhdjah

/-
  A region that draws its order, taken by hand: an operation whose guard says no.
-/
set_option linter.unusedVariables false
set_option linter.unusedSimpArgs false
namespace Go.Proofs.Ytdgnlpafmkhdjah
open Go

section
variable {P : Program} {ops : Array Oper} {Q : Exit → Act → World → Prop} {md : Region.Mode} {S : World → Prop}
/-- An operation that is not wanted yields nothing, in whatever order. -/
theorem skipH (i : Nat) (d : Option Tmp) {oi : Oper} {fuel : Nat} {listed : Array Bool} {a : Act} {w : World} (hi : ops[i]? = some oi) (hd : oi.dst = d)
    (hs : Region.noSelect ops = true) (hf : Region.free md ops listed i = true) (hr : (Region.ready md ops listed).contains i = true)
    (hQ : ∀ c a w, Q (.panic c) (a.put oi.dst undef) w → Q (.panic c) a w) (hw : Region.wanted oi (yielded ops a.tmps) = false) (hS : S w)
    (h : wpAnyH P md ops Q S fuel (listed.setIfInBounds i true) (a.put d undef) w) : wpAnyH P md ops Q S (fuel + 1) listed a w :=
  wpAnyH_take hi hs hf hr hQ (.inr ⟨hw, rfl⟩) hS (by rw [hd]; exact h)
/-- The same of one that is alone ready. -/
theorem skip1H (i : Nat) (d : Option Tmp) {oi : Oper} {fuel : Nat} {listed : Array Bool} {a : Act} {w : World} (hi : ops[i]? = some oi) (hd : oi.dst = d) (hr : Region.ready md ops listed = [i])
    (hw : Region.wanted oi (yielded ops a.tmps) = false) (hS : S w)
    (h : wpAnyH P md ops Q S fuel (listed.setIfInBounds i true) (a.put d undef) w) : wpAnyH P md ops Q S (fuel + 1) listed a w :=
  wpAnyH_ready hr (by simp) (AllReadyH.cons hi (fun K hK => by rw [if_neg (by rw [hw]; simp)]; exact hK.out _ _ hS (fun _ => by rw [hd]; exact h)) AllReadyH.nil)
/-- One that yields in every world that keeps to S. -/
theorem takeH (i : Nat) (d : Option Tmp) (v : Value) {oi : Oper} {fuel : Nat} {listed : Array Bool} {a : Act} {w : World} (hi : ops[i]? = some oi) (hd : oi.dst = d)
    (hs : Region.noSelect ops = true) (hf : Region.free md ops listed i = true) (hr : (Region.ready md ops listed).contains i = true)
    (hQ : ∀ c a w, Q (.panic c) (a.put oi.dst v) w → Q (.panic c) a w) (hw : Region.wanted oi (yielded ops a.tmps) = true) (hS : S w) (hy : ∀ w, S w → (execOp a.eval oi).run P w = .ok (.value v) w)
    (h : wpAnyH P md ops Q S fuel (listed.setIfInBounds i true) (a.put d v) w) : wpAnyH P md ops Q S (fuel + 1) listed a w :=
  wpAnyH_take hi hs hf hr hQ (.inl ⟨hw, hy⟩) hS (by rw [hd]; exact h)
/-- An operation that is alone ready and wanted. -/
theorem step1H (i : Nat) (oi : Oper) {fuel : Nat} {listed : Array Bool} {a : Act} {w : World} (hi : ops[i]? = some oi) (hr : Region.ready md ops listed = [i])
    (hw : Region.wanted oi (yielded ops a.tmps) = true) (h : Oper.wp P oi a w (fun a' w' => S w' ∧ wpAnyH P md ops Q S fuel (listed.setIfInBounds i true) a' w') Q) : wpAnyH P md ops Q S (fuel + 1) listed a w :=
  wpAnyH_ready hr (by simp) (AllReadyH.cons hi (fun K hK => by rw [if_pos hw]; exact Oper.wp_mono (fun a' w' h' => hK.out _ _ h'.1 (fun _ => h'.2)) h) AllReadyH.nil)
end

end Go.Proofs.Ytdgnlpafmkhdjah

/-
  A region that draws its order, in a round of a range over a function: what holds of it in whatever order in a plain walk holds of it there. (The laws of a fence take nothing first in a round.)
-/
set_option linter.unusedVariables false
set_option linter.unusedSimpArgs false
namespace Go.Proofs.Ytdgnlpafmkhdjah
open Go

/-- No operation defers a call. -/
def noDefer (ops : Array Oper) : Bool := ops.all fun o => match o.op with | .defer _ => false | _ => true
theorem noDefer_at {ops : Array Oper} (h : noDefer ops = true) {i : Nat} {o : Oper} (hi : ops[i]? = some o) : ∀ c, o.op ≠ .defer c := fun c e => by
  unfold noDefer at h
  rw [Array.all_eq_true] at h
  obtain ⟨hlt, rfl⟩ := Array.getElem?_eq_some_iff.1 hi
  have := h i hlt
  rw [e] at this
  cases this
theorem oper_in {P : Program} {l n : Nat} {o : Oper} {a : Act} {w : World} {K : Act → World → Prop} {Q : Exit → Act → World → Prop} (hd : ∀ c, o.op ≠ .defer c) (h : o.wp P a w K Q) : o.wpIn (Fence.wide.inRound l) n P a w K Q := by
  refine ⟨fun _ _ => trivial, ?_⟩
  rw [Oper.semAt_plain _ _ _ hd]
  unfold Oper.wp at h
  generalize (execOp a.eval o).run P w = r at h
  cases r with
  | ok x w' =>
    cases x <;> simp only [Oper.upon, Oper.uponIn] at h ⊢ <;>
      first
        | exact h
        | exact ⟨fun hh => by simp [Fence.wide] at hh, CallsIn.inRound l (callsIn_wide.2 h)⟩
        | exact ⟨fun hh => by simp [Fence.wide] at hh, fun c cs _ => let ⟨v, w', r, s⟩ := h c cs; ⟨v, w', r, stepsIn_wide.2 s⟩⟩
        | exact h.elim
  | halt x w' => cases x <;> simp only [Oper.upon, Oper.uponIn] at h ⊢ <;> exact h
theorem any_in {P : Program} {l n : Nat} {md : Region.Mode} {ops : Array Oper} {Q : Exit → Act → World → Prop} (hd : noDefer ops = true) (hL : ¬ LetsOut Q) :
    ∀ (fuel : Nat) (listed : Array Bool) (a : Act) (w : World), wpAny P md ops Q fuel listed a w → wpAnyIn (Fence.wide.inRound l) n P md ops Q fuel listed a w
  | 0, _, _, _, h => h
  | fuel + 1, listed, a, w, h => ⟨h.1, fun i hi => by
    have h2 := h.2 i hi
    unfold wpOp at h2
    unfold wpOpIn
    cases ho : ops[i]? with
    | none =>
      rw [ho] at h2
      exact any_in hd hL fuel _ a w h2
    | some o =>
      rw [ho] at h2
      simp only at h2 ⊢
      by_cases hw : Region.wanted o (yielded ops a.tmps) = true
      · rw [if_pos hw] at h2 ⊢
        rcases h2 with h2 | ⟨_, h2⟩
        · exact Oper.wpIn_mono (fun a' w' h' => any_in hd hL fuel _ a' w' h') (oper_in (noDefer_at hd ho) h2)
        · exact absurd h2 hL
      · rw [if_neg hw] at h2 ⊢
        exact ⟨fun _ _ => trivial, any_in hd hL fuel _ _ w h2⟩⟩
theorem region_round {P : Program} {l n id : Nat} {ops : Array Oper} {Q : Exit → Act → World → Prop} {a : Act} {w : World} (S : World → Prop) (hm : P.follows .mixedOrders = true) (hd : noDefer ops = true) (hL : ¬ LetsOut Q)
    (h : wpAnyH P .any ops Q S ops.size (Array.replicate ops.size false) a w.drew) : (Code.region id ops true).wpIn (Fence.wide.inRound l) n P Q a w :=
  wpIn_region_any hm (any_in hd hL _ _ _ _ (wpAny_of_held _ _ _ _ h))

/-- Marks of loops that have ended: taken one after the other when the function leaves. -/
def marks (Ds : List Nat) : List Deferred := Ds.map fun D => { target := .collected D, args := #[] }
def Marked (w : World) (Ds : List Nat) : Prop := Ds.Nodup ∧ ∀ D ∈ Ds, w.heap[D]? = some (.deferred (some []))
theorem leaves_marks {F : Fence} {n : Nat} {P : Program} {fn : Func} {tmps : Array Value} {R : Ending → World → Prop} : ∀ (Ds : List Nat) (w : World), Marked w Ds →
    (∀ w', w'.os = w.os → w'.tape = w.tape → w'.output = w.output → w'.heap.size = w.heap.size → (∀ k, k ∉ Ds → w'.heap[k]? = w.heap[k]?) → LeavesInM F n P fn tmps R [] .returning w') → LeavesInM F n P fn tmps R (marks Ds) .returning w
  | [], w, _, h => h w rfl rfl rfl rfl (fun _ _ => rfl)
  | D :: Ds, w, ⟨hn, hD⟩, h => by
    rw [List.nodup_cons] at hn
    refine ⟨by simp, .inl ⟨D, _, rfl, run_takeDeferred (hD D (by simp)), ?_⟩⟩
    refine leaves_marks Ds _ ⟨hn.2, fun E hE => ?_⟩ (fun w' h1 h2 h3 h4 h5 => ?_)
    · rw [World.putObj_heap_other (fun e => hn.1 (by rw [← e]; exact hE))]
      exact hD E (by simp [hE])
    · refine h w' h1 h2 h3 (by rw [h4]; simp [World.putObj]) (fun k hk => ?_)
      simp at hk
      rw [h5 k hk.2, World.putObj_heap_other hk.1]

end Go.Proofs.Ytdgnlpafmkhdjah

/-
  A list of numbers that is answered, in new memory.
-/
set_option linter.unusedVariables false
set_option linter.unusedSimpArgs false
namespace Go.Proofs.Ytdgnlpafmkhdjah
open Go.RowKit

/-- A list that is answered: of the call's own. -/
def Ans (w w' : World) (e : Ending) (m : Nat) (D : Nat → Int) : Prop := ∃ ao cap, e = .returned (.slice ao m cap) ∧ (0 < m → ∃ g, ao = some ⟨g, 0, none⟩ ∧ w.heap.size ≤ g ∧ IHas w' g m D) ∧ Below w.heap.size w w'

theorem ans_of {w w' : World} {e : Ending} {m m' : Nat} {D : Nat → Int} (h : m = m') (H : Ans w w' e m' D) : Ans w w' e m D := by rw [h]; exact H

end Go.Proofs.Ytdgnlpafmkhdjah

/-
  Ranks, the document's: which lists have each number once, and each number's place. For every list of at most 2^20 numbers.
-/
set_option linter.unusedVariables false
set_option linter.unusedSimpArgs false
namespace Go.Proofs.Ytdgnlpafmkhdjah
open Go.RowKit
attribute [local go_sem ↓] Go.wp_at_zero Go.wp_at_succ

set_option maxHeartbeats 1000000 in
theorem l3Each_any (ao : Option Addr) (n cap : Nat) (P : Nat → Int) (hn : n ≤ 1048576) (w : World) (hr : IRow w ao n P) :
    Calls Try.prog 76 #[.slice ao n cap] w fun e w' => e = .returned (.bool (okR n P)) ∧ Below w.heap.size w w' := by
  by_cases h1 : n < 1
  · have h1' : (n : Int) < 1 := by omega
    go_enter Try.func76, Try.ntmps76
    go_wp2
    go_ret
    exact ⟨ret_bool (by simp [okR]; omega), Below.refl _ _⟩
  have h1' : ¬ (n : Int) < 1 := by omega
  by_cases h2 : 24 < n
  · have h2' : 24 < (n : Int) := by omega
    go_enter Try.func76, Try.ntmps76
    go_wp2
    go_ret
    exact ⟨ret_bool (by simp [okR]; omega), Below.refl _ _⟩
  have h2' : ¬ 24 < (n : Int) := by omega
  have hmk := make_bools n hn
  go_enter Try.func76, Try.ntmps76
  go_wp2
  clear hmk
  go_loopw [5] (fun i wr => ∃ k : Nat, k ≤ n ∧ i = .int .i64 k ∧ eachB n P k = true ∧ BHas wr w.heap.size n (sn P k) ∧ Below w.heap.size w wr) (fun i _ => n - (intOf i).toNat)
  case atStart => exact ⟨0, Nat.zero_le _, rfl, rfl, (made_bools w n).same (fun j _ => by simp [sn]), (Below.refl _ _).alloc (Nat.le_refl _) _⟩
  case round =>
    obtain ⟨k, hk, rfl, hea, hown, hbel⟩ := hrel
    have HE : Hid (eachB n P k = true) := hea
    clear hea
    by_cases hlt : k < n
    rotate_left
    · have hkn : k = n := by omega
      subst hkn
      go_wp2
      go_ret
      exact ⟨ret_bool (by simp [okR, HE.out]; omega), hbel⟩
    obtain ⟨b, o, hao, c0⟩ := (hr.below hbel (Nat.le_refl _)) k hlt
    subst hao
    rcases Bool.eq_false_or_eq_true (inB (P k) 0 ((n : Int) - 1)) with hi | hi
    rotate_left
    · have HN : Hid (eachB n P (k + 1) = false) := by show eachB n P (k + 1) = false; simp [eachB, hi]
      go_wp2_with (go_at_call 46; refine (l1In_any _ _ _ _).mono ?_; rintro e w1 ⟨rfl, rfl⟩)
      go_ret
      exact ⟨ret_bool (by simp [okR, eachB_no HN.out hlt]), hbel⟩
    have hq0 : 0 ≤ P k ∧ P k ≤ (n : Int) - 1 := by simpa [inB] using hi
    obtain ⟨q, hq⟩ : ∃ q : Nat, P k = (q : Int) := ⟨(P k).toNat, by omega⟩
    have hS : Hid (∀ j, sn P (k + 1) j = if j = q then true else sn P k j) := sn_at hq
    have hE : Hid (eachB n P (k + 1) = !sn P k q) := eachB_at HE.out hq hi
    rw [hq] at c0 hi hq0
    clear hq
    have hqn : q < n := by omega
    have d0 := VHas.cell hown hqn
    have z0 := VHas.frozen hown q
    have R := hown.put q true
    have S := hbel.setCell (p := ⟨w.heap.size, q, none⟩) (Nat.le_refl _) (.bool true)
    have hqn' : (q : Int) < (n : Int) := by omega
    rcases Bool.eq_false_or_eq_true (sn P k q) with hs | hs
    · rw [hs] at d0
      go_wp2_with (go_at_call 46; refine (l1In_any _ _ _ _).mono ?_; rintro e w1 ⟨rfl, rfl⟩)
      go_ret
      exact ⟨ret_bool (by simp [okR, eachB_no (by rw [hE.out, hs]; rfl) hlt]), hbel⟩
    · rw [hs] at d0
      clear hown
      go_wp2_with (go_at_call 46; refine (l1In_any _ _ _ _).mono ?_; rintro e w1 ⟨rfl, rfl⟩)
      go_roundw
      case rel => exact ⟨k + 1, by omega, by go_num, by rw [hE.out, hs]; rfl, R.same (fun j _ => (hS.out j).symm), S⟩
      case measure => simp [intOf]; omega
set_option maxHeartbeats 1000000 in
theorem l3Ranks_any (ao : Option Addr) (n cap : Nat) (P : Nat → Int) (h24 : n ≤ 24) (he : eachB n P n = true) (w : World) (hr : IRow w ao n P) :
    Calls Try.prog 77 #[.slice ao n cap] w fun e w' => e = .returned (.slice (some ⟨w.heap.size, 0, none⟩) n n) ∧ IHas w' w.heap.size n (rk P 0 n) ∧ Below w.heap.size w w' := by
  have HE : Hid (eachB n P n = true) := he
  clear he
  have hmk := make_ints n (by omega)
  go_enter Try.func77, Try.ntmps77
  go_wp2
  clear hmk
  go_loopw [4] (fun i wr => ∃ k : Nat, k ≤ n ∧ i = .int .i64 k ∧ IHas wr w.heap.size n (rk P 0 k) ∧ Below w.heap.size w wr) (fun i _ => n - (intOf i).toNat)
  case atStart => exact ⟨0, Nat.zero_le _, rfl, (made_ints w n).congr (fun j _ => by simp [rk]), (Below.refl _ _).alloc (Nat.le_refl _) _⟩
  case round =>
    obtain ⟨k, hk, rfl, hown, hbel⟩ := hrel
    by_cases hlt : k < n
    rotate_left
    · have hkn : k = n := by omega
      subst hkn
      go_wp2
      go_ret
      exact ⟨rfl, hown, hbel⟩
    obtain ⟨b, o, hao, c0⟩ := (hr.below hbel (Nat.le_refl _)) k hlt
    subst hao
    have hi : inB (P k) 0 ((n : Int) - 1) = true := by
      have := eachB_le n HE.out (k + 1) (by omega)
      simp [eachB] at this
      exact this.2.1
    have hq0 : 0 ≤ P k ∧ P k ≤ (n : Int) - 1 := by simpa [inB] using hi
    clear hi
    obtain ⟨q, hq⟩ : ∃ q : Nat, P k = (q : Int) := ⟨(P k).toNat, by omega⟩
    have hS : Hid (∀ j, rk P 0 (k + 1) j = if j = q then (k : Int) else rk P 0 k j) := rk_at hq
    rw [hq] at c0 hq0
    clear hq
    have hqn : q < n := by omega
    have d0 := hown.cell hqn
    have z0 := hown.frozen q
    have R := hown.set q (k : Int)
    have S := hbel.setCell (p := ⟨w.heap.size, q, none⟩) (Nat.le_refl _) (.int .i64 (k : Int))
    have hqn' : (q : Int) < (n : Int) := by omega
    clear hown
    go_wp2
    go_roundw
    case rel => exact ⟨k + 1, by omega, by go_num, R.congr (fun j _ => (hS.out j).symm), S⟩
    case measure => simp [intOf]; omega

end Go.Proofs.Ytdgnlpafmkhdjah

/-
  OrderOk, the document's, at every map and every list.
-/
set_option linter.unusedVariables false
set_option linter.unusedSimpArgs false
namespace Go.Proofs.Ytdgnlpafmkhdjah
open Go.RowKit
attribute [local go_sem ↓] Go.wp_at_zero Go.wp_at_succ

def ordB (p : Int) (n : Nat) (F T G : Nat → Int) (m : Nat) (P : Nat → Int) : Bool := graphB p n F T G && ((m : Int) == p && okR m P)
set_option maxHeartbeats 1000000 in
theorem specOrderOk_any (p : Int) (ao : Option Addr) (n cap : Nat) (F T G : Nat → Int) (po : Option Addr) (m pcap : Nat) (P : Nat → Int) (hn : n ≤ 1048576) (hm : m ≤ 1048576) (w : World) (hr : Row w ao n F T G) (hp : IRow w po m P) :
    Calls Try.prog 107 #[.agg #[.int .i64 p, .slice ao n cap], .slice po m pcap] w fun e w' => e = .returned (.bool (ordB p n F T G m P)) ∧ Below w.heap.size w w' := by
  rcases Bool.eq_false_or_eq_true (graphB p n F T G) with h | h
  rotate_left
  · go_enter Try.func107, Try.ntmps107
    go_wp2_with (go_at_call 89; refine (specGraphOk_any p ao n cap F T G hn _ (hr.alloc _)).mono ?_; rintro e w1 ⟨rfl, hb1⟩)
    go_ret
    exact ⟨ret_bool (by simp [ordB, h]), unbox hb1 (by simp)⟩
  rcases Bool.eq_false_or_eq_true ((m : Int) == p) with h2 | h2
  rotate_left
  · go_enter Try.func107, Try.ntmps107
    go_wp2_with (go_at_call 89; refine (specGraphOk_any p ao n cap F T G hn _ (hr.alloc _)).mono ?_; rintro e w1 ⟨rfl, hb1⟩; obtain ⟨hc, hf⟩ := bcell hb1)
    go_ret
    exact ⟨ret_bool (by simp only [ordB, h, h2]; rfl), unbox hb1 (by simp)⟩
  go_enter Try.func107, Try.ntmps107
  go_wp2_with (first | (go_at_call 89; refine (specGraphOk_any p ao n cap F T G hn _ (hr.alloc _)).mono ?_; rintro e w1 ⟨rfl, hb1⟩; obtain ⟨hc, hf⟩ := bcell hb1) | (go_at_call 76; refine (l3Each_any po m pcap P hm _ ((hp.alloc _).below hb1 (Nat.le_refl _))).mono ?_; rintro e w2 ⟨rfl, hb2⟩))
  go_ret
  exact ⟨ret_bool (by simp only [ordB, h, h2]; rfl), unbox (below_next hb1 (Nat.le_refl _) hb2) (by simp)⟩

end Go.Proofs.Ytdgnlpafmkhdjah

/-
  Ranks, the program's: the same list, in new memory. For every list of at most 2^20 numbers.
-/
set_option linter.unusedVariables false
set_option linter.unusedSimpArgs false
namespace Go.Proofs.Ytdgnlpafmkhdjah
open Go.RowKit
attribute [local go_sem ↓] Go.wp_at_zero Go.wp_at_succ

set_option maxHeartbeats 1000000 in
theorem implRanks_any (ao : Option Addr) (n cap : Nat) (P : Nat → Int) (hn : n ≤ 1048576) (w : World) (hr : IRow w ao n P) :
    Calls Try.prog 78 #[.slice ao n cap] w fun e w' => Ans w w' e (lenR n P) (rk P (-1) n) := by
  by_cases h2 : 24 < n
  · have h2' : 24 < (n : Int) := by omega
    have hL : lenR n P = 0 := by
      have : ¬ n ≤ 24 := by omega
      simp [lenR, okR, this]
    rw [hL]
    go_enter Try.func78, Try.ntmps78
    go_wp2
    go_ret
    exact ⟨_, _, rfl, fun h => by omega, (Below.refl _ _).alloc (Nat.le_refl _) _⟩
  have h2' : ¬ 24 < (n : Int) := by omega
  have hmk := make_ints n hn
  go_enter Try.func78, Try.ntmps78
  go_wp2
  clear hmk
  go_loopw [16] (fun i wr => ∃ k : Nat, k ≤ n ∧ i = .int .i64 k ∧ IHas wr w.heap.size n (fun j => if j < k then -1 else 0) ∧ Below w.heap.size w wr) (fun i _ => n - (intOf i).toNat)
  case atStart => exact ⟨0, Nat.zero_le _, rfl, (made_ints w n).congr (fun j _ => by simp), (Below.refl _ _).alloc (Nat.le_refl _) _⟩
  case round =>
    obtain ⟨k, hk, rfl, hown, hbel⟩ := hrel
    by_cases hlt : k < n
    · have d0 := hown.cell hlt
      have z0 := hown.frozen k
      have R := hown.set k (-1)
      have S := hbel.setCell (p := ⟨w.heap.size, k, none⟩) (Nat.le_refl _) (.int .i64 (-1))
      clear hown
      go_wp2
      go_roundw
      case rel =>
        refine ⟨k + 1, by omega, by go_num, R.congr (fun j hj => ?_), S⟩
        by_cases e : j = k
        · subst e; simp
        · simp only [if_neg e]
          by_cases hl : j < k
          · rw [if_pos hl, if_pos (by omega)]
          · rw [if_neg hl, if_neg (by omega)]
      case measure => simp [intOf]; omega
    have hkn : k = n := by omega
    subst hkn
    have hown0 := hown.congr (g := rk P (-1) 0) (fun j hj => by simp [rk, hj])
    clear hown
    go_wp2
    go_loopw [25] (fun i wq => ∃ m : Nat, m ≤ k ∧ i = .int .i64 m ∧ eachB k P m = true ∧ IHas wq w.heap.size k (rk P (-1) m) ∧ Below w.heap.size w wq) (fun i _ => k - (intOf i).toNat)
    case atStart => exact ⟨0, Nat.zero_le _, rfl, rfl, hown0, hbel⟩
    case round =>
      clear hown0 hbel
      obtain ⟨m, hm, rfl, hea, hown, hbel⟩ := hrel
      have HE : Hid (eachB k P m = true) := hea
      clear hea
      by_cases hlt : m < k
      rotate_left
      · have hmk : m = k := by omega
        subst hmk
        have HL : Hid (lenR m P = m) := by
          show lenR m P = m
          by_cases h0 : m = 0
          · subst h0; simp [lenR]
          · have h1 : 1 ≤ m := by omega
            have h24 : m ≤ 24 := by omega
            simp [lenR, okR, HE.out, h1, h24]
        go_wp2
        go_ret
        exact ans_of HL.out ⟨_, _, rfl, fun _ => ⟨_, rfl, Nat.le_refl _, hown⟩, hbel⟩
      obtain ⟨b, o, hao, c0⟩ := (hr.below hbel (Nat.le_refl _)) m hlt
      subst hao
      have hm0 : (0 : Int) ≤ (m : Int) := by omega
      have hmk : (m : Int) < (k : Int) := by omega
      rcases Bool.eq_false_or_eq_true (inB (P m) 0 ((k : Int) - 1)) with hi | hi
      rotate_left
      · have HL : Hid (lenR k P = 0) := by
          show lenR k P = 0
          have : eachB k P k = false := eachB_no (k := m) (by simp [eachB, hi]) hlt
          simp [lenR, okR, this]
        go_wp2_with (go_at_call 79; refine (placeOk_any _ _ _).mono ?_; rintro e w1 ⟨rfl, rfl⟩)
        go_ret
        exact ans_of HL.out ⟨_, _, rfl, fun h => by omega, hbel.alloc hbel.size _⟩
      have hq0 : 0 ≤ P m ∧ P m ≤ (k : Int) - 1 := by simpa [inB] using hi
      obtain ⟨q, hq⟩ : ∃ q : Nat, P m = (q : Int) := ⟨(P m).toNat, by omega⟩
      have hS : Hid (∀ j, rk P (-1) (m + 1) j = if j = q then (m : Int) else rk P (-1) m j) := rk_at hq
      have hE : Hid (eachB k P (m + 1) = !sn P m q) := eachB_at HE.out hq hi
      rw [hq] at c0 hi hq0
      clear hq
      have hqn : q < k := by omega
      have d0 := hown.cell hqn
      have z0 := hown.frozen q
      have R := hown.set q (m : Int)
      have S := hbel.setCell (p := ⟨w.heap.size, q, none⟩) (Nat.le_refl _) (.int .i64 (m : Int))
      have hqn' : (q : Int) < (k : Int) := by omega
      have hrs := rk_sn P m q
      rcases Bool.eq_false_or_eq_true (sn P m q) with hs | hs
      · have hge : 0 ≤ rk P (-1) m q := hrs.1 hs
        clear hrs
        have HL : Hid (lenR k P = 0) := by
          show lenR k P = 0
          have : eachB k P k = false := eachB_no (k := m) (by rw [hE.out, hs]; rfl) hlt
          simp [lenR, okR, this]
        go_wp2_with (go_at_call 79; refine (placeOk_any _ _ _).mono ?_; rintro e w1 ⟨rfl, rfl⟩)
        go_ret
        exact ans_of HL.out ⟨_, _, rfl, fun h => by omega, hbel.alloc hbel.size _⟩
      · have hge : ¬ 0 ≤ rk P (-1) m q := fun h => by rw [hrs.2 h] at hs; cases hs
        clear hrs hown
        go_wp2_with (go_at_call 79; refine (placeOk_any _ _ _).mono ?_; rintro e w1 ⟨rfl, rfl⟩)
        go_roundw
        case rel => exact ⟨m + 1, by omega, by go_num, by rw [hE.out, hs]; rfl, R.congr (fun j _ => (hS.out j).symm), S⟩
        case measure => simp [intOf]; omega

end Go.Proofs.Ytdgnlpafmkhdjah

/-
  OrderOk, the document's and the program's, at every map and every list of at most 2^20 numbers.
-/
set_option linter.unusedVariables false
set_option linter.unusedSimpArgs false
namespace Go.Proofs.Ytdgnlpafmkhdjah
open Go.RowKit
attribute [local go_sem ↓] Go.wp_at_zero Go.wp_at_succ

set_option maxHeartbeats 1000000 in
theorem implOrderOk_any (p : Int) (ao : Option Addr) (n cap : Nat) (F T G : Nat → Int) (po : Option Addr) (m pcap : Nat) (P : Nat → Int) (hn : n ≤ 1048576) (hm : m ≤ 1048576) (w : World) (hr : Row w ao n F T G) (hp : IRow w po m P) :
    Calls Try.prog 98 #[.agg #[.int .i64 p, .slice ao n cap], .slice po m pcap] w fun e w' => e = .returned (.bool (ordB p n F T G m P)) ∧ Below w.heap.size w w' := by
  rcases Bool.eq_false_or_eq_true (graphB p n F T G) with h | h
  rotate_left
  · go_enter Try.func98, Try.ntmps98
    go_wp2_with (go_at_call 94; refine (implGraphOk_any p ao n cap F T G hn _ (hr.alloc _)).mono ?_; rintro e w1 ⟨rfl, hb1⟩)
    go_ret
    exact ⟨ret_bool (by simp [ordB, h]), unbox hb1 (by simp)⟩
  rcases Bool.eq_false_or_eq_true ((m : Int) == p) with h2 | h2
  rotate_left
  · go_enter Try.func98, Try.ntmps98
    go_wp2_with (go_at_call 94; refine (implGraphOk_any p ao n cap F T G hn _ (hr.alloc _)).mono ?_; rintro e w1 ⟨rfl, hb1⟩; obtain ⟨hc, hf⟩ := bcell hb1)
    go_ret
    exact ⟨ret_bool (by simp only [ordB, h, h2]; rfl), unbox hb1 (by simp)⟩
  have hL : ((lenR m P : Int) == (m : Int)) = okR m P := by
    have hp1 : 1 ≤ p ∧ p ≤ 24 := by
      simp [graphB, inB] at h
      omega
    have hmp : (m : Int) = p := by simpa using h2
    unfold lenR
    cases hk : okR m P
    · rw [Bool.eq_false_iff]; simp; omega
    · simp
  have HL : Hid (((lenR m P : Int) == (m : Int)) = okR m P) := hL
  clear hL
  go_enter Try.func98, Try.ntmps98
  go_wp2_with (first | (go_at_call 94; refine (implGraphOk_any p ao n cap F T G hn _ (hr.alloc _)).mono ?_; rintro e w1 ⟨rfl, hb1⟩; obtain ⟨hc, hf⟩ := bcell hb1) | (go_at_call 78; refine (implRanks_any po m pcap P hm _ ((hp.alloc _).below hb1 (Nat.le_refl _))).mono ?_; rintro e w2 ⟨aoR, capR, rfl, _, hb2⟩))
  go_ret
  exact ⟨ret_bool (by rw [HL.out]; simp only [ordB, h, h2]; rfl), unbox (below_next hb1 (Nat.le_refl _) hb2) (by simp)⟩

end Go.Proofs.Ytdgnlpafmkhdjah

/-
  A place being taken away by the program, the plain part: which pairs are joined while its neighbours go one by one.
-/
set_option linter.unusedVariables false
set_option linter.unusedSimpArgs false
namespace Go.Proofs.Ytdgnlpafmkhdjah

/-- Nobody beyond the places. -/
def Within (p : Nat) (B : Nat → Nat → Bool) : Prop := ∀ x y, B x y = true → x < p ∧ y < p
theorem within_nbA {F T : Nat → Int} {p : Nat} : ∀ n, (∀ k, k < n → (F k).toNat < p ∧ (T k).toNat < p) → Within p (nbA F T n)
  | 0, _, x, y, h => by simp [nbA] at h
  | n + 1, hk, x, y, h => by
    have h' : upd2 (nbA F T n) (F n).toNat (T n).toNat true x y = true := h
    rw [upd2_at] at h'
    have := hk n (by omega)
    by_cases e : (x = (F n).toNat ∧ y = (T n).toNat) ∨ (x = (T n).toNat ∧ y = (F n).toNat)
    · omega
    · rw [if_neg e] at h'
      exact within_nbA n (fun k hk' => hk k (by omega)) x y h'
theorem within_tk {p : Nat} {B : Nat → Nat → Bool} (h : Within p B) (a : Nat) : Within p (tk B a) := fun x y hx => by
  unfold tk at hx
  split at hx
  · cases hx
  · simp at hx
    rcases hx with hx | ⟨h1, h2, _⟩
    · exact h x y hx
    · exact ⟨(h a x h1).2, (h a y h2).2⟩
theorem within_run3 {p : Nat} {B : Nat → Nat → Bool} (h : Within p B) : ∀ k, Within p (run3 p B k).1
  | 0 => h
  | k + 1 => within_tk (within_run3 h k) _

/-- Those in the list are parted from a and joined with all its neighbours. -/
def stI (B : Nat → Nat → Bool) (a : Nat) (pre : List Nat) : Nat → Nat → Bool := fun x y =>
  if x = a then B a y && !pre.contains y else if y = a then B a x && !pre.contains x
  else B x y || (x != y && (B a x && (B a y && (pre.contains x || pre.contains y))))
/-- Besides, q is parted from a and joined with those of the second list. -/
def stJ (B : Nat → Nat → Bool) (a : Nat) (pre : List Nat) (q : Nat) (pre' : List Nat) : Nat → Nat → Bool := fun x y =>
  if x = a then B a y && !(pre ++ [q]).contains y else if y = a then B a x && !(pre ++ [q]).contains x
  else B x y || ((x != y && (B a x && (B a y && (pre.contains x || pre.contains y)))) || ((x == q && pre'.contains y) || (y == q && pre'.contains x)))
theorem contains_snoc (l : List Nat) (q x : Nat) : (l ++ [q]).contains x = (l.contains x || x == q) := by
  rw [Bool.eq_iff_iff]
  simp
theorem stI_row (B : Nat → Nat → Bool) (a : Nat) (pre : List Nat) : stI B a pre a = fun j => B a j && !pre.contains j := by
  funext j; unfold stI; rw [if_pos rfl]
theorem stJ_row (B : Nat → Nat → Bool) (a : Nat) (pre : List Nat) (q : Nat) (pre' : List Nat) : stJ B a pre q pre' a = fun j => B a j && !(pre ++ [q]).contains j := by
  funext j; unfold stJ; rw [if_pos rfl]
theorem stI_start {B : Nat → Nat → Bool} (hB : Fair B) (a x y : Nat) : stI B a [] x y = B x y := by
  unfold stI
  by_cases h1 : x = a
  · subst h1; simp
  · rw [if_neg h1]
    by_cases h2 : y = a
    · subst h2; simp [hB.1 x y]
    · rw [if_neg h2]; simp
theorem stI_part (B : Nat → Nat → Bool) {a q : Nat} (pre : List Nat) (hq : q ≠ a) (x y : Nat) : upd2 (stI B a pre) a q false x y = stJ B a pre q [] x y := by
  rw [upd2_at]
  unfold stI stJ
  rw [contains_snoc, contains_snoc]
  by_cases h1 : x = a
  · rw [if_pos h1, if_pos h1]
    by_cases h2 : y = q
    · subst h2; rw [if_pos (Or.inl ⟨h1, rfl⟩)]; simp
    · rw [if_neg (by omega)]
      have : (y == q) = false := by simpa using h2
      rw [this]; simp
  · rw [if_neg h1, if_neg h1]
    by_cases h2 : y = a
    · rw [if_pos h2, if_pos h2]
      by_cases h3 : x = q
      · subst h3; rw [if_pos (Or.inr ⟨rfl, h2⟩)]; simp
      · rw [if_neg (by omega)]
        have : (x == q) = false := by simpa using h3
        rw [this]; simp
    · rw [if_neg (by omega), if_neg h2, if_neg h2]; simp
theorem stJ_join (B : Nat → Nat → Bool) {a q b : Nat} (pre pre' : List Nat) (hq : q ≠ a) (hb : b ≠ a) (x y : Nat) : upd2 (stJ B a pre q pre') q b true x y = stJ B a pre q (pre' ++ [b]) x y := by
  rw [upd2_at]
  by_cases e : (x = q ∧ y = b) ∨ (x = b ∧ y = q)
  · rw [if_pos e]
    unfold stJ
    rw [if_neg (by omega), if_neg (by omega), contains_snoc, contains_snoc]
    rcases e with ⟨rfl, rfl⟩ | ⟨rfl, rfl⟩ <;> simp
  · rw [if_neg e]
    unfold stJ
    rw [contains_snoc pre', contains_snoc pre']
    by_cases h1 : x = a
    · rw [if_pos h1, if_pos h1]
    · rw [if_neg h1, if_neg h1]
      by_cases h2 : y = a
      · rw [if_pos h2, if_pos h2]
      · rw [if_neg h2, if_neg h2]
        have e1 : (x == q && (pre'.contains y || y == b)) = (x == q && pre'.contains y) := by
          by_cases hx : x = q
          · have hy : y ≠ b := fun h => e (Or.inl ⟨hx, h⟩)
            have : (y == b) = false := by simpa using hy
            rw [this]; simp
          · have : (x == q) = false := by simpa using hx
            rw [this]; simp
        have e2 : (y == q && (pre'.contains x || x == b)) = (y == q && pre'.contains x) := by
          by_cases hy : y = q
          · have hx : x ≠ b := fun h => e (Or.inr ⟨h, hy⟩)
            have : (x == b) = false := by simpa using hx
            rw [this]; simp
          · have : (y == q) = false := by simpa using hy
            rw [this]; simp
        rw [e1, e2]
theorem visF_contains (f : Nat → Bool) (p x : Nat) : (visF f p).contains x = (decide (x < p) && f x) := by
  rw [Bool.eq_iff_iff]
  simp [visF_mem]
theorem stJ_end {B : Nat → Nat → Bool} {p a q : Nat} {pre : List Nat} (hW : Within p B) (hq : B a q = true) (x y : Nat) : stJ B a pre q (visF (fun j => B a j && !(pre ++ [q]).contains j) p) x y = stI B a (pre ++ [q]) x y := by
  unfold stI stJ
  rw [visF_contains, visF_contains, contains_snoc, contains_snoc]
  by_cases h1 : x = a
  · rw [if_pos h1, if_pos h1]
  · rw [if_neg h1, if_neg h1]
    by_cases h2 : y = a
    · rw [if_pos h2, if_pos h2]
    · rw [if_neg h2, if_neg h2]
      have wx : B a x = true → decide (x < p) = true := fun h => by simpa using (hW a x h).2
      have wy : B a y = true → decide (y < p) = true := fun h => by simpa using (hW a y h).2
      congr 1
      by_cases hx : x = q
      · by_cases hy : y = q
        · subst hx hy; simp
        · have e1 : (x == q) = true := by simpa using hx
          have e2 : (y == q) = false := by simpa using hy
          have e3 : (x != y) = true := by simp; omega
          have e4 : B a x = true := by rw [hx]; exact hq
          rw [e1, e2, e3, e4]
          cases hby : B a y
          · simp
          · rw [wy hby]
            cases pre.contains y <;> simp
      · by_cases hy : y = q
        · have e1 : (x == q) = false := by simpa using hx
          have e2 : (y == q) = true := by simpa using hy
          have e3 : (x != y) = true := by simp; omega
          have e4 : B a y = true := by rw [hy]; exact hq
          rw [e1, e2, e3, e4]
          cases hbx : B a x
          · simp
          · rw [wx hbx]
            cases pre.contains x <;> simp
        · have e1 : (x == q) = false := by simpa using hx
          have e2 : (y == q) = false := by simpa using hy
          rw [e1, e2]; simp
theorem stI_end {B : Nat → Nat → Bool} {p a : Nat} (hW : Within p B) (x y : Nat) : stI B a (visF (B a) p) x y = tk B a x y := by
  unfold stI tk
  rw [visF_contains, visF_contains]
  have wx : (decide (x < p) && B a x) = B a x := by
    cases h : B a x
    · simp
    · have := (hW a x h).2
      simp [this]
  have wy : (decide (y < p) && B a y) = B a y := by
    cases h : B a y
    · simp
    · have := (hW a y h).2
      simp [this]
  rw [wx, wy]
  by_cases h1 : x = a
  · rw [if_pos h1, if_pos (Or.inl h1)]; simp
  · rw [if_neg h1]
    by_cases h2 : y = a
    · rw [if_pos h2, if_pos (Or.inr h2)]; simp
    · rw [if_neg h2, if_neg (fun h => by rcases h with h | h; exact h1 h; exact h2 h)]
      congr 1
      cases B a x <;> cases B a y <;> simp
/-- What comes while those that came are struck out is what would have come. -/
theorem vis_struck (f : Nat → Bool) : ∀ k, vis (fun pre j => f j && !pre.contains j) k = visF f k
  | 0 => rfl
  | k + 1 => by
    have ih := vis_struck f k
    have hb : (f k && !(visF f k).contains k) = f k := by
      rw [visF_contains]; simp
    show (if f k && !(vis (fun pre j => f j && !pre.contains j) k).contains k then vis (fun pre j => f j && !pre.contains j) k ++ [k] else vis (fun pre j => f j && !pre.contains j) k) = (if f k then visF f k ++ [k] else visF f k)
    rw [ih, hb]

end Go.Proofs.Ytdgnlpafmkhdjah

/-
  The fill, the plain part: the squares while places are taken away in an order, the edges in their order, the edges as they come, and that a sorted list of the ones is the other.
-/
set_option linter.unusedVariables false
set_option linter.unusedSimpArgs false
namespace Go.Proofs.Ytdgnlpafmkhdjah

theorem sn_mem {P : Nat → Int} : ∀ k q, sn P k q = true ↔ ∃ j, j < k ∧ P j = (q : Int)
  | 0, q => by simp [sn]
  | k + 1, q => by
    rw [sn_succ, Bool.or_eq_true, sn_mem k q, beq_iff_eq]
    constructor
    · rintro (h | ⟨j, h1, h2⟩)
      · exact ⟨k, by omega, h⟩
      · exact ⟨j, by omega, h2⟩
    · rintro ⟨j, h1, h2⟩
      by_cases e : j = k
      · subst e; exact Or.inl h2
      · exact Or.inr ⟨j, by omega, h2⟩
theorem each_in {m : Nat} {P : Nat → Int} : ∀ n, eachB m P n = true → ∀ k, k < n → (0 ≤ P k ∧ P k < (m : Int)) ∧ sn P k (P k).toNat = false
  | 0, _, k, hk => by omega
  | n + 1, h, k, hk => by
    simp only [eachB, Bool.and_eq_true] at h
    by_cases e : k = n
    · subst e
      have h1 : 0 ≤ P k ∧ P k ≤ (m : Int) - 1 := by simpa [inB] using h.2.1
      exact ⟨by omega, by simpa using h.2.2⟩
    · exact each_in n h.1 k (by omega)
theorem each_inj {m n : Nat} {P : Nat → Int} (h : eachB m P n = true) {i j : Nat} (hi : i < n) (hj : j < n) (e : P i = P j) : i = j := by
  have key : ∀ a b, a < b → b < n → P a ≠ P b := fun a b hab hb e => by
    have h1 := each_in n h b hb
    have : sn P b (P b).toNat = true := (sn_mem b _).2 ⟨a, hab, by omega⟩
    rw [h1.2] at this; cases this
  rcases Nat.lt_trichotomy i j with hl | hl | hl
  · exact absurd e (key i j hl hj)
  · exact hl
  · exact absurd e.symm (key j i hl hi)
theorem rk_is {m : Nat} {P : Nat → Int} (z : Int) : ∀ n, eachB m P n = true → ∀ h, h < n → rk P z n (P h).toNat = (h : Int)
  | 0, _, h, hh => by omega
  | n + 1, he, h, hh => by
    have h0 := each_in (n + 1) he h hh
    show (if P n = (((P h).toNat : Nat) : Int) then (n : Int) else rk P z n (P h).toNat) = (h : Int)
    by_cases e : h = n
    · subst e; rw [if_pos (by omega)]
    · rw [if_neg (fun x => e (each_inj he hh (Nat.lt_succ_self n) (by omega)))]
      simp only [eachB, Bool.and_eq_true] at he
      exact rk_is z n he.1 h (by omega)
/-- Each place has its rank. -/
theorem rk_of {n : Nat} {P : Nat → Int} (h : eachB n P n = true) (z : Int) {q : Nat} (hq : q < n) : ∃ k, k < n ∧ P k = (q : Int) ∧ rk P z n q = (k : Int) := by
  obtain ⟨k, hk, e⟩ := (sn_mem n q).1 (each_all h q hq)
  refine ⟨k, hk, e, ?_⟩
  have := rk_is z n h k hk
  rw [e] at this
  simpa using this

/-- The square when k places have been taken away. -/
def sqO (B : Nat → Nat → Bool) (P : Nat → Int) : Nat → Nat → Nat → Bool
  | 0 => B
  | k + 1 => tk (sqO B P k) (P k).toNat
theorem sqO_fair {B : Nat → Nat → Bool} (h : Fair B) (P : Nat → Int) : ∀ k, Fair (sqO B P k)
  | 0 => h
  | k + 1 => fair_tk (sqO_fair h P k) _
theorem sqO_within {p : Nat} {B : Nat → Nat → Bool} (h : Within p B) (P : Nat → Int) : ∀ k, Within p (sqO B P k)
  | 0 => h
  | k + 1 => within_tk (sqO_within h P k) _
theorem sqO_gone {B : Nat → Nat → Bool} (hB : Fair B) (P : Nat → Int) : ∀ k j, j < k → ∀ y, sqO B P k (P j).toNat y = false
  | 0, j, hj, y => by omega
  | k + 1, j, hj, y => by
    show tk (sqO B P k) (P k).toNat (P j).toNat y = false
    unfold tk
    by_cases e : j = k
    · subst e; rw [if_pos (Or.inl rfl)]
    · have h1 := sqO_gone hB P k j (by omega)
      split
      · rfl
      · rw [h1 y, (sqO_fair hB P k).1, h1]; rfl

abbrev Pr : Type := Int × Int
def lt2 (a b : Pr) : Prop := upB a.1 a.2 b.1 b.2 = true
theorem lt2_iff (a b : Pr) : lt2 a b ↔ a.1 < b.1 ∨ (a.1 = b.1 ∧ a.2 < b.2) := by
  unfold lt2 upB; simp
theorem lt2_irr (a : Pr) : ¬ lt2 a a := by rw [lt2_iff]; omega
theorem lt2_trans {a b c : Pr} (h1 : lt2 a b) (h2 : lt2 b c) : lt2 a c := by rw [lt2_iff] at *; omega
theorem lt2_tot {a b : Pr} (h1 : ¬ lt2 a b) (h2 : ¬ lt2 b a) : a = b := by
  rw [lt2_iff] at *
  have h3 : a.1 = b.1 := by omega
  have h4 : a.2 = b.2 := by omega
  exact Prod.ext h3 h4
theorem le2_trans {a b c : Pr} (h1 : ¬ lt2 b a) (h2 : ¬ lt2 c b) : ¬ lt2 c a := by rw [lt2_iff] at *; omega
/-- In their order. -/
def Srt (l : List Pr) : Prop := l.Pairwise (fun a b => ¬ lt2 b a)
theorem srt_unique : ∀ (l1 l2 : List Pr), l1.Pairwise lt2 → Srt l2 → l2.Nodup → (∀ x, x ∈ l1 ↔ x ∈ l2) → l1 = l2
  | [], l2, _, _, _, h => by
    cases l2 with
    | nil => rfl
    | cons b bs => exact absurd ((h b).2 (by simp)) (by simp)
  | a :: xs, [], _, _, _, h => absurd ((h a).1 (by simp)) (by simp)
  | a :: xs, b :: bs, h1, h2, h3, h => by
    rw [List.pairwise_cons] at h1
    unfold Srt at h2
    rw [List.pairwise_cons] at h2
    rw [List.nodup_cons] at h3
    have hab : a = b := by
      by_cases e : a = b
      · exact e
      · have x1 : a ∈ bs := by
          have := (h a).1 (by simp)
          simp at this
          exact this.resolve_left e
        have x2 : b ∈ xs := by
          have := (h b).2 (by simp)
          simp at this
          exact this.resolve_left (fun x => e x.symm)
        exact absurd (h1.1 b x2) (h2.1 a x1)
    subst hab
    rw [srt_unique xs bs h1.2 h2.2 h3.2 (fun x => ?_)]
    constructor
    · intro hx
      have := (h x).1 (by simp [hx])
      simp at this
      rcases this with e | e
      · subst e; exact absurd (h1.1 x hx) (lt2_irr x)
      · exact e
    · intro hx
      have := (h x).2 (by simp [hx])
      simp at this
      rcases this with e | e
      · subst e; exact absurd hx h3.1
      · exact e

section
variable (B : Nat → Nat → Bool) (P : Nat → Int) (p : Nat)
/-- The edges of rank r to ranks below h, in their order. -/
def rowS (r : Nat) : Nat → List Pr
  | 0 => []
  | h + 1 => rowS r h ++ (if r < h ∧ sqO B P r (P r).toNat (P h).toNat = true then [((r : Int), (h : Int))] else [])
def allS : Nat → List Pr
  | 0 => []
  | r + 1 => allS r ++ rowS B P r p
/-- The edges of rank r as they come: by places. -/
def rowU (r k : Nat) : List Pr := (visF (sqO B P r (P r).toNat) k).map (fun q => ((r : Int), rk P (-1) p q))
def allU : Nat → List Pr
  | 0 => []
  | r + 1 => allU r ++ rowU B P p r p
end
variable {B : Nat → Nat → Bool} {P : Nat → Int} {p : Nat}
theorem mem_rowS (r : Nat) (x : Pr) : ∀ k, x ∈ rowS B P r k ↔ ∃ h, h < k ∧ r < h ∧ sqO B P r (P r).toNat (P h).toNat = true ∧ x = ((r : Int), (h : Int))
  | 0 => by simp [rowS]
  | k + 1 => by
    show x ∈ rowS B P r k ++ _ ↔ _
    rw [List.mem_append, mem_rowS r x k]
    constructor
    · rintro (⟨h, h1, h2⟩ | h)
      · exact ⟨h, by omega, h2⟩
      · split at h
        · next c =>
          simp at h
          exact ⟨k, by omega, c.1, c.2, h⟩
        · simp at h
    · rintro ⟨h, h1, h2, h3, h4⟩
      by_cases e : h = k
      · subst e
        right
        rw [if_pos ⟨h2, h3⟩, h4]; simp
      · exact Or.inl ⟨h, by omega, h2, h3, h4⟩
theorem mem_allS (x : Pr) : ∀ R, x ∈ allS B P p R ↔ ∃ r h, r < R ∧ h < p ∧ r < h ∧ sqO B P r (P r).toNat (P h).toNat = true ∧ x = ((r : Int), (h : Int))
  | 0 => by simp [allS]
  | R + 1 => by
    show x ∈ allS B P p R ++ _ ↔ _
    rw [List.mem_append, mem_allS x R, mem_rowS]
    constructor
    · rintro (⟨r, h, h1, h2⟩ | ⟨h, h1, h2⟩)
      · exact ⟨r, h, by omega, h2⟩
      · exact ⟨R, h, by omega, h1, h2⟩
    · rintro ⟨r, h, h1, h2⟩
      by_cases e : r = R
      · subst e; exact Or.inr ⟨h, h2⟩
      · exact Or.inl ⟨r, h, by omega, h2⟩
theorem mem_allU (x : Pr) : ∀ R, x ∈ allU B P p R ↔ ∃ r q, r < R ∧ q < p ∧ sqO B P r (P r).toNat q = true ∧ x = ((r : Int), rk P (-1) p q)
  | 0 => by simp [allU]
  | R + 1 => by
    show x ∈ allU B P p R ++ rowU B P p R p ↔ _
    rw [List.mem_append, mem_allU x R]
    unfold rowU
    rw [List.mem_map]
    constructor
    · rintro (⟨r, q, h1, h2⟩ | ⟨q, h1, h2⟩)
      · exact ⟨r, q, by omega, h2⟩
      · rw [visF_mem] at h1
        exact ⟨R, q, by omega, h1.1, h1.2, h2.symm⟩
    · rintro ⟨r, q, h1, h2, h3, h4⟩
      by_cases e : r = R
      · subst e; exact Or.inr ⟨q, (visF_mem _ _ _).2 ⟨h2, h3⟩, h4.symm⟩
      · exact Or.inl ⟨r, q, by omega, h2, h3, h4⟩
theorem srt_rowS (r : Nat) : ∀ k, (rowS B P r k).Pairwise lt2
  | 0 => List.Pairwise.nil
  | k + 1 => by
    show (rowS B P r k ++ _).Pairwise lt2
    rw [List.pairwise_append]
    refine ⟨srt_rowS r k, ?_, fun x hx y hy => ?_⟩
    · split <;> simp
    · obtain ⟨h, h1, h2, h3, rfl⟩ := (mem_rowS r x k).1 hx
      split at hy
      · simp at hy
        subst hy
        rw [lt2_iff]; simp; omega
      · simp at hy
theorem srt_allS : ∀ R, (allS B P p R).Pairwise lt2
  | 0 => List.Pairwise.nil
  | R + 1 => by
    show (allS B P p R ++ rowS B P R p).Pairwise lt2
    rw [List.pairwise_append]
    refine ⟨srt_allS R, srt_rowS R p, fun x hx y hy => ?_⟩
    obtain ⟨r, h, h1, _, _, _, rfl⟩ := (mem_allS x R).1 hx
    obtain ⟨h', _, _, _, rfl⟩ := (mem_rowS R y p).1 hy
    rw [lt2_iff]; simp; omega
theorem visF_nodup (f : Nat → Bool) : ∀ k, (visF f k).Nodup
  | 0 => by simp [visF, vis]
  | k + 1 => by
    show (if f k then visF f k ++ [k] else visF f k).Nodup
    split
    · rw [List.nodup_append]
      refine ⟨visF_nodup f k, by simp, fun a ha b hb => ?_⟩
      simp at hb
      have := (visF_mem f k a).1 ha
      omega
    · exact visF_nodup f k
theorem rk_inj (he : eachB p P p = true) {a b : Nat} (ha : a < p) (hb : b < p) (e : rk P (-1) p a = rk P (-1) p b) : a = b := by
  obtain ⟨k, _, h1, h2⟩ := rk_of he (-1) ha
  obtain ⟨k', _, h3, h4⟩ := rk_of he (-1) hb
  have : k = k' := by omega
  subst this
  omega
theorem nodup_allU (he : eachB p P p = true) : ∀ R, (allU B P p R).Nodup
  | 0 => by simp [allU]
  | R + 1 => by
    show (allU B P p R ++ rowU B P p R p).Nodup
    rw [List.nodup_append]
    refine ⟨nodup_allU he R, ?_, fun a ha b hb e => ?_⟩
    · unfold rowU
      rw [List.nodup_iff_pairwise_ne, List.pairwise_map]
      refine (List.nodup_iff_pairwise_ne.1 (visF_nodup (sqO B P R (P R).toNat) p)).imp_of_mem ?_
      intro a b ha hb hab e
      simp at e
      exact hab (rk_inj he ((visF_mem _ _ _).1 ha).1 ((visF_mem _ _ _).1 hb).1 e)
    · obtain ⟨r, q, h1, _, _, h2⟩ := (mem_allU a R).1 ha
      unfold rowU at hb
      rw [List.mem_map] at hb
      obtain ⟨q', _, h3⟩ := hb
      subst e
      rw [h2] at h3
      simp at h3
      omega
theorem mem_same (hB : Fair B) (he : eachB p P p = true) (x : Pr) : x ∈ allS B P p p ↔ x ∈ allU B P p p := by
  rw [mem_allS, mem_allU]
  constructor
  · rintro ⟨r, h, h1, h2, h3, h4, rfl⟩
    have := (each_in p he h h2).1
    exact ⟨r, (P h).toNat, h1, by omega, h4, by rw [rk_is (-1) p he h h2]⟩
  · rintro ⟨r, q, h1, h2, h3, rfl⟩
    obtain ⟨k, hk, e1, e2⟩ := rk_of he (-1) h2
    have hq : (P k).toNat = q := by omega
    refine ⟨r, k, h1, hk, ?_, by rw [hq]; exact h3, by rw [e2]⟩
    rcases Nat.lt_trichotomy r k with hl | hl | hl
    · exact hl
    · subst hl
      rw [hq, (sqO_fair hB P r).2] at h3; cases h3
    · rw [(sqO_fair hB P r).1, ← hq, sqO_gone hB P r k hl] at h3; cases h3
/-- A sorted list of the edges as they come is the list of the edges in their order. -/
theorem fill_same (hB : Fair B) (he : eachB p P p = true) {l : List Pr} (hp : l.Perm (allU B P p p)) (hs : Srt l) : l = allS B P p p :=
  (srt_unique _ l (srt_allS p) hs (hp.symm.nodup (nodup_allU he p)) (fun x => by rw [mem_same hB he, hp.mem_iff])).symm

end Go.Proofs.Ytdgnlpafmkhdjah

/-
  Edges of the call's own as a list of pairs: read, grown by one, two neighbours exchanged.
-/
set_option linter.unusedVariables false
set_option linter.unusedSimpArgs false
namespace Go.Proofs.Ytdgnlpafmkhdjah
open Go.RowKit

def Lf (l : List (Int × Int)) (k : Nat) : Int := (l.getD k (0, 0)).1
def Hf (l : List (Int × Int)) (k : Nat) : Int := (l.getD k (0, 0)).2
/-- The cells of a list of edges. -/
def ecells (l : List (Int × Int)) : List Value := l.flatMap fun e => [.int .i64 e.1, .int .i64 e.2]
theorem ecells_len : ∀ l : List (Int × Int), (ecells l).length = l.length * 2
  | [] => rfl
  | e :: l => by
    have := ecells_len l
    simp [ecells] at this ⊢
    omega
theorem ecells_at : ∀ (l : List (Int × Int)) (j : Nat), j < l.length * 2 → (ecells l)[j]? = some (.int .i64 (er (Lf l) (Hf l) j))
  | [], j, h => by simp at h
  | e :: l, 0, h => by simp [ecells, er, Lf]
  | e :: l, 1, h => by simp [ecells, er, Hf]
  | e :: l, j + 2, h => by
    have := ecells_at l j (by simp at h; omega)
    have h1 : (ecells (e :: l))[j + 2]? = (ecells l)[j]? := by simp [ecells]
    rw [h1, this]
    have hd : (j + 2) / 2 = j / 2 + 1 := by omega
    have hm : (j + 2) % 2 = j % 2 := by omega
    unfold er Lf Hf
    rw [hd, hm]
    simp
theorem ecells_snoc (l : List (Int × Int)) (a b : Int) : ecells l ++ [.int .i64 a, .int .i64 b] = ecells (l ++ [(a, b)]) := by simp [ecells]

/-- The list lies in block g, from block base on, with room for cap edges. -/
def EOwn (w : World) (base g cap : Nat) (l : List (Int × Int)) : Prop := w.ownsRow base 71 2 (.slice (some ⟨g, 0, none⟩) l.length cap) l.length (ecells l)
theorem EOwn.has {w : World} {base g cap : Nat} {l : List (Int × Int)} (h : EOwn w base g cap l) : EHas w g l.length (er (Lf l) (Hf l)) := by
  obtain ⟨hl, h0 | ⟨g', cap', cur, hv, hb, hh, h1, h2, h3, h4⟩⟩ := h
  · simp at h0
  · simp at hv
    obtain ⟨rfl, rfl⟩ := hv
    refine ⟨cur, hh, by omega, fun j hj => ?_⟩
    have : (cur.toList.take (l.length * 2))[j]? = (ecells l)[j]? := by rw [h4]
    rw [List.getElem?_take_of_lt (by omega), ecells_at l j hj] at this
    simpa using this
theorem EOwn.from {w : World} {base base' g cap : Nat} {l : List (Int × Int)} (h : EOwn w base g cap l) (hb : base' ≤ base) : EOwn w base' g cap l := by
  refine ⟨h.1, ?_⟩
  rcases h.2 with hn | ⟨g', cap', cur, hv, hb', rest⟩
  · exact .inl hn
  · exact .inr ⟨g', cap', cur, hv, Nat.le_trans hb hb', rest⟩
theorem EOwn.base {w : World} {base g cap : Nat} {l : List (Int × Int)} (h : EOwn w base g cap l) : base ≤ g := (World.ownsRow.lt h g rfl).1
theorem EOwn.lt {w : World} {base g cap : Nat} {l : List (Int × Int)} (h : EOwn w base g cap l) : g < w.heap.size := (World.ownsRow.lt h g rfl).2
theorem EOwn.of_block {w w' : World} {base g cap : Nat} {l : List (Int × Int)} (h : EOwn w base g cap l) (e : w'.heap[g]? = w.heap[g]?) : EOwn w' base g cap l := by
  refine ⟨h.1, ?_⟩
  rcases h.2 with hn | ⟨g', cap', cur, hv, hb', hgg, rest⟩
  · exact .inl hn
  · simp at hv
    obtain ⟨rfl, rfl⟩ := hv
    exact .inr ⟨g, cap, cur, rfl, hb', e.trans hgg, rest⟩
theorem EOwn.below {w w' : World} {base g cap B : Nat} {l : List (Int × Int)} (h : EOwn w base g cap l) (hb : Below B w w') (hB : g < B) : EOwn w' base g cap l := h.of_block (hb.block g hB)
theorem EOwn.next {w w' : World} {base g cap : Nat} {l : List (Int × Int)} (h : EOwn w base g cap l) (hb : Below w.heap.size w w') : EOwn w' base g cap l := h.below hb h.lt
theorem EOwn.grown {w w' : World} {base g cap : Nat} {l : List (Int × Int)} {row : Option Nat} (h : EOwn w base g cap l) (hg : w.grownBy w' row) (hne : some g ≠ row) : EOwn w' base g cap l := h.of_block (hg.block g h.lt hne)
theorem EOwn.room {w : World} {base g cap : Nat} {l : List (Int × Int)} (h : EOwn w base g cap l) : l.length ≤ cap := by
  obtain ⟨hl, h0 | ⟨g', cap', cur, hv, hb, hh, h1, h2, h3, h4⟩⟩ := h
  · simp at h0
  · simp at hv
    omega
theorem EOwn.empty (w : World) {base : Nat} (hb : base ≤ w.heap.size) : EOwn (w.alloc (.cells #[] 71)) base w.heap.size 0 [] := by
  have := World.ownsRow_lit (base := base) (e := 71) (size := 2) w #[] 0 hb (by simp) (by simp)
  simpa [EOwn, ecells] using this

theorem news_edge {w : World} {B : Nat} {x y : Int} (h0 : w.cell? ⟨B, 0, none⟩ = some (.int .i64 x)) (h1 : w.cell? ⟨B, 1, none⟩ = some (.int .i64 y)) : ∀ j u, [Value.int .i64 x, .int .i64 y][j]? = some u → w.cell? ((⟨B, 0, none⟩ : Addr).add j) = some u :=
  fun j u hu => by
    match j, hu with
    | 0, hu => simp at hu; subst hu; exact h0
    | 1, hu => simp at hu; subst hu; exact h1
    | j + 2, hu => simp at hu
theorem wpList_append_edge {w : World} {ops : Array Oper} {rest : List Oper} {o : Oper} {a : Act} {Q : Exit → Act → World → Prop} (hgd : o.guard = none) (s x : Operand)
    (ho : o.op = .call { callee := .builtin .append, args := #[s, x], argTypes := #[31, 31] }) (base g cap : Nat) (l : List (Int × Int)) (hs : a.eval s = .slice (some ⟨g, 0, none⟩) l.length cap)
    (hown : EOwn w base g cap l) (B c : Nat) (v u : Int) (hx : a.eval x = .slice (some ⟨B, 0, none⟩) 1 c) (h0 : w.cell? ⟨B, 0, none⟩ = some (.int .i64 v)) (h1 : w.cell? ⟨B, 1, none⟩ = some (.int .i64 u)) (hn : l.length ≤ 1000000) (hbase : base ≤ w.heap.size)
    (h : ∀ g' cap' w', EOwn w' base g' cap' (l ++ [(v, u)]) → w.grownBy w' (some g) → (g' = g ∨ g' = w.heap.size) → wpList Try.prog ops Q rest (a.put o.dst (.slice (some ⟨g', 0, none⟩) (l.length + 1) cap')) w') : wpList Try.prog ops Q (o :: rest) a w := by
  obtain ⟨i, hi, hz0, hz1, hz2⟩ := info_parts Try.infoEdge
  refine wpList_append_lies w hgd s x 31 ho base 71 i _ 2 16 Try.underlying31 hi hz0 hz1 hz2 rfl (by omega) _ l.length (ecells l) hs hown ⟨B, 0, none⟩ 1 c [.int .i64 v, .int .i64 u] hx rfl (news_edge h0 h1) ?_ (by omega) (by unfold maxLen; omega) (by omega) hbase w.heap.size rfl ?_
  · intro u hu
    simp at hu
    rcases hu with rfl | rfl <;> rfl
  · intro g' cap' w' hown' hgrow hat hlt
    refine h g' cap' w' ?_ hgrow ?_
    · rw [ecells_snoc] at hown'
      unfold EOwn
      rw [List.length_append]
      exact hown'
    · rcases hat with e | e
      · simp [Value.ownBlock] at e; exact Or.inl e.symm
      · exact Or.inr e

theorem step_append_edge {w : World} {ops : Array Oper} {o : Oper} {a : Act} {K : Act → World → Prop} {Q : Exit → Act → World → Prop} {E : Prop} (hgd : o.guard = none) (s x : Operand)
    (ho : o.op = .call { callee := .builtin .append, args := #[s, x], argTypes := #[31, 31] }) (base g cap : Nat) (l : List (Int × Int)) (hs : a.eval s = .slice (some ⟨g, 0, none⟩) l.length cap)
    (hown : EOwn w base g cap l) (B c : Nat) (v u : Int) (hx : a.eval x = .slice (some ⟨B, 0, none⟩) 1 c) (h0 : w.cell? ⟨B, 0, none⟩ = some (.int .i64 v)) (h1 : w.cell? ⟨B, 1, none⟩ = some (.int .i64 u)) (hn : l.length ≤ 1000000) (hbase : base ≤ w.heap.size)
    (h : ∀ g' cap' w', EOwn w' base g' cap' (l ++ [(v, u)]) → w.grownBy w' (some g) → (g' = g ∨ g' = w.heap.size) → K (a.put o.dst (.slice (some ⟨g', 0, none⟩) (l.length + 1) cap')) w') :
    if Region.wanted o (yielded ops a.tmps) = true then Oper.wp Try.prog o a w K Q else E := by
  have hw : Region.wanted o (yielded ops a.tmps) = true := by simp [Region.wanted, hgd]
  rw [if_pos hw]
  obtain ⟨i, hi, hz0, hz1, hz2⟩ := info_parts Try.infoEdge
  refine wp_append_lies w s x 31 ho base 71 i _ 2 16 Try.underlying31 hi hz0 hz1 hz2 rfl (by omega) _ l.length (ecells l) hs hown ⟨B, 0, none⟩ 1 c [.int .i64 v, .int .i64 u] hx rfl (news_edge h0 h1) ?_ (by omega) (by unfold maxLen; omega) (by omega) hbase w.heap.size rfl ?_
  · intro u hu
    simp at hu
    rcases hu with rfl | rfl <;> rfl
  · intro g' cap' w' hown' hgrow hat hlt
    refine h g' cap' w' ?_ hgrow ?_
    · rw [ecells_snoc] at hown'
      unfold EOwn
      rw [List.length_append]
      exact hown'
    · rcases hat with e | e
      · simp [Value.ownBlock] at e; exact Or.inl e.symm
      · exact Or.inr e

/-- The list lies at the beginning of block g. -/
def ELies (w : World) (g : Nat) (l : List (Int × Int)) : Prop := EHas w g l.length (er (Lf l) (Hf l))
theorem ELies.at {w : World} {g : Nat} {a b : List (Int × Int)} {x : Int × Int} (h : ELies w g (a ++ x :: b)) : w.cell? ⟨g, a.length * 2, none⟩ = some (.int .i64 x.1) ∧ w.cell? ⟨g, a.length * 2 + 1, none⟩ = some (.int .i64 x.2) := by
  have h0 := EHas.cell h (j := a.length * 2) (by simp)
  have h1 := EHas.cell h (j := a.length * 2 + 1) (by simp; omega)
  rw [er0] at h0
  rw [er1] at h1
  have e : (a ++ x :: b).getD a.length (0, 0) = x := by simp [List.getD]
  unfold Lf at h0
  unfold Hf at h1
  rw [e] at h0 h1
  exact ⟨h0, h1⟩
theorem getD_swap (a b : List (Int × Int)) (x y : Int × Int) (k : Nat) : (a ++ x :: y :: b).getD k (0, 0) = if k = a.length + 1 then y else if k = a.length then x else (a ++ y :: x :: b).getD k (0, 0) := by
  by_cases h1 : k = a.length + 1
  · subst h1; rw [if_pos rfl]; simp [List.getD, List.getElem?_append_right]
  · rw [if_neg h1]
    by_cases h2 : k = a.length
    · subst h2; rw [if_pos rfl]; simp [List.getD]
    · rw [if_neg h2]
      by_cases h3 : k < a.length
      · simp [List.getD, List.getElem?_append_left h3]
      · obtain ⟨m, rfl⟩ : ∃ m, k = a.length + (m + 2) := ⟨k - a.length - 2, by omega⟩
        simp [List.getD, List.getElem?_append_right]
theorem er_swap (a b : List (Int × Int)) (x y : Int × Int) (j : Nat) :
    (if j = a.length * 2 + 1 then x.2 else if j = a.length * 2 then x.1 else if j = (a.length + 1) * 2 + 1 then y.2 else if j = (a.length + 1) * 2 then y.1 else er (Lf (a ++ y :: x :: b)) (Hf (a ++ y :: x :: b)) j) = er (Lf (a ++ x :: y :: b)) (Hf (a ++ x :: y :: b)) j := by
  unfold er Lf Hf
  rw [getD_swap a b x y (j / 2)]
  have hm : j % 2 = 0 ∨ j % 2 = 1 := by omega
  by_cases h1 : j = a.length * 2 + 1
  · have e1 : j / 2 = a.length := by omega
    have e2 : ¬ j % 2 = 0 := by omega
    rw [if_pos h1, if_neg e2, if_neg (by omega), if_pos e1]
  rw [if_neg h1]
  by_cases h2 : j = a.length * 2
  · have e1 : j / 2 = a.length := by omega
    have e2 : j % 2 = 0 := by omega
    rw [if_pos h2, if_pos e2, if_neg (by omega), if_pos e1]
  rw [if_neg h2]
  by_cases h3 : j = (a.length + 1) * 2 + 1
  · have e1 : j / 2 = a.length + 1 := by omega
    have e2 : ¬ j % 2 = 0 := by omega
    rw [if_pos h3, if_neg e2, if_pos e1]
  rw [if_neg h3]
  by_cases h4 : j = (a.length + 1) * 2
  · have e1 : j / 2 = a.length + 1 := by omega
    have e2 : j % 2 = 0 := by omega
    rw [if_pos h4, if_pos e2, if_pos e1]
  rw [if_neg h4, if_neg (show ¬ j / 2 = a.length + 1 by omega), if_neg (show ¬ j / 2 = a.length by omega)]

end Go.Proofs.Ytdgnlpafmkhdjah

/-
  Lists of numbers of the call's own that grow by one: the law for the walk.
-/
set_option linter.unusedVariables false
set_option linter.unusedSimpArgs false
namespace Go.Proofs.Ytdgnlpafmkhdjah
open Go.RowKit

def icells (f : Nat → Int) (n : Nat) : List Value := (List.range n).map fun j => .int .i64 (f j)
theorem icells_at {f : Nat → Int} {n j : Nat} (hj : j < n) : (icells f n)[j]? = some (.int .i64 (f j)) := by
  rw [icells, List.getElem?_map, List.getElem?_range hj]; rfl
theorem icells_len (f : Nat → Int) (n : Nat) : (icells f n).length = n := by simp [icells]
theorem icells_congr {f g : Nat → Int} {n : Nat} (h : ∀ j, j < n → f j = g j) : icells f n = icells g n := by
  apply List.ext_getElem?
  intro j
  by_cases hj : j < n
  · rw [icells_at hj, icells_at hj, h j hj]
  · rw [List.getElem?_eq_none (by rw [icells_len]; omega), List.getElem?_eq_none (by rw [icells_len]; omega)]
theorem icells_put {f g : Nat → Int} {n : Nat} (v : Int) (h1 : ∀ j, j < n → f j = g j) (h2 : g n = v) : icells f n ++ [.int .i64 v] = icells g (n + 1) := by
  rw [icells_congr h1]
  simp [icells, List.range_succ, h2]

/-- n numbers in a block of the call's own, from block base on, with room for cap of them. -/
def IOwn (w : World) (base g cap n : Nat) (f : Nat → Int) : Prop := w.ownsRow base 2 1 (.slice (some ⟨g, 0, none⟩) n cap) n (icells f n)
theorem IOwn.has {w : World} {base g cap n : Nat} {f : Nat → Int} (h : IOwn w base g cap n f) : IHas w g n f := by
  obtain ⟨hl, h0 | ⟨g', cap', cur, hv, hb, hh, h1, h2, h3, h4⟩⟩ := h
  · simp at h0
  · simp at hv
    obtain ⟨rfl, rfl⟩ := hv
    refine ⟨cur, hh, by omega, fun j hj => ?_⟩
    have : (cur.toList.take (n * 1))[j]? = (icells f n)[j]? := by rw [h4]
    rw [List.getElem?_take_of_lt (by omega), icells_at hj] at this
    simpa using this
theorem IOwn.base {w : World} {base g cap n : Nat} {f : Nat → Int} (h : IOwn w base g cap n f) : base ≤ g := (World.ownsRow.lt h g rfl).1
theorem IOwn.congr {w : World} {base g cap n : Nat} {f f' : Nat → Int} (h : IOwn w base g cap n f) (e : ∀ j, j < n → f j = f' j) : IOwn w base g cap n f' := by
  unfold IOwn at h ⊢
  rw [← icells_congr e]; exact h
theorem IOwn.below {w w' : World} {base g cap n B : Nat} {f : Nat → Int} (h : IOwn w base g cap n f) (hb : Below B w w') (hB : g < B) : IOwn w' base g cap n f := by
  refine ⟨h.1, ?_⟩
  rcases h.2 with hn | ⟨g', cap', cur, hv, hb', hgg, rest⟩
  · exact .inl hn
  · simp at hv
    obtain ⟨rfl, rfl⟩ := hv
    exact .inr ⟨g, cap, cur, rfl, hb', (hb.block g hB).trans hgg, rest⟩
theorem IOwn.lt {w : World} {base g cap n : Nat} {f : Nat → Int} (h : IOwn w base g cap n f) : g < w.heap.size := (World.ownsRow.lt h g rfl).2
theorem IOwn.grown {w w' : World} {base g cap n : Nat} {f : Nat → Int} {b : Nat} (h : IOwn w base g cap n f) (hg : w.grownBy w' (some b)) (hne : g ≠ b) : IOwn w' base g cap n f := by
  refine ⟨h.1, ?_⟩
  rcases h.2 with hn | ⟨g', cap', cur, hv, hb', hgg, rest⟩
  · exact .inl hn
  · simp at hv
    obtain ⟨rfl, rfl⟩ := hv
    exact .inr ⟨g, cap, cur, rfl, hb', (hg.block g h.lt (by simp; exact hne)).trans hgg, rest⟩

theorem IOwn.room {w : World} {base g cap n : Nat} {f : Nat → Int} (h : IOwn w base g cap n f) : n ≤ cap := by
  obtain ⟨hl, h0 | ⟨g', cap', cur, hv, hb, hh, h1, h2, h3, h4⟩⟩ := h
  · simp at h0
  · simp at hv
    omega
/-- A new empty list. -/
theorem IOwn.empty (w : World) {base : Nat} (hb : base ≤ w.heap.size) (f : Nat → Int) : IOwn (w.alloc (.cells #[] 2)) base w.heap.size 0 0 f := by
  have := World.ownsRow_lit (base := base) (e := 2) (size := 1) w #[] 0 hb (by simp) (by simp)
  simpa [IOwn, icells] using this

theorem wpList_append_int {w : World} {ops : Array Oper} {rest : List Oper} {o : Oper} {a : Act} {Q : Exit → Act → World → Prop} (hgd : o.guard = none) (s x : Operand)
    (ho : o.op = .call { callee := .builtin .append, args := #[s, x], argTypes := #[22, 22] }) (base g cap n : Nat) (f : Nat → Int) (hs : a.eval s = .slice (some ⟨g, 0, none⟩) n cap)
    (hown : IOwn w base g cap n f) (ad : Addr) (c : Nat) (v : Int) (hx : a.eval x = .slice (some ad) 1 c) (h0 : w.cell? (ad.add 0) = some (.int .i64 v)) (hn : n ≤ 1000000000) (hbase : base ≤ w.heap.size)
    (h : ∀ g' cap' w', (∀ f', (∀ j, j < n → f' j = f j) → f' n = v → IOwn w' base g' cap' (n + 1) f') → w.grownBy w' (some g) → (g' = g ∨ g' = w.heap.size) → wpList Try.prog ops Q rest (a.put o.dst (.slice (some ⟨g', 0, none⟩) (n + 1) cap')) w') : wpList Try.prog ops Q (o :: rest) a w := by
  obtain ⟨i, hi, hz0, hz1, hz2⟩ := info_parts Try.infoInt
  refine wpList_append_lies w hgd s x 22 ho base 2 i _ 1 8 Try.underlying22 hi hz0 hz1 hz2 rfl (by omega) _ n (icells f n) hs hown ad 1 c [.int .i64 v] hx rfl ?_ ?_ (by omega) (by unfold maxLen; omega) (by omega) hbase w.heap.size rfl ?_
  · intro j u hu
    match j, hu with
    | 0, hu => simp at hu; subst hu; exact h0
    | j + 1, hu => simp at hu
  · intro u hu
    simp at hu
    subst hu; rfl
  · intro g' cap' w' hown' hgrow hat hlt
    refine h g' cap' w' (fun f' e1 e2 => ?_) hgrow ?_
    · rw [icells_put v (fun j hj => (e1 j hj).symm) e2] at hown'
      exact hown'
    · rcases hat with e | e
      · simp [Value.ownBlock] at e; exact Or.inl e.symm
      · exact Or.inr e

end Go.Proofs.Ytdgnlpafmkhdjah
