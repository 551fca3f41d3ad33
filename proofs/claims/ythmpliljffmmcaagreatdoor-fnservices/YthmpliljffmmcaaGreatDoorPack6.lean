/-
  Helpers: Copy2, MeshMem, Rounds, Iter, Count.
-/
import Derived.Test.YthmpliljffmmcaaGreatDoorPack1
import Derived.Test.YthmpliljffmmcaaGreatDoorPack5
import Derived.Test.YthmpliljffmmcaaGreatDoorPack2
import Derived.Test.YthmpliljffmmcaaGreatDoorPack3
import Derived.Test.YthmpliljffmmcaaGreatDoorRows
import Derived.RangeFuncNested
import Derived.RangeFuncBound
import Derived.RangeFuncCalls
import Derived.RangeFuncLeaves
import Derived.Shelf.Abstract
import Derived.Shelf.RegionOpen
import Derived.WalkKit
import Derived.OwnWalkIn
import Derived.TacticsInMore
import Derived.LoopNIn
import Derived.LoopIn
import Derived.Sort.QuietIn
set_option linter.unusedVariables false
set_option linter.unusedSimpArgs false
namespace Go.Proofs.YthmpliljffmmcaaGreatDoor
section
open Go.RowKit Go.Maps
attribute [local go_sem ↓] Go.wp_at_zero Go.wp_at_succ
theorem has_of_owns {w : World} {base g n cap : Nat} {f : Nat → Int} {xs : List Value} (h : w.ownsRow base 67 3 (.slice (some ⟨g, 0, none⟩) n cap) n xs) (hx : xs = cellsOf f (n * 3)) : Has w g n f ∧ base ≤ g := by
  obtain ⟨hl, h0 | ⟨g', cap', cur, hv, hb, hh, h1, h2, h3, h4⟩⟩ := h
  · simp at h0
  · simp at hv
    obtain ⟨rfl, rfl⟩ := hv
    refine ⟨⟨cur, hh, by rw [h3]; exact Nat.mul_le_mul_right 3 h1, fun j hj => ?_⟩, hb⟩
    subst hx
    have : (cur.toList.take (n * 3))[j]? = (cellsOf f (n * 3))[j]? := by rw [h4]
    rw [List.getElem?_take_of_lt hj, cellsOf, List.getElem?_map, List.getElem?_range hj] at this
    simpa using this
theorem keep_grown {W W' : World} {row : Option Nat} {b o : Nat} {v : Value} (hg : W.grownBy W' row) (hne : some b ≠ row) (h : W.cell? ⟨b, o, none⟩ = some v) : W'.cell? ⟨b, o, none⟩ = some v := hg.cell h hne
theorem keep_frozen {W W' : World} {row : Option Nat} {b o : Nat} (hg : W.grownBy W' row) (hne : some b ≠ row) (hlt : b < W.heap.size) (h : W.frozen? ⟨b, o, none⟩ = false) : W'.frozen? ⟨b, o, none⟩ = false := by
  rw [← h]; exact World.frozen?_of_block (hg.block b hlt hne)
theorem empty_owns (w : World) (o1 o2 : Obj) : (((w.alloc o1).alloc o2).alloc (.cells #[] 67)).ownsRow (w.heap.size + 2) 67 3 (.slice (some ⟨w.heap.size + 1 + 1, 0, none⟩) 0 0) 0 [] := by
  have := World.ownsRow_lit (base := w.heap.size + 2) (e := 67) (size := 3) ((w.alloc o1).alloc o2) #[] 0 (by simp) (by simp) (by simp)
  simpa using this
set_option maxRecDepth 100000 in
set_option maxHeartbeats 2000000 in
theorem l1Copy_pos (p : Int) (b o n cap : Nat) (F T G : Nat → Int) (hn : n ≤ 1048576) (hpos : 0 < n) (w : World) (hr : Row w (some ⟨b, o, none⟩) n F T G) :
    Calls Tryz.prog 45 #[.agg #[.int .i64 p, .slice (some ⟨b, o, none⟩) n cap]] w fun e w' => ∃ g cap', e = .returned (.agg #[.int .i64 p, .slice (some ⟨g, 0, none⟩) n cap']) ∧ w.heap.size ≤ g ∧ Has w' g n (ar F T G) ∧ Below w.heap.size w w' := by
  obtain ⟨i0, hi0, hz0, hz1, hz2⟩ := info_parts Tryz.infoArc
  go_enter Tryz.func45, Tryz.ntmps45
  go_wp2
  go_region_held3 (fun w' => w'.cell? ⟨w.heap.size, 0, none⟩ = some (.int .i64 p) ∧ w'.cell? ⟨w.heap.size, 1, none⟩ = some (.slice (some ⟨b, o, none⟩) n cap))
    (first | (simp [go_sem]; done) | (exact ⟨keep_grown hgrow (by simp [Value.ownBlock] <;> omega) (by simp [go_sem]), keep_grown hgrow (by simp [Value.ownBlock] <;> omega) (by simp [go_sem])⟩) | go_keep)
    ((refine step_append_lies _ (by rfl) _ _ _ (by rfl) (w.heap.size + 2) 67 i0 _ 3 24 Tryz.underlying24 hi0 hz0 hz1 hz2 rfl (by omega) (.slice (some ⟨w.heap.size + 1 + 1, 0, none⟩) 0 0) 0 [] (by rfl) (World.ownsRow.drew (empty_owns w _ _))
        ⟨b, o, none⟩ n cap (cellsOf (ar F T G) (n * 3)) (by rfl) (by simp [cellsOf]) (Row.news (((hr.alloc _).alloc _).alloc _)) (cellsOf_one _ _) hpos (by unfold maxLen; omega) (by omega) (by simp) (w.heap.size + 3) (by simp) ?_; intro g cap' w1 hown1 hgrow hat hlt; have t0 := keep_grown hgrow (b := w.heap.size + 1) (o := 0) (v := .int .i64 0) (by simp [Value.ownBlock] <;> omega) (by simp [go_sem]); have t1 := keep_grown hgrow (b := w.heap.size + 1) (o := 1) (v := .slice none 0 0) (by simp [Value.ownBlock] <;> omega) (by simp [go_sem]); have f0 := keep_frozen hgrow (b := w.heap.size + 1) (o := 0) (by simp [Value.ownBlock] <;> omega) (by simp) (by simp [go_sem]); have f1 := keep_frozen hgrow (b := w.heap.size + 1) (o := 1) (by simp [Value.ownBlock] <;> omega) (by simp) (by simp [go_sem])))
  go_wp2
  simp only [Nat.zero_add, List.nil_append] at hown1
  obtain ⟨hhas, hg2⟩ := has_of_owns hown1 rfl
  simp [bodyPost, results, Tryz.results45, go_sem, t0, t1, f0, f1]
  refine ⟨by omega, ?_, ?_⟩
  · exact (hhas.of_block (Below.heap_setCell _ _ _ _ (by simp; omega))).of_block (Below.heap_setCell _ _ _ _ (by simp; omega))
  · refine Below.setCell (Below.setCell (Below.grown (Below.drew ((((Below.refl _ _).alloc nl _).alloc (by simp) _).alloc (by simp; omega) _)) hgrow (by simp; omega) ?_) (by simp) _) (by simp) _
    intro k hk
    simp [Value.ownBlock] at hk
    omega
set_option maxHeartbeats 2000000 in
theorem l1Copy_zero (p : Int) (ao : Option Addr) (cap : Nat) (w : World) :
    Calls Tryz.prog 45 #[.agg #[.int .i64 p, .slice ao 0 cap]] w fun e w' => ∃ g cap', e = .returned (.agg #[.int .i64 p, .slice (some ⟨g, 0, none⟩) 0 cap']) ∧ w.heap.size ≤ g ∧ g < w'.heap.size ∧ Below w.heap.size w w' := by
  have hsc : ∀ (a : Addr) (w : World), (storeCells a []).run Tryz.prog w = .ok () w := fun _ _ => rfl
  cases ao with
  | none =>
    go_enter Tryz.func45, Tryz.ntmps45
    go_wp2
    go_region
    all_goals go_wp2
    all_goals
      simp [bodyPost, results, Tryz.results45, go_sem]
      refine ⟨by omega, ?_⟩
      exact Below.drew ((((Below.refl _ _).alloc nl _).alloc (by simp) _).alloc (by simp; omega) _)
  | some a =>
    go_enter Tryz.func45, Tryz.ntmps45
    go_wp2
    go_region
    all_goals go_wp2
    all_goals
      simp [bodyPost, results, Tryz.results45, go_sem]
      refine ⟨by omega, ?_⟩
      exact Below.drew ((((Below.refl _ _).alloc nl _).alloc (by simp) _).alloc (by simp; omega) _)
theorem l1Copy_any (p : Int) (ao : Option Addr) (n cap : Nat) (F T G : Nat → Int) (hn : n ≤ 1048576) (w : World) (hr : Row w ao n F T G) :
    Calls Tryz.prog 45 #[.agg #[.int .i64 p, .slice ao n cap]] w fun e w' => ∃ g cap', e = .returned (.agg #[.int .i64 p, .slice (some ⟨g, 0, none⟩) n cap']) ∧ w.heap.size ≤ g ∧ g < w'.heap.size ∧ (0 < n → Has w' g n (ar F T G)) ∧ Below w.heap.size w w' := by
  by_cases h : 0 < n
  · obtain ⟨b, o, e, _⟩ := hr 0 h
    subst e
    refine (l1Copy_pos p b o n cap F T G hn h w hr).mono ?_
    rintro e w' ⟨g, cap', rfl, h1, h2, h3⟩
    exact ⟨g, cap', rfl, h1, h2.lt, fun _ => h2, h3⟩
  · have e : n = 0 := by omega
    subst e
    refine (l1Copy_zero p ao cap w).mono ?_
    rintro e w' ⟨g, cap', rfl, h1, h2, h3⟩
    exact ⟨g, cap', rfl, h1, h2, fun h => by omega, h3⟩
end
section
open Go.RowKit
attribute [local go_sem ↓] Go.wp_at_zero Go.wp_at_succ
def meshV (p : Int) (B : Nat → Nat → Bool) (gone : Nat → Bool) (j : Nat) : Value := if j = 0 then .int .i64 p else if j < 577 then .bool (B ((j - 1) / 24) ((j - 1) % 24)) else .bool (gone (j - 577))
def MeshAt (w : World) (bm : Nat) (p : Int) (B : Nat → Nat → Bool) (gone : Nat → Bool) : Prop := VHas w bm 138 601 (meshV p B gone)
theorem MeshAt.places {w : World} {bm : Nat} {p : Int} {B : Nat → Nat → Bool} {gone : Nat → Bool} (h : MeshAt w bm p B gone) : w.cell? ⟨bm, 0, none⟩ = some (.int .i64 p) := by
  rw [VHas.cell h (by omega)]; rfl
theorem MeshAt.at {w : World} {bm : Nat} {p : Int} {B : Nat → Nat → Bool} {gone : Nat → Bool} (h : MeshAt w bm p B gone) {x y : Nat} (hx : x < 24) (hy : y < 24) : w.cell? ⟨bm, 1 + x * 24 + y, none⟩ = some (.bool (B x y)) := by
  rw [VHas.cell h (by omega)]
  unfold meshV
  rw [if_neg (by omega), if_pos (by omega)]
  have h1 : (1 + x * 24 + y - 1) / 24 = x := by omega
  have h2 : (1 + x * 24 + y - 1) % 24 = y := by omega
  rw [h1, h2]
theorem MeshAt.gone {w : World} {bm : Nat} {p : Int} {B : Nat → Nat → Bool} {gone : Nat → Bool} (h : MeshAt w bm p B gone) {x : Nat} (hx : x < 24) : w.cell? ⟨bm, 577 + x, none⟩ = some (.bool (gone x)) := by
  rw [VHas.cell h (by omega)]
  unfold meshV
  rw [if_neg (by omega), if_neg (by omega)]
  have h1 : 577 + x - 577 = x := by omega
  rw [h1]
theorem MeshAt.put {w : World} {bm : Nat} {p : Int} {B : Nat → Nat → Bool} {gone : Nat → Bool} (h : MeshAt w bm p B gone) {x y : Nat} (hx : x < 24) (hy : y < 24) (v : Bool) : MeshAt (w.setCell ⟨bm, 1 + x * 24 + y, none⟩ (.bool v)) bm p (upd B x y v) gone := by
  refine (VHas.set h (1 + x * 24 + y) (.bool v)).congr (fun j hj => ?_)
  by_cases e : j = 1 + x * 24 + y
  · subst e
    rw [if_pos rfl]
    unfold meshV upd
    have h1 : (1 + x * 24 + y - 1) / 24 = x := by omega
    have h2 : (1 + x * 24 + y - 1) % 24 = y := by omega
    rw [if_neg (by omega), if_pos (by omega), h1, h2, if_pos ⟨rfl, rfl⟩]
  · rw [if_neg e]
    unfold meshV upd
    by_cases h0 : j = 0
    · rw [if_pos h0, if_pos h0]
    · rw [if_neg h0, if_neg h0]
      by_cases h1 : j < 577
      · rw [if_pos h1, if_pos h1, if_neg (by omega)]
      · rw [if_neg h1, if_neg h1]
theorem MeshAt.go {w : World} {bm : Nat} {p : Int} {B : Nat → Nat → Bool} {gone : Nat → Bool} (h : MeshAt w bm p B gone) {x : Nat} (hx : x < 24) : MeshAt (w.setCell ⟨bm, 577 + x, none⟩ (.bool true)) bm p B (goneU gone x) := by
  refine (VHas.set h (577 + x) (.bool true)).congr (fun j hj => ?_)
  by_cases e : j = 577 + x
  · subst e
    rw [if_pos rfl]
    unfold meshV goneU
    have h1 : 577 + x - 577 = x := by omega
    rw [if_neg (by omega), if_neg (by omega), h1, if_pos rfl]
  · rw [if_neg e]
    unfold meshV goneU
    by_cases h0 : j = 0
    · rw [if_pos h0, if_pos h0]
    · rw [if_neg h0, if_neg h0]
      by_cases h1 : j < 577
      · rw [if_pos h1, if_pos h1]
      · rw [if_neg h1, if_neg h1, if_neg (by omega)]
theorem MeshAt.same {w : World} {bm : Nat} {p : Int} {B B' : Nat → Nat → Bool} {gone : Nat → Bool} (h : MeshAt w bm p B gone) (e : ∀ x y, x < 24 → y < 24 → B x y = B' x y) : MeshAt w bm p B' gone := by
  refine VHas.congr h (fun j hj => ?_)
  unfold meshV
  by_cases h0 : j = 0
  · rw [if_pos h0, if_pos h0]
  · rw [if_neg h0, if_neg h0]
    by_cases h1 : j < 577
    · rw [if_pos h1, if_pos h1, e _ _ (by omega) (by omega)]
    · rw [if_neg h1, if_neg h1]
set_option maxHeartbeats 1000000 in
theorem join_any (bm a b : Nat) (p : Int) (B : Nat → Nat → Bool) (gone : Nat → Bool) (ha : a < 24) (hb : b < 24) (hne : a ≠ b) (w : World) (h : MeshAt w bm p B gone) :
    Calls Tryz.prog 95 #[.pointer (some ⟨bm, 0, none⟩), .int .i64 (a : Int), .int .i64 (b : Int)] w fun e w' => e = .returned (.tuple #[]) ∧ MeshAt w' bm p (upd2 B a b true) gone ∧ w.grownBy w' (some bm) := by
  have d0 := h.at ha hb
  have z0 := VHas.frozen h (1 + a * 24 + b)
  have d1 := h.at hb ha
  have z1 := VHas.frozen h (1 + b * 24 + a)
  have n1 : ¬ 1 + a * 24 + b = 1 + b * 24 + a := by omega
  have n2 : ¬ 1 + b * 24 + a = 1 + a * 24 + b := by omega
  have ha' : (a : Int) < 24 := by omega
  have hb' : (b : Int) < 24 := by omega
  go_enter Tryz.func95, Tryz.ntmps95
  go_wp2
  simp [bodyPost, results, Tryz.results95, go_sem]
  exact ⟨(h.put ha hb true).put hb ha true, (gr_setCell w bm (1 + a * 24 + b) (.bool true)).trans (gr_setCell _ bm (1 + b * 24 + a) (.bool true))⟩
set_option maxHeartbeats 1000000 in
theorem part_any (bm a b : Nat) (p : Int) (B : Nat → Nat → Bool) (gone : Nat → Bool) (ha : a < 24) (hb : b < 24) (hne : a ≠ b) (w : World) (h : MeshAt w bm p B gone) :
    Calls Tryz.prog 97 #[.pointer (some ⟨bm, 0, none⟩), .int .i64 (a : Int), .int .i64 (b : Int)] w fun e w' => e = .returned (.tuple #[]) ∧ MeshAt w' bm p (upd2 B a b false) gone ∧ w.grownBy w' (some bm) := by
  have d0 := h.at ha hb
  have z0 := VHas.frozen h (1 + a * 24 + b)
  have d1 := h.at hb ha
  have z1 := VHas.frozen h (1 + b * 24 + a)
  have n1 : ¬ 1 + a * 24 + b = 1 + b * 24 + a := by omega
  have n2 : ¬ 1 + b * 24 + a = 1 + a * 24 + b := by omega
  have ha' : (a : Int) < 24 := by omega
  have hb' : (b : Int) < 24 := by omega
  go_enter Tryz.func97, Tryz.ntmps97
  go_wp2
  simp [bodyPost, results, Tryz.results97, go_sem]
  exact ⟨(h.put ha hb false).put hb ha false, (gr_setCell w bm (1 + a * 24 + b) (.bool false)).trans (gr_setCell _ bm (1 + b * 24 + a) (.bool false))⟩
def isF : Option Value → Bool
  | some (.bool b) => !b
  | _ => false
set_option maxRecDepth 100000 in
theorem zero_cells : (List.range 601).all (fun j => j == 0 || isF (Tryz.zeroCells138[j]?)) = true := by kernel_rfl
set_option maxRecDepth 100000 in
theorem zero_size : Tryz.zeroCells138.size = 601 := by kernel_rfl
theorem mesh_new (w : World) (p : Int) : MeshAt (w.alloc (.cells (Tryz.zeroCells138.setIfInBounds 0 (.int .i64 p)) 138)) w.heap.size p (fun _ _ => false) (fun _ => false) := by
  refine ⟨_, Go.Deep.blk_alloc_new _ _, by rw [Array.size_setIfInBounds, zero_size]; exact Nat.le_refl _, fun j hj => ?_⟩
  unfold meshV
  by_cases h0 : j = 0
  · subst h0
    rw [if_pos rfl, Array.getElem?_setIfInBounds_self_of_lt (by rw [zero_size]; omega)]
  · rw [if_neg h0, Array.getElem?_setIfInBounds_ne (fun e => h0 e.symm)]
    have := List.all_eq_true.1 zero_cells j (List.mem_range.2 hj)
    have hz : (j == 0) = false := by simpa using h0
    rw [hz, Bool.false_or] at this
    have e : Tryz.zeroCells138[j]? = some (.bool false) := by
      generalize Tryz.zeroCells138[j]? = o at this
      cases o with
      | none => cases this
      | some v =>
        cases v <;> first | (simp [isF] at this; done) | (simp [isF] at this; subst this; rfl)
    rw [e]
    split <;> rfl
set_option maxHeartbeats 1000000 in
theorem meshOf_any (p : Nat) (ao : Option Addr) (n cap : Nat) (F T G : Nat → Int) (hp : p ≤ 24) (hn : n ≤ 100) (hF : ∀ k, k < n → 0 ≤ F k ∧ F k < (p : Int)) (hT : ∀ k, k < n → 0 ≤ T k ∧ T k < (p : Int)) (hFT : ∀ k, k < n → F k ≠ T k) (w : World) (hr : Row w ao n F T G) :
    Calls Tryz.prog 79 #[.agg #[.int .i64 (p : Int), .slice ao n cap]] w fun e w' => ∃ bm, e = .returned (.pointer (some ⟨bm, 0, none⟩)) ∧ w.heap.size ≤ bm ∧ MeshAt w' bm (p : Int) (nbA F T n) (fun _ => false) ∧ Below w.heap.size w w' := by
  go_enter Tryz.func79, Tryz.ntmps79
  go_wp2
  go_loopw [13] (fun i wr => ∃ k : Nat, k ≤ n ∧ i = .int .i64 k ∧ MeshAt wr (w.heap.size + 1) (p : Int) (nbA F T k) (fun _ => false) ∧ Below (w.heap.size + 1) (w.alloc (.cells #[.int .i64 (p : Int), .slice ao n cap] 26)) wr) (fun i _ => n - (intOf i).toNat)
  case atStart => exact ⟨0, Nat.zero_le _, rfl, by have := mesh_new (w.alloc (.cells #[.int .i64 (p : Int), .slice ao n cap] 26)) (p : Int); simp only [World.size_alloc] at this; exact this, (Below.refl _ _).alloc (by simp) _⟩
  case round =>
    obtain ⟨k, hk, rfl, hM, hbel⟩ := hrel
    have hml := VHas.lt hM
    by_cases hlt : k < n
    rotate_left
    · have hkn : k = n := by omega
      subst hkn
      go_wp2
      go_ret
      exact ⟨_, rfl, by omega, hM, unbox hbel (by omega)⟩
    obtain ⟨b, o, hao, c0, c1, c2⟩ := ((hr.alloc _).below hbel (by simp)) k hlt
    subst hao
    have hf0 := hF k hlt
    have ht0 := hT k hlt
    have hne0 := hFT k hlt
    obtain ⟨f, hf⟩ : ∃ f : Nat, F k = (f : Int) := ⟨(F k).toNat, by omega⟩
    obtain ⟨t, ht⟩ : ∃ t : Nat, T k = (t : Int) := ⟨(T k).toNat, by omega⟩
    have hst : Hid (nbA F T (k + 1) = upd2 (nbA F T k) f t true) := by
      show upd2 (nbA F T k) (F k).toNat (T k).toNat true = _
      rw [hf, ht]; rfl
    rw [hf] at c0 hf0 hne0
    rw [ht] at c1 ht0 hne0
    clear hf ht
    have hft : f ≠ t := by omega
    have hal := (Below.refl wr.heap.size wr).alloc nl (.cells #[.int .i64 (f : Int), .int .i64 (t : Int), .int .i64 (G k)] 67)
    have hj := join_any (w.heap.size + 1) f t (p : Int) _ _ (by omega) (by omega) hft _ (VHas.next hM hal)
    have hB2 := below_next hbel (by simp) hal
    clear hM hbel
    go_wp2_with (go_at_call 95; refine hj.mono ?_; rintro e w2 ⟨rfl, hM2, hg2⟩)
    go_roundw
    case rel => exact ⟨k + 1, by omega, by go_num, by rw [hst.out]; exact hM2, hB2.trans (gr_below hg2 nl (by have := hB2.size; simpa using this))⟩
    case measure => simp [intOf]; omega
end
section
open Go Go.RowKit
section
variable {F : Fence} {n m : Nat} {P : Program}
theorem yield_of {l : Nat} {r : Loop} {args : Array Value} {W : World} {R : Ending → World → Prop} (hl : W.heap[l]? = some (.loop r)) (hs : args.size = r.params.size) (hr : r.state = .ready) (hp : r.pending = none) (hfn : F.fn r.fn)
    (h : r.assign.wpIn (F.inRound l) m P (Exit.then (fun a' Wa => Wa.heap[l]? = some (.loop r) ∧ r.body.wpIn (F.inRound l) m P (fun e _ W3 => e = .normal ∧ W3.heap[l]? = some (.loop { r with state := .busy }) ∧ R (.returned (.bool true)) (W3.putObj l (.loop r))) a' (Wa.putObj l (.loop { r with state := .busy }))) (fun _ _ _ => False))
      { tmps := (r.params.zip args).foldl (fun t (p, v) => t.setIfInBounds p v) r.tmps, defers := [] } W) : YieldAt F m P l args W R := by
  refine ⟨_, _, _, _, run_yield hl hs, roundIn_of_wpIn hfn (wpIn_mono h ?_)⟩
  intro e a' Wa hh
  cases e with
  | normal =>
    obtain ⟨h1, h2⟩ := hh
    refine ⟨_, run_beginRound h1 hr, wpIn_mono h2 ?_⟩
    rintro e3 a3 W3 ⟨rfl, h3, h4⟩
    refine ⟨_, _, run_endRound none h3, ?_⟩
    have e : ({ { r with state := .busy } with state := if (none : Option Code).isNone then .ready else .done, pending := none } : Loop) = r := by
      cases r; simp_all
    rw [e]
    exact h4
  | _ => exact hh
def roundQ {α : Type} (B : Nat) (I : List α → World → Prop) (xs : List α) (W : World) : Exit → Act → World → Prop := fun e _ W' => e = .normal ∧ KeepsFrom B W W' ∧ I xs W'
def SeqAt {α : Type} (F : Fence) (n : Nat) (P : Program) (gf : Nat) (lb : Array Value) (encs : α → Array Value) (I : List α → World → Prop) (G : List α → α → Prop) (S : List α → Prop) (w : World) : Prop :=
  ∀ (l : Nat) (J : List α → World → Prop) (W : World), Below w.heap.size w W → AbidesFrom W.heap.size J → (∀ pre W1, J pre W1 → I pre W1) →
    (∀ pre x W1, J pre W1 → G pre x → YieldAt F (n - 1) P l (encs x) W1 fun e W' => e = .returned (.bool true) ∧ J (pre ++ [x]) W') → J [] W →
    CallsIn F n P gf (#[.func (.yield l) #[] #[]] ++ lb) W fun e W' => (∃ v, e = .returned v) ∧ ∃ xs, S xs ∧ J xs W'
theorem round_of {α : Type} {B l : Nat} {r : Loop} {encs : α → Array Value} {x : α} {pre : List α} {W : World} {I : List α → World → Prop} {Ax : α → Act → World → Prop} (hI : OwnFrom B I) (hAx : ∀ a', OwnFrom B (fun (_ : Unit) W => Ax x a' W))
    (hB : B ≤ l) (hl : W.heap[l]? = some (.loop r)) (hs : (encs x).size = r.params.size) (hr : r.state = .ready) (hp : r.pending = none) (hfn : F.fn r.fn) (hi : I pre W)
    (hassign : ∀ K : Act → World → Prop, (∀ a' W', KeepsFrom B W W' → I pre W' → Ax x a' W' → K a' W') →
      r.assign.wpIn (F.inRound l) m P (Exit.then K (fun _ _ _ => False)) { tmps := (r.params.zip (encs x)).foldl (fun t (p, v) => t.setIfInBounds p v) r.tmps, defers := [] } W)
    (hbody : ∀ (a' : Act) (W' : World), (∃ r, W'.heap[l]? = some (.loop r)) → I pre W' → Ax x a' W' → r.body.wpIn (F.inRound l) m P (roundQ B I (pre ++ [x]) W') a' W')
    {R : World → Prop} (hR : ∀ W', I (pre ++ [x]) W' → W'.heap[l]? = some (.loop r) → (∀ k o, B ≤ k → k ≠ l → W.heap[k]? = some o → o.isCells = false → W'.heap[k]? = some o) → R W') :
    YieldAt F m P l (encs x) W fun e W' => e = .returned (.bool true) ∧ R W' := by
  refine yield_of hl hs hr hp hfn (hassign _ ?_)
  intro a' Wa hk hia hax
  have hla := hk.same l _ hB hl rfl
  have hlt := (Array.getElem?_eq_some_iff.1 hla).1
  have hl2 : (Wa.putObj l (.loop { r with state := .busy })).heap[l]? = some (.loop { r with state := .busy }) := World.putObj_heap_same hlt
  refine ⟨hla, wpIn_mono (hbody a' _ ⟨_, hl2⟩ (hI.putObj _ hia hB hla rfl) ((hAx a').putObj (s := ()) _ hax hB hla rfl)) ?_⟩
  rintro e a3 W3 ⟨rfl, hk3, hi3⟩
  have hl3 := hk3.same l _ hB hl2 rfl
  refine ⟨rfl, hl3, rfl, hR _ (hI.putObj _ hi3 hB hl3 rfl) (World.putObj_heap_same (Array.getElem?_eq_some_iff.1 hl3).1) ?_⟩
  intro k o hBk hne h0 ho
  rw [World.putObj_heap_other hne]
  refine hk3.same k o hBk ?_ ho
  rw [World.putObj_heap_other hne]
  exact hk.same k o hBk h0 ho
theorem range_alone {α : Type} {g : Operand} {ps : Array Tmp} {assign body : Code} {Q : Exit → Act → World → Prop} {a : Act} {w : World}
    (hro : F.round = none) (h1 : 1 ≤ n) {gf : Nat} {lb : Array Value} (hg : a.eval g = .func (.func gf) #[] lb) (hFg : F.fn gf) (eg : ∀ args w, (callFunc gf args).run P w = .ok (.enter gf args) w)
    {encs : α → Array Value} (hps : ∀ x, (encs x).size = ps.size) (I : List α → World → Prop) (hI : OwnFrom w.heap.size I) (h0 : I [] w) {G : List α → α → Prop} {S : List α → Prop} (hseq : SeqAt F (n - 1) P gf lb encs I G S w)
    (Ax : α → Act → World → Prop) (hAx : ∀ x a', OwnFrom w.heap.size (fun (_ : Unit) W => Ax x a' W))
    (hassign : ∀ (l : Nat) (pre : List α) (x : α) (W : World) (K : Act → World → Prop), I pre W → G pre x → (∀ a' W', KeepsFrom w.heap.size W W' → I pre W' → Ax x a' W' → K a' W') →
      assign.wpIn (F.inRound l) (n - 1 - 1) P (Exit.then K (fun _ _ _ => False)) { tmps := (ps.zip (encs x)).foldl (fun t (p, v) => t.setIfInBounds p v) a.tmps, defers := [] } W)
    (hbody : ∀ (l : Nat) (pre : List α) (x : α) (a' : Act) (W : World), w.heap.size ≤ l → (∃ r, W.heap[l]? = some (.loop r)) → I pre W → G pre x → Ax x a' W → body.wpIn (F.inRound l) (n - 1 - 1) P (roundQ w.heap.size I (pre ++ [x]) W) a' W)
    (hdone : ∀ (D : Nat) (xs : List α) (W : World), w.heap.size ≤ D → S xs → I xs W → W.heap[D]? = some (.deferred (some [])) → Q .normal { a with defers := { target := .collected D, args := #[] } :: a.defers } W) :
    (Code.rangeFunc g ps assign body).wpIn F n P Q a w := by
  refine wpIn_rangeFunc fun fn hfn => ?_
  rw [hro]
  obtain ⟨r, hr⟩ : ∃ r : Loop, r = { state := .ready, pending := none, fn, tmps := a.tmps, params := ps, assign, body, defers := w.heap.size } := ⟨_, rfl⟩
  have hen := run_enterLoop_outer (P := P) (w := w) fn a.tmps ps assign body
  rw [← hr] at hen
  have hb : Below w.heap.size w ((w.alloc (.deferred (some []))).alloc (.loop r)) := ((Below.refl _ w).alloc nl _).alloc (by simp) _
  have hL : ((w.alloc (.deferred (some []))).alloc (.loop r)).heap[w.heap.size + 1]? = some (.loop r) := by
    have := World.alloc_heap_new (w.alloc (.deferred (some []))) (.loop r)
    rwa [World.size_alloc] at this
  have hD : ((w.alloc (.deferred (some []))).alloc (.loop r)).heap[w.heap.size]? = some (.deferred (some [])) := (Below.heap_alloc _ _ _ (by simp)).trans (World.alloc_heap_new w _)
  have hi := hI.alloc (.loop r) (hI.alloc (.deferred (some [])) h0)
  have hsz : ((w.alloc (.deferred (some []))).alloc (.loop r)).heap.size = w.heap.size + 2 := by simp
  generalize (w.alloc (.deferred (some []))).alloc (.loop r) = W1 at hb hL hD hi hsz hen
  refine ⟨w.heap.size + 1, [{ target := .collected w.heap.size, args := #[] }], W1, { target := .fn (.func gf) lb, args := #[.func (.yield (w.heap.size + 1)) #[] #[]] }, W1, gf, #[.func (.yield (w.heap.size + 1)) #[] #[]] ++ lb, W1, hen, ?_, ?_, ?_, fun _ => h1, ?_⟩
  · simp only [resolve, hg]
    simp [go_sem]
  · intro f' hf'
    simp [Target.leads] at hf'
    subst hf'
    exact hFg
  · simp [invoke, go_sem, eg]
  refine (hseq (w.heap.size + 1) (fun pre W => I pre W ∧ W.heap[w.heap.size + 1]? = some (.loop r) ∧ W.heap[w.heap.size]? = some (.deferred (some []))) W1 hb ?_ (fun _ _ h => h.1) ?_ ⟨hi, hL, hD⟩).mono ?_
  · rintro s A B row ⟨hs, hl, hd⟩ hg' hrow
    have hw' : ∀ r, row = some r → ∃ o : Obj, A.heap[r]? = some o ∧ o.isWalk = true := fun r e => (hrow r e).2
    refine ⟨hI s A B row hs hg' (fun j e => ?_), (grownBy_keeps hg' hw' hl rfl).trans hl, (grownBy_keeps hg' hw' hd rfl).trans hd⟩
    obtain ⟨hj, o, ho, hwo⟩ := hrow j e
    exact ⟨by omega, o, ho, Obj.not_cells_of_walk hwo⟩
  · rintro pre x W ⟨hi', hl', hd'⟩ hG
    refine round_of hI (hAx x) (by omega) hl' (by rw [hr]; exact hps x) (by rw [hr]) (by rw [hr]) (by rw [hr]; exact hfn) hi' ?_ ?_ ?_
    · intro K hK
      have := hassign (w.heap.size + 1) pre x W K hi' hG hK
      rw [hr]
      exact this
    · intro a' W' hrec hi2 hax
      have := hbody (w.heap.size + 1) pre x a' W' (by omega) hrec hi2 hG hax
      rw [hr]
      exact this
    · intro W' hi3 hl3 hrest
      exact ⟨hi3, hl3, hrest _ _ nl (by omega) hd' rfl⟩
  · rintro e W2 ⟨⟨v, rfl⟩, xs, hS, hi2, hl2, hd2⟩
    refine ⟨none, _, ?_, hdone _ xs _ nl hS (hI.putObj (.loop { r with state := .exhausted }) hi2 (by omega) hl2 rfl) ((World.putObj_heap_other (by omega)).trans hd2)⟩
    have := run_endLoop (P := P) hl2 (by rw [hr]; simp)
    have e : r.pending = none := by rw [hr]
    rw [e] at this ⊢
    exact this
theorem range_within {α : Type} {g : Operand} {ps : Array Tmp} {assign body : Code} {Q : Exit → Act → World → Prop} {a : Act} {w : World}
    {l₀ : Nat} {r₀ : Loop} (hro : F.round = some l₀) (hl₀ : w.heap[l₀]? = some (.loop r₀)) (h1 : 1 ≤ n) {gf : Nat} {lb : Array Value} (hg : a.eval g = .func (.func gf) #[] lb) (hFg : F.fn gf) (eg : ∀ args w, (callFunc gf args).run P w = .ok (.enter gf args) w)
    {encs : α → Array Value} (hps : ∀ x, (encs x).size = ps.size) (I : List α → World → Prop) (hI : OwnFrom w.heap.size I) (h0 : I [] w) {G : List α → α → Prop} {S : List α → Prop} (hseq : SeqAt F (n - 1) P gf lb encs I G S w)
    (Ax : α → Act → World → Prop) (hAx : ∀ x a', OwnFrom w.heap.size (fun (_ : Unit) W => Ax x a' W))
    (hassign : ∀ (l : Nat) (pre : List α) (x : α) (W : World) (K : Act → World → Prop), I pre W → G pre x → (∀ a' W', KeepsFrom w.heap.size W W' → I pre W' → Ax x a' W' → K a' W') →
      assign.wpIn (F.inRound l) (n - 1 - 1) P (Exit.then K (fun _ _ _ => False)) { tmps := (ps.zip (encs x)).foldl (fun t (p, v) => t.setIfInBounds p v) a.tmps, defers := [] } W)
    (hbody : ∀ (l : Nat) (pre : List α) (x : α) (a' : Act) (W : World), w.heap.size ≤ l → (∃ r, W.heap[l]? = some (.loop r)) → I pre W → G pre x → Ax x a' W → body.wpIn (F.inRound l) (n - 1 - 1) P (roundQ w.heap.size I (pre ++ [x]) W) a' W)
    (hdone : ∀ (xs : List α) (W : World), S xs → I xs W → Q .normal a W) :
    (Code.rangeFunc g ps assign body).wpIn F n P Q a w := by
  refine wpIn_rangeFunc fun fn hfn => ?_
  rw [hro]
  obtain ⟨r, hr⟩ : ∃ r : Loop, r = { state := .ready, pending := none, fn, tmps := a.tmps, params := ps, assign, body, defers := r₀.defers } := ⟨_, rfl⟩
  have hen := run_enterLoop_inner (P := P) hl₀ fn a.tmps ps assign body
  rw [← hr] at hen
  have hb : Below w.heap.size w (w.alloc (.loop r)) := (Below.refl _ w).alloc nl _
  have hL : (w.alloc (.loop r)).heap[w.heap.size]? = some (.loop r) := World.alloc_heap_new w _
  have hi := hI.alloc (.loop r) h0
  have hsz : (w.alloc (.loop r)).heap.size = w.heap.size + 1 := by simp
  generalize w.alloc (.loop r) = W1 at hb hL hi hsz hen
  refine ⟨w.heap.size, [], W1, { target := .fn (.func gf) lb, args := #[.func (.yield w.heap.size) #[] #[]] }, W1, gf, #[.func (.yield w.heap.size) #[] #[]] ++ lb, W1, hen, ?_, ?_, ?_, fun _ => h1, ?_⟩
  · simp only [resolve, hg]
    simp [go_sem]
  · intro f' hf'
    simp [Target.leads] at hf'
    subst hf'
    exact hFg
  · simp [invoke, go_sem, eg]
  refine (hseq w.heap.size (fun pre W => I pre W ∧ W.heap[w.heap.size]? = some (.loop r)) W1 hb ?_ (fun _ _ h => h.1) ?_ ⟨hi, hL⟩).mono ?_
  · rintro s A B row ⟨hs, hl⟩ hg' hrow
    have hw' : ∀ r, row = some r → ∃ o : Obj, A.heap[r]? = some o ∧ o.isWalk = true := fun r e => (hrow r e).2
    refine ⟨hI s A B row hs hg' (fun j e => ?_), (grownBy_keeps hg' hw' hl rfl).trans hl⟩
    obtain ⟨hj, o, ho, hwo⟩ := hrow j e
    exact ⟨by omega, o, ho, Obj.not_cells_of_walk hwo⟩
  · rintro pre x W ⟨hi', hl'⟩ hG
    refine round_of hI (hAx x) nl hl' (by rw [hr]; exact hps x) (by rw [hr]) (by rw [hr]) (by rw [hr]; exact hfn) hi' ?_ ?_ ?_
    · intro K hK
      have := hassign w.heap.size pre x W K hi' hG hK
      rw [hr]
      exact this
    · intro a' W' hrec hi2 hax
      have := hbody w.heap.size pre x a' W' nl hrec hi2 hG hax
      rw [hr]
      exact this
    · intro W' hi3 hl3 _
      exact ⟨hi3, hl3⟩
  · rintro e W2 ⟨⟨v, rfl⟩, xs, hS, hi2, hl2⟩
    refine ⟨none, _, ?_, hdone xs _ hS (hI.putObj (.loop { r with state := .exhausted }) hi2 nl hl2 rfl)⟩
    have := run_endLoop (P := P) hl2 (by rw [hr]; simp)
    have e : r.pending = none := by rw [hr]
    rw [e] at this ⊢
    exact this
end
end
section
open Go.RowKit Go.Shelf
attribute [local go_sem] Oper.semAt_some
theorem neighbours_any (bm : Nat) (place : Int) (w : World) :
    Calls Tryz.prog 80 #[.pointer (some ⟨bm, 0, none⟩), .int .i64 place] w fun e w' => e = .returned (.func (.func 96) #[] #[.pointer (some ⟨w.heap.size, 0, none⟩), .pointer (some ⟨w.heap.size + 1, 0, none⟩)]) ∧ w' = (w.alloc (.cells #[.pointer (some ⟨bm, 0, none⟩)] 116)).alloc (.cells #[.int .i64 place] 2) := by
  go_enter Tryz.func80, Tryz.ntmps80
  go_wp2
  go_ret
  exact ⟨rfl, rfl⟩
structure Reads (bM bP bm p place : Nat) (W : World) (f : Nat → Bool) : Prop where
  rdM : W.cell? ⟨bM, 0, none⟩ = some (.pointer (some ⟨bm, 0, none⟩))
  rdP : W.cell? ⟨bP, 0, none⟩ = some (.int .i64 (place : Int))
  rdN : W.cell? ⟨bm, 0, none⟩ = some (.int .i64 (p : Int))
  rdR : ∀ j, j < 24 → W.cell? ⟨bm, 1 + place * 24 + j, none⟩ = some (.bool (f j))
set_option maxRecDepth 100000 in
set_option maxHeartbeats 2000000 in
theorem iter_core (n : Nat) (hn : 1 ≤ n) (l bM bP bm p place : Nat) (hp : p ≤ 24) (hpl : place < 24) (J Jx : List Nat → World → Prop) (bits : List Nat → Nat → Bool) (W : World) (hJ : AbidesFrom W.heap.size J)
    (hRd : ∀ pre W1, J pre W1 → Reads bM bP bm p place W1 (bits pre))
    (hY : ∀ k W1, k < p → bits (vis bits k) k = true → J (vis bits k) W1 → YieldAt Fence.wide (n - 1) Tryz.prog l #[.int .i64 (k : Int)] W1 fun e W' => (e = .returned (.bool true) ∧ J (vis bits k ++ [k]) W') ∨ (e = .returned (.bool false) ∧ Jx (vis bits k ++ [k]) W'))
    (h0 : J [] W) :
    CallsIn Fence.wide n Tryz.prog 96 #[.func (.yield l) #[] #[], .pointer (some ⟨bM, 0, none⟩), .pointer (some ⟨bP, 0, none⟩)] W fun e W' => (∃ v, e = .returned v) ∧ (J (vis bits p) W' ∨ ∃ k, k < p ∧ bits (vis bits k) k = true ∧ Jx (vis bits k ++ [k]) W') := by
  obtain ⟨r1, r2, r3, r4⟩ := hRd _ _ h0
  refine callsIn_of_wp Tryz.func96 rfl trivial ?_ rfl
  simp only [Tryz.ntmps96, List.size_toArray, List.length_cons, List.length_nil, Nat.reduceAdd, Nat.reduceSub, Array.replicate_succ, Array.replicate_zero, List.push_toArray, List.append_toArray, List.nil_append, List.cons_append]
  gi_wp2
  clear r1 r2 r3 r4
  gi_loopw [9] (fun i wr => ∃ k : Nat, k ≤ p ∧ i = .int .i64 k ∧ J (vis bits k) wr) (fun i _ => p - (intOf i).toNat)
  case atStart => exact ⟨0, Nat.zero_le _, rfl, h0⟩
  case round =>
    obtain ⟨k, hk, rfl, hJk⟩ := hrel
    by_cases hlt : k < p
    rotate_left
    · have hkp : k = p := by omega
      subst hkp
      gi_wp2
      go_end0
      exact ⟨⟨_, rfl⟩, .inl hJk⟩
    have hlt' : (k : Int) < (p : Int) := by omega
    obtain ⟨r1, r2, r3, r4⟩ := hRd _ _ hJk
    have r5 := r4 k (by omega)
    have hpl' : (place : Int) < 24 := by omega
    have hk24 : (k : Int) < 24 := by omega
    cases hb : bits (vis bits k) k
    · have hv : Hid (vis bits (k + 1) = vis bits k) := by
        show (if bits (vis bits k) k then _ else _) = _
        rw [hb]; rfl
      rw [hb] at r5
      clear r4
      gi_wp2
      refine wpIn_region_quiet_lit rfl (by kernel_rfl) (by kernel_rfl) ?_
      repeat (gi_big_quiet_step (fail))
      refine BigFrame.wpQuietIn_skip (fun _ _ _ _ => trivial) rfl ?_
      simp only [go_sem, Act.put, List.setIfInBounds_toArray, List.set_cons_succ, List.set_cons_zero]
      repeat (gi_big_quiet_step (fail))
      refine wpQuietIn_nil ?_
      intro _ hw'
      obtain ⟨nq, hw''⟩ := hw'
      subst hw''
      gi_wp2
      go_roundw
      case rel => exact ⟨k + 1, by omega, by go_num, by rw [hv.out]; exact hJ _ _ _ none hJk ⟨rfl, rfl, rfl, Nat.le_refl _, fun _ _ _ => rfl⟩ (fun r e => by cases e)⟩
      case measure => simp [intOf]; omega
    · have hv : Hid (vis bits (k + 1) = vis bits k ++ [k]) := by
        show (if bits (vis bits k) k then _ else _) = _
        rw [hb]; rfl
      rw [hb] at r5
      clear r4
      obtain ⟨fn, tmps, assign, body, hy, hR⟩ := hY k wr.drew hlt hb (hJ _ _ _ none hJk ⟨rfl, rfl, rfl, Nat.le_refl _, fun _ _ _ => rfl⟩ (fun r e => by cases e))
      have hR' := hR.mono (R' := fun e W' => ∃ b : Bool, e = .returned (.bool b) ∧ ((b = true ∧ J (vis bits k ++ [k]) W') ∨ (b = false ∧ Jx (vis bits k ++ [k]) W'))) (fun e W' h => by
        rcases h with ⟨h1, h2⟩ | ⟨h1, h2⟩
        · exact ⟨true, h1, .inl ⟨rfl, h2⟩⟩
        · exact ⟨false, h1, .inr ⟨rfl, h2⟩⟩)
      clear hR
      gi_wp2
      gi_region_with (refine hR'.mono ?_; rintro e W3 ⟨b, rfl, hor⟩)
      all_goals
        rcases hor with ⟨rfl, hJ3⟩ | ⟨rfl, hJx3⟩
        · gi_wp2
          go_roundw
          case rel => exact ⟨k + 1, by omega, by go_num, by rw [hv.out]; exact hJ3⟩
          case measure => simp [intOf]; omega
        · gi_wp2
          refine bodyPost_ret (results_none rfl _ _ _) rfl ?_
          exact ⟨⟨_, rfl⟩, .inr ⟨k, hlt, hb, hJx3⟩⟩
theorem Reads.grown {bM bP bm p place : Nat} {W W' : World} {f : Nat → Bool} {row : Option Nat} (h : Reads bM bP bm p place W f) (hg : W.grownBy W' row) (hr : ∀ r, row = some r → ∃ o : Obj, W.heap[r]? = some o ∧ o.isCells = false) : Reads bM bP bm p place W' f :=
  ⟨cell_kept h.rdM hg hr, cell_kept h.rdP hg hr, cell_kept h.rdN hg hr, fun j hj => cell_kept (h.rdR j hj) hg hr⟩
theorem Reads.of_mesh {bM bP bm p place : Nat} {W : World} {B : Nat → Nat → Bool} {gone : Nat → Bool} (hp : place < 24) (h1 : W.cell? ⟨bM, 0, none⟩ = some (.pointer (some ⟨bm, 0, none⟩))) (h2 : W.cell? ⟨bP, 0, none⟩ = some (.int .i64 (place : Int))) (h : MeshAt W bm (p : Int) B gone) : Reads bM bP bm p place W (B place) :=
  ⟨h1, h2, h.places, fun j hj => h.at hp hj⟩
theorem iter_stops (n : Nat) (hn : 1 ≤ n) (bM bP bm p place : Nat) (f : Nat → Bool) (hp : p ≤ 24) (hpl : place < 24) (w : World) (hR : Reads bM bP bm p place w f) :
    SeqStopsK Fence.wide n Tryz.prog 96 #[.pointer (some ⟨bM, 0, none⟩), .pointer (some ⟨bP, 0, none⟩)] (fun x : Nat => #[Value.int .i64 (x : Int)]) (fun W W' => Reads bM bP bm p place W f → Reads bM bP bm p place W' f) (fun xs => xs = visF f p) (fun pre => ∃ k, k < p ∧ f k = true ∧ pre = visF f k ++ [k]) 25 w := fun l J Jx W hW hJ hJx hY h0 => by
  have hRW : Reads bM bP bm p place W f := hR.grown (row := none) ⟨hW.os, hW.tape, hW.output, hW.size, fun k hk _ => hW.block k hk⟩ (fun r e => by cases e)
  refine (iter_core n hn l bM bP bm p place hp hpl (fun pre W => J pre W ∧ Reads bM bP bm p place W f) Jx (fun _ => f) W ?_ (fun _ _ h => h.2) ?_ ⟨h0, hRW⟩).mono ?_
  · rintro s A B row ⟨h1, h2⟩ hg hr
    exact ⟨hJ s A B row h1 hg hr, h2.grown hg (fun r e => by obtain ⟨_, o, ho, hw⟩ := hr r e; exact ⟨o, ho, Obj.not_cells_of_walk hw⟩)⟩
  · rintro k W1 hk hb ⟨h1, h2⟩
    obtain ⟨fn, tmps, assign, body, hy, hR1⟩ := hY (visF f k) k W1 h1 (by rw [visF_len]; have := cntB_le f k; omega)
    refine ⟨fn, tmps, assign, body, hy, hR1.mono ?_⟩
    rintro e W' (⟨h3, h4, h5⟩ | ⟨h3, h4⟩)
    · exact .inl ⟨h3, h4, h5 h2⟩
    · exact .inr ⟨h3, h4⟩
  · rintro e W' ⟨hv, (⟨h1, _⟩ | ⟨k, hk, hb, h1⟩)⟩
    · exact ⟨hv, .inl ⟨_, rfl, h1⟩⟩
    · exact ⟨hv, .inr ⟨_, ⟨k, hk, hb, rfl⟩, h1⟩⟩
end
end Go.Proofs.YthmpliljffmmcaaGreatDoor
