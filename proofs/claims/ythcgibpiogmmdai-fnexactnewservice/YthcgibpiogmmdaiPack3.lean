/-
  Helpers, merged: OkImpl, Box22, HierS, Keys, Has, Turns, Svc, Mark, Copy2, MeshMem, Rounds, Iter, Count.
-/
import Derived.Test.YthcgibpiogmmdaiPack2
import Derived.Test.YthcgibpiogmmdaiPack1
import Derived.Deep.QuietTactic
import Derived.BigQuiet
import Derived.Deep.DrawnRows
import Derived.Maps.Own
import Derived.Maps.OwnOps
import Derived.Maps.OwnSet
import Derived.Maps.Views
import Derived.DeepKeys4
import Derived.Laws.CopyOwn
import Derived.Maps.AppendAt
import Derived.Maps.Range
import Derived.Deep.AppendLies
import Derived.Test.YthcgibpiogmmdaiRows
import Derived.RangeFuncNested
import Derived.RangeFuncBound
import Derived.RangeFuncCalls
import Derived.RangeFuncLeaves
import Derived.Shelf.Abstract
import Derived.Shelf.RegionOpen
import Derived.WalkKit
import Derived.OwnWalkIn
import Derived.TacticsInMore
import Derived.LoopNIn
import Derived.LoopIn
import Derived.Sort.QuietIn
/-
  The program's GraphOk answers 'graphB' of the map's places and arcs, for every map.
-/
set_option linter.unusedVariables false
set_option linter.unusedSimpArgs false
namespace Go.Proofs.Ythcgibpiogmmdai
open Go.RowKit
attribute [local go_sem ↓] Go.wp_at_zero Go.wp_at_succ

set_option maxHeartbeats 1600000 in
theorem implGraphOk_any (p : Int) (ao : Option Addr) (n cap : Nat) (F T G : Nat → Int) (hn : n ≤ 1048576) (w : World) (hr : Row w ao n F T G) :
    Calls Try.prog 33 #[.agg #[.int .i64 p, .slice ao n cap]] w fun e w' => e = .returned (.bool (graphB p n F T G)) ∧ Below w.heap.size w w' := by
  by_cases h1 : p < 1
  · go_enter Try.func33, Try.ntmps33
    go_wp2
    go_ret
    exact ⟨ret_bool (by simp [graphB, inB]; omega), (Below.refl _ _).alloc (Nat.le_refl _) _⟩
  by_cases h2 : 24 < p
  · go_enter Try.func33, Try.ntmps33
    go_wp2
    go_ret
    exact ⟨ret_bool (by simp [graphB, inB]; omega), (Below.refl _ _).alloc (Nat.le_refl _) _⟩
  have hin : Hid (inB p 1 24 = true) := by show inB p 1 24 = true; simp [inB]; omega
  by_cases h3 : 100 < n
  · go_enter Try.func33, Try.ntmps33
    go_wp2
    go_ret
    exact ⟨ret_bool (by simp [graphB]; omega), (Below.refl _ _).alloc (Nat.le_refl _) _⟩
  have hn' : Hid (decide (n ≤ 100) = true) := by show decide (n ≤ 100) = true; simp; omega
  go_enter Try.func33, Try.ntmps33
  go_wp2
  go_loopw [22] (fun i wr => ∃ k : Nat, k ≤ n ∧ i = .int .i64 k ∧ arcsB p F T G k = true ∧ Below (w.heap.size + 1) (w.alloc (.cells #[.int .i64 p, .slice ao n cap] 37)) wr) (fun i _ => n - (intOf i).toNat)
  case atStart => exact ⟨0, Nat.zero_le _, rfl, rfl, Below.refl _ _⟩
  case round =>
    obtain ⟨k, hk, rfl, hok, hbel⟩ := hrel
    have g0 : wr.cell? ⟨w.heap.size, 0, none⟩ = some (.int .i64 p) := by rw [hbel.cell (by simp)]; simp [go_sem]
    have g1 : wr.cell? ⟨w.heap.size, 1, none⟩ = some (.slice ao n cap) := by rw [hbel.cell (by simp)]; simp [go_sem]
    have hsz : w.heap.size < wr.heap.size := by have := hbel.size; simp at this; omega
    have HOK : Hid (arcsB p F T G k = true) := hok
    clear hok
    by_cases hlt : k < n
    rotate_left
    · have hkn : k = n := by omega
      subst hkn
      go_wp2
      go_ret
      exact ⟨ret_bool (by simp [graphB, hin.out, hn'.out, HOK.out]), unbox hbel (by omega)⟩
    obtain ⟨b, o, hao, c0, c1, c2⟩ := ((hr.alloc _).below hbel (by simp)) k hlt
    subst hao
    rcases Bool.eq_false_or_eq_true (arcB (F k) (T k) (G k) p) with ha | ha
    rotate_left
    · go_wp2_with (go_at_call 57; refine (arcOk_any _ _ _ _ _).mono ?_; rintro e w1 ⟨rfl, hb1⟩)
      go_ret
      exact ⟨ret_bool (by simp [graphB, hin.out, arcsB_no ha n hlt]), unbox ((hbel.alloc (by omega) _).trans (hb1.mono (by simp; omega))) (by omega)⟩
    by_cases h0 : 0 < k
    rotate_left
    · have hd : decide (0 < (k : Int)) = false := by simp; omega
      go_wp2_with (go_at_call 57; refine (arcOk_any _ _ _ _ _).mono ?_; rintro e w1 ⟨rfl, hb1⟩)
      go_quiet (fail)
      go_wp2
      go_roundw
      case rel => exact ⟨k + 1, by omega, by go_num, arcsB_step HOK.out ha (Or.inl (by omega)), below_drewN ((hbel.alloc (by omega) _).trans (hb1.mono (by simp; omega))) _⟩
      case measure => simp [intOf]; omega
    have hbw : b < wr.heap.size := lt_of_cell c0
    obtain ⟨b', o', hao', d0, d1, d2⟩ := ((hr.alloc _).below hbel (by simp)) (k - 1) (by omega)
    simp only [Option.some.injEq, Addr.mk.injEq, and_true] at hao'
    obtain ⟨rfl, rfl⟩ := hao'
    have hk1 : (0 : Int) ≤ (k : Int) - 1 := by omega
    have hk2 : (k : Int) - 1 < (n : Int) := by omega
    have hk3 : IntKind.i64.wrap ((k : Int) - 1) = (k : Int) - 1 := by rw [IntKind.wrap_i64]; omega
    have hk4 : ((k : Int) - 1).toNat = k - 1 := by omega
    have hk5 : (1 : Int) ≤ (k : Int) := by omega
    have hk6 : (k : Int) ≤ (n : Int) := by omega
    have hk7 : 1 ≤ k := by omega
    rcases Bool.eq_false_or_eq_true (upB (F (k - 1)) (T (k - 1)) (F k) (T k)) with hu | hu
    · go_wp2_with (go_at_call 57; refine (arcOk_any _ _ _ _ _).mono ?_; rintro e w1 ⟨rfl, hb1⟩)
      have hbw1 := unbox hb1 (by simp)
      have hA := (hbel.alloc (by omega) _).trans (hb1.mono (by simp; omega))
      have s0 := keep_cell hbw1 (Nat.le_refl _) g1
      have s1 := keep_cell hbw1 (Nat.le_refl _) d0
      have s2 := keep_cell hbw1 (Nat.le_refl _) d1
      have s3 := keep_cell hbw1 (Nat.le_refl _) d2
      have s4 := keep_cell hb1 (Nat.le_refl _) (b := wr.heap.size) (o := 0) (by simp [go_sem]; rfl)
      have s5 := keep_cell hb1 (Nat.le_refl _) (b := wr.heap.size) (o := 1) (by simp [go_sem]; rfl)
      have s6 := keep_cell hb1 (Nat.le_refl _) (b := wr.heap.size) (o := 2) (by simp [go_sem]; rfl)
      go_region_held3 (fun w' => w'.cell? ⟨w.heap.size, 1, none⟩ = some (.slice (some ⟨b, o, none⟩) n cap) ∧ w'.cell? ⟨b, o + (k - 1) * 3, none⟩ = some (.int .i64 (F (k - 1))) ∧ w'.cell? ⟨b, o + (k - 1) * 3 + 1, none⟩ = some (.int .i64 (T (k - 1))) ∧ w'.cell? ⟨b, o + (k - 1) * 3 + 2, none⟩ = some (.int .i64 (G (k - 1))) ∧ w'.cell? ⟨wr.heap.size, 0, none⟩ = some (.int .i64 (F k)) ∧ w'.cell? ⟨wr.heap.size, 1, none⟩ = some (.int .i64 (T k)) ∧ w'.cell? ⟨wr.heap.size, 2, none⟩ = some (.int .i64 (G k)))
        (first | (go_split_ands; refine ⟨?_, ?_, ?_, ?_, ?_, ?_, ?_⟩ <;> exact keep_cell ‹_› (Nat.le_refl _) (by assumption)) | go_keep)
        (first | (go_at_call 58; refine (endsOf_any _ _ _ _).mono ?_; rintro e w2 ⟨rfl, hb2⟩; (first | have hA := below_next hA (by simp) hb2 | have hA := below_next hA.drew (by simp) hb2)) | (go_at_call 59; refine (below_any _ _ _ _ _).mono ?_; rintro e w3 ⟨rfl, hb3⟩; have hA := below_next hA (by simp) hb3))
      go_wp2
      go_roundw
      case rel => exact ⟨k + 1, by omega, by go_num, arcsB_step HOK.out ha (Or.inr hu), hA⟩
      case measure => simp [intOf]; omega
    · go_wp2_with (go_at_call 57; refine (arcOk_any _ _ _ _ _).mono ?_; rintro e w1 ⟨rfl, hb1⟩)
      have hbw1 := unbox hb1 (by simp)
      have hA := (hbel.alloc (by omega) _).trans (hb1.mono (by simp; omega))
      have s0 := keep_cell hbw1 (Nat.le_refl _) g1
      have s1 := keep_cell hbw1 (Nat.le_refl _) d0
      have s2 := keep_cell hbw1 (Nat.le_refl _) d1
      have s3 := keep_cell hbw1 (Nat.le_refl _) d2
      have s4 := keep_cell hb1 (Nat.le_refl _) (b := wr.heap.size) (o := 0) (by simp [go_sem]; rfl)
      have s5 := keep_cell hb1 (Nat.le_refl _) (b := wr.heap.size) (o := 1) (by simp [go_sem]; rfl)
      have s6 := keep_cell hb1 (Nat.le_refl _) (b := wr.heap.size) (o := 2) (by simp [go_sem]; rfl)
      go_region_held3 (fun w' => w'.cell? ⟨w.heap.size, 1, none⟩ = some (.slice (some ⟨b, o, none⟩) n cap) ∧ w'.cell? ⟨b, o + (k - 1) * 3, none⟩ = some (.int .i64 (F (k - 1))) ∧ w'.cell? ⟨b, o + (k - 1) * 3 + 1, none⟩ = some (.int .i64 (T (k - 1))) ∧ w'.cell? ⟨b, o + (k - 1) * 3 + 2, none⟩ = some (.int .i64 (G (k - 1))) ∧ w'.cell? ⟨wr.heap.size, 0, none⟩ = some (.int .i64 (F k)) ∧ w'.cell? ⟨wr.heap.size, 1, none⟩ = some (.int .i64 (T k)) ∧ w'.cell? ⟨wr.heap.size, 2, none⟩ = some (.int .i64 (G k)))
        (first | (go_split_ands; refine ⟨?_, ?_, ?_, ?_, ?_, ?_, ?_⟩ <;> exact keep_cell ‹_› (Nat.le_refl _) (by assumption)) | go_keep)
        (first | (go_at_call 58; refine (endsOf_any _ _ _ _).mono ?_; rintro e w2 ⟨rfl, hb2⟩; (first | have hA := below_next hA (by simp) hb2 | have hA := below_next hA.drew (by simp) hb2)) | (go_at_call 59; refine (below_any _ _ _ _ _).mono ?_; rintro e w3 ⟨rfl, hb3⟩; have hA := below_next hA (by simp) hb3))
      go_wp2
      go_ret
      exact ⟨ret_bool (by simp [graphB, hin.out, arcsB_down h0 hu n hlt]), unbox hA (by omega)⟩

end Go.Proofs.Ythcgibpiogmmdai

/-
  Two boxes of two cells: an argument's and the result's, in a later world.
-/
set_option linter.unusedVariables false
set_option linter.unusedSimpArgs false
namespace Go.Proofs.Ythcgibpiogmmdai
open Go.RowKit Go.Maps
attribute [local go_sem ↓] Go.wp_at_zero Go.wp_at_succ

/-- The boxes of an argument and of a result, each of two cells, in a later world. -/
theorem box22 {w W : World} {a0 a1 c0 c1 : Value} {s t : TypeId} (h : Below (w.heap.size + 2) ((w.alloc (.cells #[a0, a1] s)).alloc (.cells #[c0, c1] t)) W) :
    (W.cell? ⟨w.heap.size, 0, none⟩ = some a0 ∧ W.cell? ⟨w.heap.size, 1, none⟩ = some a1) ∧ (W.cell? ⟨w.heap.size + 1, 0, none⟩ = some c0 ∧ W.cell? ⟨w.heap.size + 1, 1, none⟩ = some c1) ∧ (W.frozen? ⟨w.heap.size + 1, 0, none⟩ = false ∧ W.frozen? ⟨w.heap.size + 1, 1, none⟩ = false) ∧ w.heap.size + 2 ≤ W.heap.size := by
  refine ⟨⟨by rw [h.cell (by simp)]; simp [go_sem], by rw [h.cell (by simp)]; simp [go_sem]⟩, ⟨by rw [h.cell (by simp)]; simp [go_sem], by rw [h.cell (by simp)]; simp [go_sem]⟩, ⟨by rw [h.frozen (by simp)]; simp [go_sem], by rw [h.frozen (by simp)]; simp [go_sem]⟩, by have := h.size; simp at this; omega⟩
theorem unbox2 {w w' : World} {o1 o2 : Obj} {B : Nat} (h : Below B ((w.alloc o1).alloc o2) w') (hB : w.heap.size ≤ B) : Below w.heap.size w w' :=
  (((Below.refl _ _).alloc (Nat.le_refl _) _).alloc (by simp) _).trans (h.mono hB)

/-- What is written into the result's box turns nothing else. -/
theorem ret_block {W : World} {s b : Nat} (a c : Value) (hne : b ≠ s) : ((W.setCell ⟨s, 0, none⟩ a).setCell ⟨s, 1, none⟩ c).heap[b]? = W.heap[b]? :=
  (Below.heap_setCell _ _ _ _ (fun e => hne e)).trans (Below.heap_setCell _ _ _ _ (fun e => hne e))
theorem ret_below {B : Nat} {w W : World} {s : Nat} (h : Below B w W) (hB : B ≤ s) (a c : Value) : Below B w ((W.setCell ⟨s, 0, none⟩ a).setCell ⟨s, 1, none⟩ c) := (h.setCell hB a).setCell hB c

end Go.Proofs.Ythcgibpiogmmdai

/-
  NewHier, the document's.
-/
set_option linter.unusedVariables false
set_option linter.unusedSimpArgs false
namespace Go.Proofs.Ythcgibpiogmmdai
open Go.RowKit
attribute [local go_sem ↓] Go.wp_at_zero Go.wp_at_succ

/-- An answered hierarchy, of the call's own. -/
def HAns (w w' : World) (e : Ending) (m : Nat) (D : Nat → Int) (k : Nat) (L H : Nat → Int) : Prop := ∃ ao cap eo ecap, e = .returned (.agg #[.slice ao m cap, .slice eo k ecap]) ∧ (0 < m → ∃ g, ao = some ⟨g, 0, none⟩ ∧ w.heap.size ≤ g ∧ IHas w' g m D) ∧ (0 < k → ∃ g, eo = some ⟨g, 0, none⟩ ∧ w.heap.size ≤ g ∧ EHas w' g k (er L H)) ∧ w.heap.size + 2 ≤ w'.heap.size ∧ Below w.heap.size w w'
theorem order_ok {p : Int} {n : Nat} {F T G : Nat → Int} (h : graphB p n F T G = true) : ordB p n F T G (lenO p n F T G) (listO p n F T) = true := by
  have hpp : 1 ≤ p ∧ p ≤ 24 := by simpa [inB] using graphB_p h
  obtain ⟨pn, rfl⟩ : ∃ pn : Nat, p = (pn : Int) := ⟨p.toNat, by omega⟩
  have hL : lenO pn n F T G = pn := by simp [lenO, h]
  rw [hL]
  simp [ordB, okR, h, order_each h]
  omega
set_option maxHeartbeats 1000000 in
theorem specNewHier_any (p : Int) (ao : Option Addr) (n cap : Nat) (F T G : Nat → Int) (hn : n ≤ 1048576) (w : World) (hr : Row w ao n F T G) :
    Calls Try.prog 32 #[.agg #[.int .i64 p, .slice ao n cap]] w fun e w' => HAns w w' e (lenO p n F T G) (listO p n F T) (lenF p n F T G (lenO p n F T G) (listO p n F T)) (Lf (lstF p n F T (listO p n F T))) (Hf (lstF p n F T (listO p n F T))) := by
  rcases Bool.eq_false_or_eq_true (graphB p n F T G) with h | h
  rotate_left
  · have h1 : lenO p n F T G = 0 := by simp [lenO, h]
    have h2 : lenF p n F T G (lenO p n F T G) (listO p n F T) = 0 := by simp [lenF, ordB, h]
    rw [h2, h1]
    go_enter Try.func32, Try.ntmps32
    go_wp2_with (go_at_call 30; refine (specGraphOk_any p ao n cap F T G hn _ ((hr.alloc _).alloc _)).mono ?_; rintro e w1 ⟨rfl, hb1⟩; obtain ⟨⟨q0, q1⟩, ⟨q2, q3⟩, ⟨q4, q5⟩, q6⟩ := box22 (hb1.mono (by simp)))
    exact bodyPost_ret (v := .agg #[.slice none 0 0, .slice none 0 0]) (by simp [results, Try.results32, go_sem, q2, q3, q4, q5]) rfl ⟨_, _, _, _, rfl, fun h => by omega, fun h => by omega, by simp [World.setCell]; omega, ret_below (unbox2 hb1 (by simp; omega)) (by simp) _ _⟩
  have hpp : 1 ≤ p ∧ p ≤ 24 := by simpa [inB] using graphB_p h
  obtain ⟨pn, rfl⟩ : ∃ pn : Nat, p = (pn : Int) := ⟨p.toNat, by omega⟩
  have hL : lenO pn n F T G = pn := by simp [lenO, h]
  have hok := order_ok h
  rw [hL] at hok ⊢
  have hLF : lenF pn n F T G pn (listO pn n F T) = (allS (nbA F T n) (listO pn n F T) pn pn).length := by simp [lenF, hok, lstF]
  have hS : lstF pn n F T (listO pn n F T) = allS (nbA F T n) (listO pn n F T) pn pn := by simp [lstF]
  rw [hLF, hS]
  obtain ⟨⟨hp1, hp2⟩, hn1, hF, hT, hFT⟩ := ok_arcs h
  have he := order_each h
  have hA := fun ao' cap' W hr' => l3Order_any pn ao' n cap' F T G hp1 hp2 hn1 hF hT hFT W hr'
  have hB := fun ao' cap' po' pcap' W hr' hp' => l4Fill_any pn ao' n cap' F T G po' pcap' (listO pn n F T) hp1 hp2 hn1 hF hT hFT he W hr' hp'
  have hD : (run3 pn (nbA F T n) pn).2.2 = listO pn n F T := by simp [listO]
  rw [hD] at hA
  generalize allS (nbA F T n) (listO pn n F T) pn pn = l at hB ⊢
  generalize listO pn n F T = D at hA hB ⊢
  have HO : Hid (∀ ao' cap' W, Row W ao' n F T G → Calls Try.prog 55 #[.agg #[.int .i64 (pn : Int), .slice ao' n cap']] W fun e w' => ∃ g c, e = .returned (.slice (some ⟨g, 0, none⟩) pn c) ∧ W.heap.size ≤ g ∧ IHas w' g pn D ∧ Below W.heap.size W w' ∧ pn ≤ c) := hA
  have HF : Hid (∀ ao' cap' po' pcap' W, Row W ao' n F T G → IRow W po' pn D → Calls Try.prog 56 #[.agg #[.int .i64 (pn : Int), .slice ao' n cap'], .slice po' pn pcap'] W fun e w' => ∃ g c, e = .returned (.slice (some ⟨g, 0, none⟩) l.length c) ∧ W.heap.size ≤ g ∧ EOwn w' W.heap.size g c l ∧ Below W.heap.size W w') := hB
  clear hA hB hok hLF hS hF hT hFT he hD hL
  go_enter Try.func32, Try.ntmps32
  go_wp2_with fail
  refine (specGraphOk_any pn ao n cap F T G hn _ ((hr.alloc _).alloc _)).mono ?_
  rw [h]
  rintro e w1 ⟨rfl, hb1⟩
  have hA1 := hb1.mono (B' := w.heap.size + 2) (by simp)
  obtain ⟨⟨q0, q1⟩, ⟨q2, q3⟩, ⟨q4, q5⟩, q6⟩ := box22 hA1
  clear hb1
  go_wp2_with fail
  refine (HO.out _ _ _ (((hr.alloc _).alloc _).below hA1 (by simp))).mono ?_
  rintro e w2 ⟨gD, capD, rfl, hgD, hD, hb2, _⟩
  have hA2 := below_next hA1 (by simp) hb2
  clear q0 q1 q2 q3 q4 q5 q6
  obtain ⟨⟨q0, q1⟩, ⟨q2, q3⟩, ⟨q4, q5⟩, q6⟩ := box22 hA2
  go_wp2_with fail
  refine (HF.out _ _ _ _ _ (((hr.alloc _).alloc _).below hA2 (by simp)) hD.row).mono ?_
  rintro e w3 ⟨gE, capE, rfl, hgE, hE, hb3⟩
  have hA3 := below_next hA2 (by simp) hb3
  clear q0 q1 q2 q3 q4 q5 q6
  have s1 := hA1.size
  have s2 := hA2.size
  simp only [World.size_alloc] at s1 s2
  obtain ⟨⟨q0, q1⟩, ⟨q2, q3⟩, ⟨q4, q5⟩, q6⟩ := box22 hA3
  go_wp2
  refine bodyPost_ret (v := .agg #[.slice (some ⟨gD, 0, none⟩) pn capD, .slice (some ⟨gE, 0, none⟩) l.length capE]) (by simp [results, Try.results32, go_sem, q2, q3, q4, q5]) rfl ⟨_, _, _, _, rfl, fun _ => ⟨gD, rfl, by omega, (hD.below hb3 hD.lt).of_block (ret_block _ _ (by omega))⟩, fun _ => ⟨gE, rfl, by omega, hE.has.of_block (ret_block _ _ (by omega))⟩, by simp [World.setCell]; omega, ret_below (unbox2 hA3 (by simp)) (by simp) _ _⟩

end Go.Proofs.Ythcgibpiogmmdai

/-
  Keys of two numbers, and maps of the call's own in a later world: no function of the program.
-/
set_option linter.unusedVariables false
set_option linter.unusedSimpArgs false
namespace Go.Proofs.Ythcgibpiogmmdai
open Go.ChangeShapes Go.WideShapes Go.ChangeAt Go.RowKit Go.Maps

theorem key_two {P : Program} {k : TypeId} {f0 f1 : Field} (hs : P.underlying k = some (.struct #[f0, f1])) (hk : P.keyType k = true) (hC : P.cellsOf k = 2) (h0 : P.underlying f0.type = some (.int .i64)) (h1 : P.underlying f1.type = some (.int .i64))
    (o0 : f0.offset = 0) (o1 : f1.offset = 1) (c0 : P.cellsOf f0.type = 1) (c1 : P.cellsOf f1.type = 1) (n0 : (f0.name != "_") = true) (n1 : (f1.name != "_") = true) (hm : ∃ m, P.types.size = m + 1)
    {f t : Int} (hf : (Lit.int .i64 f).wf = true) (ht : (Lit.int .i64 t).wf = true) : keyOf P k (.agg #[.int .i64 f, .int .i64 t]) = some (.string (keyBytes [.int .i64 f, .int .i64 t])) := by
  obtain ⟨m, hm⟩ := hm
  simp at n0 n1
  simp [keyOf, hs, hk, Value.formed, hC, Value.cells, hm, Program.keyLits, h0, h1, o0, o1, c0, c1, n0, n1, hf, ht]

theorem ownsMap_block {H : Type} {P : Program} {k : TypeId} {R : Value → Option (DataW H × List MemPlace)} {b n : Nat} {D : DataW H} {w w' : World} (h : w.ownsMap P k R b n D) (e : w'.heap[b]? = w.heap[b]?) : w'.ownsMap P k R b n D := by
  unfold World.ownsMap at h ⊢
  rw [e]; exact h
theorem ownsMap_below {H : Type} {P : Program} {k : TypeId} {R : Value → Option (DataW H × List MemPlace)} {b n : Nat} {D : DataW H} {w w' : World} (h : w.ownsMap P k R b n D) (hb : Below w.heap.size w w') : w'.ownsMap P k R b n D :=
  ownsMap_block h (hb.block b h.lt)

end Go.Proofs.Ythcgibpiogmmdai

/-
  Memory of the call's own that holds arcs: read, written, and left alone; the laws' marks in it.
-/
set_option linter.unusedVariables false
set_option linter.unusedSimpArgs false
namespace Go.Proofs.Ythcgibpiogmmdai
open Go.RowKit Go.Maps

/-- Block b begins with n arcs' cells, may be written, and holds the numbers f. -/
def Has (w : World) (b n : Nat) (f : Nat → Int) : Prop := ∃ cur : Array Value, w.heap[b]? = some (.cells cur 65 (0, 0)) ∧ n * 3 ≤ cur.size ∧ ∀ j, j < n * 3 → cur[j]? = some (.int .i64 (f j))

theorem Has.of_own {w : World} {b n : Nat} {f : Nat → Int} (h : Own w b n f) : Has w b n f := by
  obtain ⟨c, hb, hn, hc⟩ := h
  exact ⟨c, hb, by omega, hc⟩
theorem Has.cell {w : World} {b n : Nat} {f : Nat → Int} (h : Has w b n f) {j : Nat} (hj : j < n * 3) : w.cell? ⟨b, j, none⟩ = some (.int .i64 (f j)) := by
  obtain ⟨c, hb, _, hc⟩ := h
  simp [World.cell?, hb, hc j hj]
theorem Has.frozen {w : World} {b n : Nat} {f : Nat → Int} (h : Has w b n f) (j : Nat) : w.frozen? ⟨b, j, none⟩ = false := by
  obtain ⟨c, hb, _, _⟩ := h
  simp [World.frozen?, hb]
theorem Has.lt {w : World} {b n : Nat} {f : Nat → Int} (h : Has w b n f) : b < w.heap.size := by
  obtain ⟨c, hb, _, _⟩ := h
  exact (Array.getElem?_eq_some_iff.1 hb).1
theorem Has.of_block {w w' : World} {b n : Nat} {f : Nat → Int} (h : Has w b n f) (e : w'.heap[b]? = w.heap[b]?) : Has w' b n f := by
  obtain ⟨c, hb, hn, hc⟩ := h
  exact ⟨c, e.trans hb, hn, hc⟩
theorem Has.congr {w : World} {b n : Nat} {f g : Nat → Int} (h : Has w b n f) (e : ∀ j, j < n * 3 → f j = g j) : Has w b n g := by
  obtain ⟨c, hb, hn, hc⟩ := h
  exact ⟨c, hb, hn, fun j hj => by rw [hc j hj, e j hj]⟩
theorem Has.set {w : World} {b n : Nat} {f : Nat → Int} (h : Has w b n f) (i : Nat) (v : Int) : Has (w.setCell ⟨b, i, none⟩ (.int .i64 v)) b n (fun j => if j = i then v else f j) := by
  obtain ⟨c, hb, hn, hc⟩ := h
  refine ⟨c.setIfInBounds i (.int .i64 v), ?_, by simpa using hn, fun j hj => ?_⟩
  · simp [World.setCell, Array.getElem?_modify, hb]
  · rw [Array.getElem?_setIfInBounds]
    by_cases e : j = i
    · subst e
      simp; omega
    · rw [if_neg (fun h => e h.symm)]
      show c[j]? = some (.int .i64 (if j = i then v else f j))
      rw [if_neg e]
      exact hc j hj
theorem Has.row {w : World} {b n : Nat} {F T G : Nat → Int} (h : Has w b n (ar F T G)) : Row w (some ⟨b, 0, none⟩) n F T G := fun k hk => by
  refine ⟨b, 0, rfl, ?_, ?_, ?_⟩
  · have := h.cell (j := k * 3) (by omega); rw [ar0] at this; simpa using this
  · have := h.cell (j := k * 3 + 1) (by omega); rw [ar1] at this; simpa using this
  · have := h.cell (j := k * 3 + 2) (by omega); rw [ar2] at this; simpa using this
theorem Has.below {w w' : World} {b n B : Nat} {f : Nat → Int} (h : Has w b n f) (hb : Below B w w') (hB : b < B) : Has w' b n f := h.of_block (hb.block b hB)
theorem Has.grown {w w' : World} {b n : Nat} {f : Nat → Int} {row : Option Nat} (h : Has w b n f) (hg : w.grownBy w' row) (hne : some b ≠ row) : Has w' b n f := h.of_block (hg.block b h.lt hne)

theorem grown_setCell (w : World) (b o : Nat) (v : Value) : w.grownBy (w.setCell ⟨b, o, none⟩ v) (some b) :=
  ⟨rfl, rfl, rfl, by simp [World.setCell], fun k _ hne => Below.heap_setCell _ _ _ _ (fun e => hne (by rw [e]))⟩
theorem grown_below {w w' : World} {b B : Nat} (h : w.grownBy w' (some b)) (hb : B ≤ b) (hB : B ≤ w.heap.size) : Below B w w' :=
  ⟨h.os, h.tape, h.output, h.size, fun k hk => h.block k (by omega) (fun e => by simp at e; omega)⟩
theorem below_grown {w w' : World} {row : Option Nat} (h : Below w.heap.size w w') : w.grownBy w' row := ⟨h.os, h.tape, h.output, h.size, fun k hk _ => h.block k hk⟩
theorem grown_drew (w : World) (row : Option Nat) : w.grownBy w.drew row := ⟨rfl, rfl, rfl, Nat.le_refl _, fun _ _ _ => rfl⟩
theorem Row.grown {w w' : World} {ao : Option Addr} {n b B : Nat} {F T G : Nat → Int} (h : Row w ao n F T G) (hg : w.grownBy w' (some b)) (hB : ∀ a, ao = some a → 0 < n → a.block < b) : Row w' ao n F T G := fun k hk => by
  obtain ⟨b', o, e, c0, c1, c2⟩ := h k hk
  have hlt := hB _ e (by omega)
  have hne : some b' ≠ some b := fun e => by simp at e; simp at hlt; omega
  exact ⟨b', o, e, hg.cell c0 hne, hg.cell c1 hne, hg.cell c2 hne⟩

/-- n arcs behind a slice are the call's own, from block B on. -/
def OwnS (w : World) (B : Nat) (ao : Option Addr) (n : Nat) (f : Nat → Int) : Prop := ∀ k, k < n → ∃ b, ao = some ⟨b, 0, none⟩ ∧ B ≤ b ∧ Has w b n f
theorem OwnS.row {w : World} {B n : Nat} {ao : Option Addr} {F T G : Nat → Int} (h : OwnS w B ao n (ar F T G)) : Row w ao n F T G := fun k hk => by
  obtain ⟨b, e, _, hh⟩ := h k hk
  subst e
  exact hh.row k hk

/-- The marks: cell j holds k + j. -/
def mk (k : Int) (j : Nat) : Int := k + j


end Go.Proofs.Ythcgibpiogmmdai

/-
  What a call has turned: some blocks, named in a list; all else that lay lies as it lay.
-/
set_option linter.unusedVariables false
set_option linter.unusedSimpArgs false
namespace Go.Proofs.Ythcgibpiogmmdai
open Go.RowKit

structure Turns (w w' : World) (S : List Nat) : Prop where
  os : w'.os = w.os
  tape : w'.tape = w.tape
  output : w'.output = w.output
  size : w.heap.size ≤ w'.heap.size
  block : ∀ k, k < w.heap.size → k ∉ S → w'.heap[k]? = w.heap[k]?
theorem Turns.refl (w : World) (S : List Nat) : Turns w w S := ⟨rfl, rfl, rfl, Nat.le_refl _, fun _ _ _ => rfl⟩
theorem Turns.of_below {w w' : World} {B : Nat} (h : Below B w w') (hB : w.heap.size ≤ B) (S : List Nat) : Turns w w' S := ⟨h.os, h.tape, h.output, h.size, fun k hk _ => h.block k (by omega)⟩
theorem Turns.of_grown {w w' : World} {b : Nat} (h : w.grownBy w' (some b)) : Turns w w' [b] := ⟨h.os, h.tape, h.output, h.size, fun k hk hn => h.block k hk (fun e => hn (by simp at e; simp [e]))⟩
theorem Turns.trans {w w1 w2 : World} {S : List Nat} (h : Turns w w1 S) (k : Turns w1 w2 S) : Turns w w2 S :=
  ⟨k.os.trans h.os, k.tape.trans h.tape, k.output.trans h.output, Nat.le_trans h.size k.size, fun j hj hn => (k.block j (Nat.lt_of_lt_of_le hj h.size) hn).trans (h.block j hj hn)⟩
theorem Turns.more {w w' : World} {S S' : List Nat} (h : Turns w w' S) (hs : ∀ x ∈ S, x ∈ S') : Turns w w' S' := ⟨h.os, h.tape, h.output, h.size, fun k hk hn => h.block k hk (fun hx => hn (hs k hx))⟩
theorem Turns.next {w w1 w2 : World} {S : List Nat} (h : Turns w w1 S) (hb : Below w1.heap.size w1 w2) : Turns w w2 S := h.trans (Turns.of_below hb (Nat.le_refl _) S)
theorem Turns.below {w w' : World} {S : List Nat} {B : Nat} (h : Turns w w' S) (hB : B ≤ w.heap.size) (hs : ∀ x ∈ S, B ≤ x) : Below B w w' :=
  ⟨h.os, h.tape, h.output, h.size, fun k hk => h.block k (by omega) (fun hx => by have := hs k hx; omega)⟩
theorem Turns.cell {w w' : World} {S : List Nat} {b o : Nat} {v : Value} (h : Turns w w' S) (hb : b ∉ S) (hc : w.cell? ⟨b, o, none⟩ = some v) : w'.cell? ⟨b, o, none⟩ = some v := by
  rw [World.cell?_of_block (h.block b (lt_of_cell hc) hb)]
  exact hc
theorem Turns.ihas {w w' : World} {S : List Nat} {b n : Nat} {f : Nat → Int} (h : Turns w w' S) (hb : b ∉ S) (hi : IHas w b n f) : IHas w' b n f := hi.of_block (h.block b hi.lt hb)
theorem Turns.ehas {w w' : World} {S : List Nat} {b n : Nat} {f : Nat → Int} (h : Turns w w' S) (hb : b ∉ S) (hi : EHas w b n f) : EHas w' b n f := hi.of_block (h.block b hi.lt hb)

/-- Two lists of one answer: their blocks, whatever is empty. -/
theorem pick2 {w W : World} {ao eo : Option Addr} {k m : Nat} {R S : Nat → Prop} (h1 : 0 < k → ∃ g, ao = some ⟨g, 0, none⟩ ∧ w.heap.size ≤ g ∧ R g) (h2 : 0 < m → ∃ g, eo = some ⟨g, 0, none⟩ ∧ w.heap.size ≤ g ∧ S g)
    (l1 : ∀ g, R g → g < W.heap.size) (l2 : ∀ g, S g → g < W.heap.size) (hne : ∀ g g', ao = some ⟨g, 0, none⟩ → eo = some ⟨g', 0, none⟩ → R g → S g' → g ≠ g') (hs : w.heap.size + 2 ≤ W.heap.size) :
    ∃ b c, (0 < k → ao = some ⟨b, 0, none⟩) ∧ (0 < k → R b) ∧ (0 < m → eo = some ⟨c, 0, none⟩) ∧ (0 < m → S c) ∧ (w.heap.size ≤ b ∧ b < W.heap.size) ∧ (w.heap.size ≤ c ∧ c < W.heap.size) ∧ b ≠ c := by
  by_cases hk : 0 < k
  · obtain ⟨g, e, hg, hR⟩ := h1 hk
    have := l1 g hR
    by_cases hm : 0 < m
    · obtain ⟨g', e', hg', hS⟩ := h2 hm
      have := l2 g' hS
      exact ⟨g, g', fun _ => e, fun _ => hR, fun _ => e', fun _ => hS, ⟨hg, by omega⟩, ⟨hg', by omega⟩, hne g g' e e' hR hS⟩
    · by_cases hx : g = w.heap.size
      · exact ⟨g, w.heap.size + 1, fun _ => e, fun _ => hR, fun h => absurd h hm, fun h => absurd h hm, ⟨hg, by omega⟩, ⟨by omega, by omega⟩, by omega⟩
      · exact ⟨g, w.heap.size, fun _ => e, fun _ => hR, fun h => absurd h hm, fun h => absurd h hm, ⟨hg, by omega⟩, ⟨by omega, by omega⟩, hx⟩
  · by_cases hm : 0 < m
    · obtain ⟨g', e', hg', hS⟩ := h2 hm
      have := l2 g' hS
      by_cases hx : g' = w.heap.size
      · exact ⟨w.heap.size + 1, g', fun h => absurd h hk, fun h => absurd h hk, fun _ => e', fun _ => hS, ⟨by omega, by omega⟩, ⟨hg', by omega⟩, by omega⟩
      · exact ⟨w.heap.size, g', fun h => absurd h hk, fun h => absurd h hk, fun _ => e', fun _ => hS, ⟨by omega, by omega⟩, ⟨hg', by omega⟩, fun e => hx e.symm⟩
    · exact ⟨w.heap.size, w.heap.size + 1, fun h => absurd h hk, fun h => absurd h hk, fun h => absurd h hm, fun h => absurd h hm, ⟨by omega, by omega⟩, ⟨by omega, by omega⟩, by omega⟩
theorem ihas_ehas {W : World} {b n m : Nat} {f g : Nat → Int} (h : IHas W b n f) (k : EHas W b m g) : False := by
  obtain ⟨c, h1, _⟩ := h
  obtain ⟨d, h2, _⟩ := k
  rw [h1] at h2
  simp at h2
theorem irow_at {W : World} {ao : Option Addr} {m b : Nat} {D : Nat → Int} (ha : 0 < m → ao = some ⟨b, 0, none⟩) (h : 0 < m → IHas W b m D) : IRow W ao m D := fun k hk => by
  rw [ha (by omega)]
  exact (h (by omega)).row k hk
theorem erow_at {W : World} {ao : Option Addr} {m b : Nat} {L H : Nat → Int} (ha : 0 < m → ao = some ⟨b, 0, none⟩) (h : 0 < m → EHas W b m (er L H)) : ERow W ao m L H := fun k hk => by
  rw [ha (by omega)]
  exact (h (by omega)).row k hk

end Go.Proofs.Ythcgibpiogmmdai

/-
  A service's lists: arcs, an order, edges; NewService's answer.
-/
set_option linter.unusedVariables false
set_option linter.unusedSimpArgs false
namespace Go.Proofs.Ythcgibpiogmmdai
open Go.RowKit Go.Maps

/-- Three lists of one's own, in blocks d, b, c (whatever is empty). -/
structure SvL (W : World) (ao po eo : Option Addr) (n M N d b c : Nat) (f g h : Nat → Int) : Prop where
  ea : 0 < n → ao = some ⟨d, 0, none⟩
  ha : 0 < n → Has W d n f
  ei : 0 < M → po = some ⟨b, 0, none⟩
  hi : 0 < M → IHas W b M g
  ee : 0 < N → eo = some ⟨c, 0, none⟩
  he : 0 < N → EHas W c N h
section
variable {W W' : World} {ao po eo : Option Addr} {n M N d b c : Nat} {f g h : Nat → Int}
theorem SvL.next (s : SvL W ao po eo n M N d b c f g h) (hb : Below W.heap.size W W') : SvL W' ao po eo n M N d b c f g h :=
  ⟨s.ea, fun x => (s.ha x).below hb (s.ha x).lt, s.ei, fun x => (s.hi x).below hb (s.hi x).lt, s.ee, fun x => (s.he x).below hb (s.he x).lt⟩
theorem Turns.has {w w' : World} {S : List Nat} {b n : Nat} {f : Nat → Int} (h : Turns w w' S) (hb : b ∉ S) (hi : Has w b n f) : Has w' b n f := hi.of_block (h.block b hi.lt hb)
theorem SvL.turn (s : SvL W ao po eo n M N d b c f g h) {S : List Nat} (hT : Turns W W' S) (hd : d ∉ S) (hb : b ∉ S) (hc : c ∉ S) : SvL W' ao po eo n M N d b c f g h :=
  ⟨s.ea, fun x => hT.has hd (s.ha x), s.ei, fun x => hT.ihas hb (s.hi x), s.ee, fun x => hT.ehas hc (s.he x)⟩
theorem SvL.ra {F T G : Nat → Int} (s : SvL W ao po eo n M N d b c (ar F T G) g h) : Row W ao n F T G := fun k hk => by
  rw [s.ea (by omega)]
  exact (s.ha (by omega)).row k hk
theorem SvL.ri (s : SvL W ao po eo n M N d b c f g h) : IRow W po M g := irow_at s.ei s.hi
theorem SvL.re {L H : Nat → Int} (s : SvL W ao po eo n M N d b c f g (er L H)) : ERow W eo N L H := erow_at s.ee s.he
end
theorem has_ehas {W : World} {b n m : Nat} {f g : Nat → Int} (h : Has W b n f) (k : EHas W b m g) : False := by
  obtain ⟨c, h1, _⟩ := h
  obtain ⟨d, h2, _⟩ := k
  rw [h1] at h2
  simp at h2
theorem has_ihas' {W : World} {b n m : Nat} {f g : Nat → Int} (h : Has W b n f) (k : IHas W b m g) : False := by
  obtain ⟨c, h1, _⟩ := h
  obtain ⟨d, h2, _⟩ := k
  rw [h1] at h2
  simp at h2
/-- Three blocks of a span of three or more, each as it is wanted. -/
theorem pick_three {B E : Nat} {P Q R : Nat → Prop} (hE : B + 3 ≤ E) (p : Option Nat) (q : Option Nat) (r : Option Nat) (hp : ∀ x, p = some x → B ≤ x ∧ x < E) (hq : ∀ x, q = some x → B ≤ x ∧ x < E) (hr : ∀ x, r = some x → B ≤ x ∧ x < E)
    (h1 : ∀ x y, p = some x → q = some y → x ≠ y) (h2 : ∀ x y, p = some x → r = some y → x ≠ y) (h3 : ∀ x y, q = some x → r = some y → x ≠ y) :
    ∃ d b c, (∀ x, p = some x → x = d) ∧ (∀ x, q = some x → x = b) ∧ (∀ x, r = some x → x = c) ∧ (B ≤ d ∧ d < E) ∧ (B ≤ b ∧ b < E) ∧ (B ≤ c ∧ c < E) ∧ d ≠ b ∧ d ≠ c ∧ b ≠ c := by
  have free : ∀ u v : Nat, ∃ z, (B ≤ z ∧ z < E) ∧ z ≠ u ∧ z ≠ v := fun u v => by
    by_cases a : B ≠ u ∧ B ≠ v
    · exact ⟨B, ⟨Nat.le_refl _, by omega⟩, a.1, a.2⟩
    · by_cases a' : B + 1 ≠ u ∧ B + 1 ≠ v
      · exact ⟨B + 1, ⟨by omega, by omega⟩, a'.1, a'.2⟩
      · exact ⟨B + 2, ⟨by omega, by omega⟩, by omega, by omega⟩
  have H : ∃ d, (∀ x, p = some x → x = d) ∧ (B ≤ d ∧ d < E) ∧ (∀ y, q = some y → d ≠ y) ∧ (∀ y, r = some y → d ≠ y) := by
    cases p with
    | some x => exact ⟨x, fun y e => (by cases e; rfl), hp x rfl, fun y e => h1 x y rfl e, fun y e => h2 x y rfl e⟩
    | none =>
      obtain ⟨z, hz, a, b⟩ := free (q.getD E) (r.getD E)
      exact ⟨z, fun y e => (by cases e), hz, fun y e => (by subst e; exact a), fun y e => (by subst e; exact b)⟩
  obtain ⟨d, d1, d2, d3, d4⟩ := H
  have H : ∃ b, (∀ x, q = some x → x = b) ∧ (B ≤ b ∧ b < E) ∧ d ≠ b ∧ (∀ y, r = some y → b ≠ y) := by
    cases q with
    | some x => exact ⟨x, fun y e => (by cases e; rfl), hq x rfl, d3 x rfl, fun y e => h3 x y rfl e⟩
    | none =>
      obtain ⟨z, hz, a, b⟩ := free d (r.getD E)
      exact ⟨z, fun y e => (by cases e), hz, fun e => a e.symm, fun y e => (by subst e; exact b)⟩
  obtain ⟨b, b1, b2, b3, b4⟩ := H
  cases r with
  | some x => exact ⟨d, b, x, d1, b1, fun y e => (by cases e; rfl), d2, b2, hr x rfl, b3, d4 x rfl, b4 x rfl⟩
  | none =>
    obtain ⟨z, hz, u, v⟩ := free d b
    exact ⟨d, b, z, d1, b1, fun y e => (by cases e), d2, b2, hz, b3, fun e => u e.symm, fun e => v e.symm⟩
/-- NewService's answer. -/
def SvAns (w w' : World) (e : Ending) (p : Int) (n : Nat) (F T G : Nat → Int) (M : Nat) (D : Nat → Int) (N : Nat) (L H : Nat → Int) (ok : Bool) : Prop :=
  ∃ ao cap po pc eo ec d b c, e = .returned (.tuple #[.agg #[.int .i64 p, .slice ao n cap, .slice po M pc, .slice eo N ec, .int .i64 0, .slice none 0 0], .bool ok]) ∧ SvL w' ao po eo n M N d b c (ar F T G) D (er L H) ∧ ((w.heap.size ≤ d ∧ d < w'.heap.size) ∧ (w.heap.size ≤ b ∧ b < w'.heap.size) ∧ (w.heap.size ≤ c ∧ c < w'.heap.size) ∧ (0 < n → d ≠ b ∧ d ≠ c) ∧ b ≠ c) ∧ Below w.heap.size w w'
theorem svAns_of {w w' : World} {p : Int} {n : Nat} {F T G : Nat → Int} {M : Nat} {D : Nat → Int} {N : Nat} {L H : Nat → Int} {ok : Bool} {ao po eo : Option Addr} {cap pc ec : Nat}
    (ha : 0 < n → ∃ g, ao = some ⟨g, 0, none⟩ ∧ w.heap.size ≤ g ∧ Has w' g n (ar F T G)) (hi : 0 < M → ∃ g, po = some ⟨g, 0, none⟩ ∧ w.heap.size ≤ g ∧ IHas w' g M D) (he : 0 < N → ∃ g, eo = some ⟨g, 0, none⟩ ∧ w.heap.size ≤ g ∧ EHas w' g N (er L H)) (hs : w.heap.size + 3 ≤ w'.heap.size) (hb : Below w.heap.size w w') :
    SvAns w w' (.returned (.tuple #[.agg #[.int .i64 p, .slice ao n cap, .slice po M pc, .slice eo N ec, .int .i64 0, .slice none 0 0], .bool ok])) p n F T G M D N L H ok := by
  have blk : ∀ {k : Nat} {o : Option Addr} {Q : Nat → Prop}, (0 < k → ∃ g, o = some ⟨g, 0, none⟩ ∧ w.heap.size ≤ g ∧ Q g) → ∃ x : Option Nat, (0 < k → ∃ g, x = some g) ∧ ∀ g, x = some g → 0 < k ∧ o = some ⟨g, 0, none⟩ ∧ w.heap.size ≤ g ∧ Q g := fun {k o Q} h => by
    by_cases hk : 0 < k
    · obtain ⟨g, e, h1, h2⟩ := h hk
      exact ⟨some g, fun _ => ⟨g, rfl⟩, fun y e' => by cases e'; exact ⟨hk, e, h1, h2⟩⟩
    · exact ⟨none, fun h => absurd h hk, fun y e => by cases e⟩
  obtain ⟨p1, p2, p3⟩ := blk ha
  obtain ⟨q1, q2, q3⟩ := blk hi
  obtain ⟨r1, r2, r3⟩ := blk he
  obtain ⟨d, b, c, e1, e2, e3, l1, l2, l3, n1, n2, n3⟩ := pick_three (P := fun _ => True) (Q := fun _ => True) (R := fun _ => True) hs p1 q1 r1 (fun x e => ⟨(p3 x e).2.2.1, (p3 x e).2.2.2.lt⟩) (fun x e => ⟨(q3 x e).2.2.1, (q3 x e).2.2.2.lt⟩) (fun x e => ⟨(r3 x e).2.2.1, (r3 x e).2.2.2.lt⟩)
    (fun x y e e' q => by subst q; exact has_ihas' (p3 x e).2.2.2 (q3 x e').2.2.2) (fun x y e e' q => by subst q; exact has_ehas (p3 x e).2.2.2 (r3 x e').2.2.2) (fun x y e e' q => by subst q; exact ihas_ehas (q3 x e).2.2.2 (r3 x e').2.2.2)
  refine ⟨ao, cap, po, pc, eo, ec, d, b, c, rfl, ⟨fun hk => ?_, fun hk => ?_, fun hk => ?_, fun hk => ?_, fun hk => ?_, fun hk => ?_⟩, ⟨l1, l2, l3, fun _ => ⟨n1, n2⟩, n3⟩, hb⟩
  · obtain ⟨g, e⟩ := p2 hk; rw [← e1 g e]; exact (p3 g e).2.1
  · obtain ⟨g, e⟩ := p2 hk; rw [← e1 g e]; exact (p3 g e).2.2.2
  · obtain ⟨g, e⟩ := q2 hk; rw [← e2 g e]; exact (q3 g e).2.1
  · obtain ⟨g, e⟩ := q2 hk; rw [← e2 g e]; exact (q3 g e).2.2.2
  · obtain ⟨g, e⟩ := r2 hk; rw [← e3 g e]; exact (r3 g e).2.1
  · obtain ⟨g, e⟩ := r2 hk; rw [← e3 g e]; exact (r3 g e).2.2.2
theorem svAns_zero {w w' : World} {F T G D L H : Nat → Int} (hs : w.heap.size + 2 ≤ w'.heap.size) (hb : Below w.heap.size w w') :
    SvAns w w' (.returned (.tuple #[.agg #[.int .i64 0, .slice none 0 0, .slice none 0 0, .slice none 0 0, .int .i64 0, .slice none 0 0], .bool false])) 0 0 F T G 0 D 0 L H false :=
  ⟨none, 0, none, 0, none, 0, w.heap.size, w.heap.size, w.heap.size + 1, rfl, ⟨fun h => by omega, fun h => by omega, fun h => by omega, fun h => by omega, fun h => by omega, fun h => by omega⟩, ⟨⟨Nat.le_refl _, by omega⟩, ⟨Nat.le_refl _, by omega⟩, ⟨by omega, by omega⟩, fun h => by omega, by omega⟩, hb⟩
/-- The box of a service. -/
def sv6 (p : Int) (a o e : Value) (v : Int) (t : Value) (j : Nat) : Value := if j = 0 then .int .i64 p else if j = 1 then a else if j = 2 then o else if j = 3 then e else if j = 4 then .int .i64 v else t
theorem sv6_new (w : World) (p : Int) (a o e : Value) (v : Int) (t : Value) (ty : TypeId) : VHas (w.alloc (.cells #[.int .i64 p, a, o, e, .int .i64 v, t] ty)) w.heap.size ty 6 (sv6 p a o e v t) :=
  ⟨_, Go.Deep.blk_alloc_new _ _, by simp, fun j hj => by
    have : j = 0 ∨ j = 1 ∨ j = 2 ∨ j = 3 ∨ j = 4 ∨ j = 5 := by omega
    rcases this with rfl | rfl | rfl | rfl | rfl | rfl <;> rfl⟩

end Go.Proofs.Ythcgibpiogmmdai

/-
  The laws' marks in an answer's memory, and the look whether they are still held; copies of arcs.
-/
set_option linter.unusedVariables false
set_option linter.unusedSimpArgs false
namespace Go.Proofs.Ythcgibpiogmmdai
open Go.RowKit Go.Maps
attribute [local go_sem ↓] Go.wp_at_zero Go.wp_at_succ

theorem grown_unbox {w w' : World} {o : Obj} {b : Nat} (h : (w.alloc o).grownBy w' (some b)) : w.grownBy w' (some b) := (World.grownBy_alloc w o _).trans h


/-- The cells of n arcs, one behind the other. -/
def cellsOf (f : Nat → Int) (m : Nat) : List Value := (List.range m).map fun j => .int .i64 (f j)
theorem Row.news {w : World} {b o n : Nat} {F T G : Nat → Int} (hr : Row w (some ⟨b, o, none⟩) n F T G) : ∀ j u, (cellsOf (ar F T G) (n * 3))[j]? = some u → w.cell? ((⟨b, o, none⟩ : Addr).add j) = some u := fun j u hu => by
  have hj : j < n * 3 := by
    have := (List.getElem?_eq_some_iff.1 hu).1
    simpa [cellsOf] using this
  have hu' : u = .int .i64 (ar F T G j) := by
    rw [cellsOf, List.getElem?_map, List.getElem?_range hj] at hu
    simpa using hu.symm
  subst hu'
  obtain ⟨b', o', e, c0, c1, c2⟩ := hr (j / 3) (by omega)
  simp at e
  obtain ⟨rfl, rfl⟩ := e
  rw [Addr.add_mid]
  have h3 : j % 3 = 0 ∨ j % 3 = 1 ∨ j % 3 = 2 := by omega
  unfold ar
  rcases h3 with h | h | h
  · rw [if_pos h, ← c0]; congr 2; omega
  · rw [if_neg (by omega), if_pos h, ← c1]; congr 2; omega
  · rw [if_neg (by omega), if_neg (by omega), ← c2]; congr 2; omega
theorem cellsOf_one (f : Nat → Int) (m : Nat) : ∀ u ∈ cellsOf f m, u.oneCell' = true := fun u hu => by
  simp [cellsOf] at hu
  obtain ⟨_, _, rfl⟩ := hu
  rfl

end Go.Proofs.Ythcgibpiogmmdai

/-
  The document's copy of a map: its arcs in new memory.
-/
set_option linter.unusedVariables false
set_option linter.unusedSimpArgs false
namespace Go.Proofs.Ythcgibpiogmmdai
open Go.RowKit Go.Maps
attribute [local go_sem ↓] Go.wp_at_zero Go.wp_at_succ

theorem has_of_owns {w : World} {base g n cap : Nat} {f : Nat → Int} {xs : List Value} (h : w.ownsRow base 65 3 (.slice (some ⟨g, 0, none⟩) n cap) n xs) (hx : xs = cellsOf f (n * 3)) : Has w g n f ∧ base ≤ g := by
  obtain ⟨hl, h0 | ⟨g', cap', cur, hv, hb, hh, h1, h2, h3, h4⟩⟩ := h
  · simp at h0
  · simp at hv
    obtain ⟨rfl, rfl⟩ := hv
    refine ⟨⟨cur, hh, by rw [h3]; exact Nat.mul_le_mul_right 3 h1, fun j hj => ?_⟩, hb⟩
    subst hx
    have : (cur.toList.take (n * 3))[j]? = (cellsOf f (n * 3))[j]? := by rw [h4]
    rw [List.getElem?_take_of_lt hj, cellsOf, List.getElem?_map, List.getElem?_range hj] at this
    simpa using this
theorem keep_grown {W W' : World} {row : Option Nat} {b o : Nat} {v : Value} (hg : W.grownBy W' row) (hne : some b ≠ row) (h : W.cell? ⟨b, o, none⟩ = some v) : W'.cell? ⟨b, o, none⟩ = some v := hg.cell h hne
theorem keep_frozen {W W' : World} {row : Option Nat} {b o : Nat} (hg : W.grownBy W' row) (hne : some b ≠ row) (hlt : b < W.heap.size) (h : W.frozen? ⟨b, o, none⟩ = false) : W'.frozen? ⟨b, o, none⟩ = false := by
  rw [← h]; exact World.frozen?_of_block (hg.block b hlt hne)
theorem empty_owns (w : World) (o1 o2 : Obj) : (((w.alloc o1).alloc o2).alloc (.cells #[] 65)).ownsRow (w.heap.size + 2) 65 3 (.slice (some ⟨w.heap.size + 1 + 1, 0, none⟩) 0 0) 0 [] := by
  have := World.ownsRow_lit (base := w.heap.size + 2) (e := 65) (size := 3) ((w.alloc o1).alloc o2) #[] 0 (by simp) (by simp) (by simp)
  simpa using this
set_option maxRecDepth 100000 in
set_option maxHeartbeats 2000000 in
theorem l1Copy_pos (p : Int) (b o n cap : Nat) (F T G : Nat → Int) (hn : n ≤ 1048576) (hpos : 0 < n) (w : World) (hr : Row w (some ⟨b, o, none⟩) n F T G) :
    Calls Try.prog 31 #[.agg #[.int .i64 p, .slice (some ⟨b, o, none⟩) n cap]] w fun e w' => ∃ g cap', e = .returned (.agg #[.int .i64 p, .slice (some ⟨g, 0, none⟩) n cap']) ∧ w.heap.size ≤ g ∧ Has w' g n (ar F T G) ∧ Below w.heap.size w w' := by
  obtain ⟨i0, hi0, hz0, hz1, hz2⟩ := info_parts Try.infoArc
  go_enter Try.func31, Try.ntmps31
  go_wp2
  go_region_held3 (fun w' => w'.cell? ⟨w.heap.size, 0, none⟩ = some (.int .i64 p) ∧ w'.cell? ⟨w.heap.size, 1, none⟩ = some (.slice (some ⟨b, o, none⟩) n cap))
    (first | (simp [go_sem]; done) | (exact ⟨keep_grown hgrow (by simp [Value.ownBlock] <;> omega) (by simp [go_sem]), keep_grown hgrow (by simp [Value.ownBlock] <;> omega) (by simp [go_sem])⟩) | go_keep)
    ((refine step_append_lies _ (by rfl) _ _ _ (by rfl) (w.heap.size + 2) 65 i0 _ 3 24 Try.underlying27 hi0 hz0 hz1 hz2 rfl (by omega) (.slice (some ⟨w.heap.size + 1 + 1, 0, none⟩) 0 0) 0 [] (by rfl) (World.ownsRow.drew (empty_owns w _ _))
        ⟨b, o, none⟩ n cap (cellsOf (ar F T G) (n * 3)) (by rfl) (by simp [cellsOf]) (Row.news (((hr.alloc _).alloc _).alloc _)) (cellsOf_one _ _) hpos (by unfold maxLen; omega) (by omega) (by simp) (w.heap.size + 3) (by simp) ?_; intro g cap' w1 hown1 hgrow hat hlt; have t0 := keep_grown hgrow (b := w.heap.size + 1) (o := 0) (v := .int .i64 0) (by simp [Value.ownBlock] <;> omega) (by simp [go_sem]); have t1 := keep_grown hgrow (b := w.heap.size + 1) (o := 1) (v := .slice none 0 0) (by simp [Value.ownBlock] <;> omega) (by simp [go_sem]); have f0 := keep_frozen hgrow (b := w.heap.size + 1) (o := 0) (by simp [Value.ownBlock] <;> omega) (by simp) (by simp [go_sem]); have f1 := keep_frozen hgrow (b := w.heap.size + 1) (o := 1) (by simp [Value.ownBlock] <;> omega) (by simp) (by simp [go_sem])))
  go_wp2
  simp only [Nat.zero_add, List.nil_append] at hown1
  obtain ⟨hhas, hg2⟩ := has_of_owns hown1 rfl
  simp [bodyPost, results, Try.results31, go_sem, t0, t1, f0, f1]
  refine ⟨by omega, ?_, ?_⟩
  · exact (hhas.of_block (Below.heap_setCell _ _ _ _ (by simp; omega))).of_block (Below.heap_setCell _ _ _ _ (by simp; omega))
  · refine Below.setCell (Below.setCell (Below.grown (Below.drew ((((Below.refl _ _).alloc (Nat.le_refl _) _).alloc (by simp) _).alloc (by simp; omega) _)) hgrow (by simp; omega) ?_) (by simp) _) (by simp) _
    intro k hk
    simp [Value.ownBlock] at hk
    omega
set_option maxHeartbeats 2000000 in
theorem l1Copy_zero (p : Int) (ao : Option Addr) (cap : Nat) (w : World) :
    Calls Try.prog 31 #[.agg #[.int .i64 p, .slice ao 0 cap]] w fun e w' => ∃ g cap', e = .returned (.agg #[.int .i64 p, .slice (some ⟨g, 0, none⟩) 0 cap']) ∧ w.heap.size ≤ g ∧ g < w'.heap.size ∧ Below w.heap.size w w' := by
  have hsc : ∀ (a : Addr) (w : World), (storeCells a []).run Try.prog w = .ok () w := fun _ _ => rfl
  cases ao with
  | none =>
    go_enter Try.func31, Try.ntmps31
    go_wp2
    go_region
    all_goals go_wp2
    all_goals
      simp [bodyPost, results, Try.results31, go_sem]
      refine ⟨by omega, ?_⟩
      exact Below.drew ((((Below.refl _ _).alloc (Nat.le_refl _) _).alloc (by simp) _).alloc (by simp; omega) _)
  | some a =>
    go_enter Try.func31, Try.ntmps31
    go_wp2
    go_region
    all_goals go_wp2
    all_goals
      simp [bodyPost, results, Try.results31, go_sem]
      refine ⟨by omega, ?_⟩
      exact Below.drew ((((Below.refl _ _).alloc (Nat.le_refl _) _).alloc (by simp) _).alloc (by simp; omega) _)
/-- A copy of a map by the document: its arcs in new memory. -/
theorem l1Copy_any (p : Int) (ao : Option Addr) (n cap : Nat) (F T G : Nat → Int) (hn : n ≤ 1048576) (w : World) (hr : Row w ao n F T G) :
    Calls Try.prog 31 #[.agg #[.int .i64 p, .slice ao n cap]] w fun e w' => ∃ g cap', e = .returned (.agg #[.int .i64 p, .slice (some ⟨g, 0, none⟩) n cap']) ∧ w.heap.size ≤ g ∧ g < w'.heap.size ∧ (0 < n → Has w' g n (ar F T G)) ∧ Below w.heap.size w w' := by
  by_cases h : 0 < n
  · obtain ⟨b, o, e, _⟩ := hr 0 h
    subst e
    refine (l1Copy_pos p b o n cap F T G hn h w hr).mono ?_
    rintro e w' ⟨g, cap', rfl, h1, h2, h3⟩
    exact ⟨g, cap', rfl, h1, h2.lt, fun _ => h2, h3⟩
  · have e : n = 0 := by omega
    subst e
    refine (l1Copy_zero p ao cap w).mono ?_
    rintro e w' ⟨g, cap', rfl, h1, h2, h3⟩
    exact ⟨g, cap', rfl, h1, h2, fun h => by omega, h3⟩

end Go.Proofs.Ythcgibpiogmmdai

/-
  The program's mesh in memory: read, written; two places joined, two places parted.
-/
set_option linter.unusedVariables false
set_option linter.unusedSimpArgs false
namespace Go.Proofs.Ythcgibpiogmmdai
open Go.RowKit
attribute [local go_sem ↓] Go.wp_at_zero Go.wp_at_succ

/-- The cells of a mesh: how many places, a square of 24 rows, who is gone. -/
def meshV (p : Int) (B : Nat → Nat → Bool) (gone : Nat → Bool) (j : Nat) : Value := if j = 0 then .int .i64 p else if j < 577 then .bool (B ((j - 1) / 24) ((j - 1) % 24)) else .bool (gone (j - 577))
def MeshAt (w : World) (bm : Nat) (p : Int) (B : Nat → Nat → Bool) (gone : Nat → Bool) : Prop := VHas w bm 135 601 (meshV p B gone)
theorem MeshAt.places {w : World} {bm : Nat} {p : Int} {B : Nat → Nat → Bool} {gone : Nat → Bool} (h : MeshAt w bm p B gone) : w.cell? ⟨bm, 0, none⟩ = some (.int .i64 p) := by
  rw [VHas.cell h (by omega)]; rfl
theorem MeshAt.at {w : World} {bm : Nat} {p : Int} {B : Nat → Nat → Bool} {gone : Nat → Bool} (h : MeshAt w bm p B gone) {x y : Nat} (hx : x < 24) (hy : y < 24) : w.cell? ⟨bm, 1 + x * 24 + y, none⟩ = some (.bool (B x y)) := by
  rw [VHas.cell h (by omega)]
  unfold meshV
  rw [if_neg (by omega), if_pos (by omega)]
  have h1 : (1 + x * 24 + y - 1) / 24 = x := by omega
  have h2 : (1 + x * 24 + y - 1) % 24 = y := by omega
  rw [h1, h2]
theorem MeshAt.gone {w : World} {bm : Nat} {p : Int} {B : Nat → Nat → Bool} {gone : Nat → Bool} (h : MeshAt w bm p B gone) {x : Nat} (hx : x < 24) : w.cell? ⟨bm, 577 + x, none⟩ = some (.bool (gone x)) := by
  rw [VHas.cell h (by omega)]
  unfold meshV
  rw [if_neg (by omega), if_neg (by omega)]
  have h1 : 577 + x - 577 = x := by omega
  rw [h1]
theorem MeshAt.put {w : World} {bm : Nat} {p : Int} {B : Nat → Nat → Bool} {gone : Nat → Bool} (h : MeshAt w bm p B gone) {x y : Nat} (hx : x < 24) (hy : y < 24) (v : Bool) : MeshAt (w.setCell ⟨bm, 1 + x * 24 + y, none⟩ (.bool v)) bm p (upd B x y v) gone := by
  refine (VHas.set h (1 + x * 24 + y) (.bool v)).congr (fun j hj => ?_)
  by_cases e : j = 1 + x * 24 + y
  · subst e
    rw [if_pos rfl]
    unfold meshV upd
    have h1 : (1 + x * 24 + y - 1) / 24 = x := by omega
    have h2 : (1 + x * 24 + y - 1) % 24 = y := by omega
    rw [if_neg (by omega), if_pos (by omega), h1, h2, if_pos ⟨rfl, rfl⟩]
  · rw [if_neg e]
    unfold meshV upd
    by_cases h0 : j = 0
    · rw [if_pos h0, if_pos h0]
    · rw [if_neg h0, if_neg h0]
      by_cases h1 : j < 577
      · rw [if_pos h1, if_pos h1, if_neg (by omega)]
      · rw [if_neg h1, if_neg h1]
theorem MeshAt.go {w : World} {bm : Nat} {p : Int} {B : Nat → Nat → Bool} {gone : Nat → Bool} (h : MeshAt w bm p B gone) {x : Nat} (hx : x < 24) : MeshAt (w.setCell ⟨bm, 577 + x, none⟩ (.bool true)) bm p B (goneU gone x) := by
  refine (VHas.set h (577 + x) (.bool true)).congr (fun j hj => ?_)
  by_cases e : j = 577 + x
  · subst e
    rw [if_pos rfl]
    unfold meshV goneU
    have h1 : 577 + x - 577 = x := by omega
    rw [if_neg (by omega), if_neg (by omega), h1, if_pos rfl]
  · rw [if_neg e]
    unfold meshV goneU
    by_cases h0 : j = 0
    · rw [if_pos h0, if_pos h0]
    · rw [if_neg h0, if_neg h0]
      by_cases h1 : j < 577
      · rw [if_pos h1, if_pos h1]
      · rw [if_neg h1, if_neg h1, if_neg (by omega)]
theorem MeshAt.same {w : World} {bm : Nat} {p : Int} {B B' : Nat → Nat → Bool} {gone : Nat → Bool} (h : MeshAt w bm p B gone) (e : ∀ x y, x < 24 → y < 24 → B x y = B' x y) : MeshAt w bm p B' gone := by
  refine VHas.congr h (fun j hj => ?_)
  unfold meshV
  by_cases h0 : j = 0
  · rw [if_pos h0, if_pos h0]
  · rw [if_neg h0, if_neg h0]
    by_cases h1 : j < 577
    · rw [if_pos h1, if_pos h1, e _ _ (by omega) (by omega)]
    · rw [if_neg h1, if_neg h1]

set_option maxHeartbeats 1000000 in
theorem join_any (bm a b : Nat) (p : Int) (B : Nat → Nat → Bool) (gone : Nat → Bool) (ha : a < 24) (hb : b < 24) (hne : a ≠ b) (w : World) (h : MeshAt w bm p B gone) :
    Calls Try.prog 93 #[.pointer (some ⟨bm, 0, none⟩), .int .i64 (a : Int), .int .i64 (b : Int)] w fun e w' => e = .returned (.tuple #[]) ∧ MeshAt w' bm p (upd2 B a b true) gone ∧ w.grownBy w' (some bm) := by
  have d0 := h.at ha hb
  have z0 := VHas.frozen h (1 + a * 24 + b)
  have d1 := h.at hb ha
  have z1 := VHas.frozen h (1 + b * 24 + a)
  have n1 : ¬ 1 + a * 24 + b = 1 + b * 24 + a := by omega
  have n2 : ¬ 1 + b * 24 + a = 1 + a * 24 + b := by omega
  have ha' : (a : Int) < 24 := by omega
  have hb' : (b : Int) < 24 := by omega
  go_enter Try.func93, Try.ntmps93
  go_wp2
  simp [bodyPost, results, Try.results93, go_sem]
  exact ⟨(h.put ha hb true).put hb ha true, (gr_setCell w bm (1 + a * 24 + b) (.bool true)).trans (gr_setCell _ bm (1 + b * 24 + a) (.bool true))⟩

set_option maxHeartbeats 1000000 in
theorem part_any (bm a b : Nat) (p : Int) (B : Nat → Nat → Bool) (gone : Nat → Bool) (ha : a < 24) (hb : b < 24) (hne : a ≠ b) (w : World) (h : MeshAt w bm p B gone) :
    Calls Try.prog 95 #[.pointer (some ⟨bm, 0, none⟩), .int .i64 (a : Int), .int .i64 (b : Int)] w fun e w' => e = .returned (.tuple #[]) ∧ MeshAt w' bm p (upd2 B a b false) gone ∧ w.grownBy w' (some bm) := by
  have d0 := h.at ha hb
  have z0 := VHas.frozen h (1 + a * 24 + b)
  have d1 := h.at hb ha
  have z1 := VHas.frozen h (1 + b * 24 + a)
  have n1 : ¬ 1 + a * 24 + b = 1 + b * 24 + a := by omega
  have n2 : ¬ 1 + b * 24 + a = 1 + a * 24 + b := by omega
  have ha' : (a : Int) < 24 := by omega
  have hb' : (b : Int) < 24 := by omega
  go_enter Try.func95, Try.ntmps95
  go_wp2
  simp [bodyPost, results, Try.results95, go_sem]
  exact ⟨(h.put ha hb false).put hb ha false, (gr_setCell w bm (1 + a * 24 + b) (.bool false)).trans (gr_setCell _ bm (1 + b * 24 + a) (.bool false))⟩

/-- A new mesh's cells. -/
def isF : Option Value → Bool
  | some (.bool b) => !b
  | _ => false
set_option maxRecDepth 100000 in
theorem zero_cells : (List.range 601).all (fun j => j == 0 || isF (Try.zeroCells135[j]?)) = true := by kernel_rfl
set_option maxRecDepth 100000 in
theorem zero_size : Try.zeroCells135.size = 601 := by kernel_rfl
theorem mesh_new (w : World) (p : Int) : MeshAt (w.alloc (.cells (Try.zeroCells135.setIfInBounds 0 (.int .i64 p)) 135)) w.heap.size p (fun _ _ => false) (fun _ => false) := by
  refine ⟨_, Go.Deep.blk_alloc_new _ _, by rw [Array.size_setIfInBounds, zero_size]; exact Nat.le_refl _, fun j hj => ?_⟩
  unfold meshV
  by_cases h0 : j = 0
  · subst h0
    rw [if_pos rfl, Array.getElem?_setIfInBounds_self_of_lt (by rw [zero_size]; omega)]
  · rw [if_neg h0, Array.getElem?_setIfInBounds_ne (fun e => h0 e.symm)]
    have := List.all_eq_true.1 zero_cells j (List.mem_range.2 hj)
    have hz : (j == 0) = false := by simpa using h0
    rw [hz, Bool.false_or] at this
    have e : Try.zeroCells135[j]? = some (.bool false) := by
      generalize Try.zeroCells135[j]? = o at this
      cases o with
      | none => cases this
      | some v =>
        cases v <;> first | (simp [isF] at this; done) | (simp [isF] at this; subst this; rfl)
    rw [e]
    split <;> rfl

set_option maxHeartbeats 1000000 in
theorem meshOf_any (p : Nat) (ao : Option Addr) (n cap : Nat) (F T G : Nat → Int) (hp : p ≤ 24) (hn : n ≤ 100) (hF : ∀ k, k < n → 0 ≤ F k ∧ F k < (p : Int)) (hT : ∀ k, k < n → 0 ≤ T k ∧ T k < (p : Int)) (hFT : ∀ k, k < n → F k ≠ T k) (w : World) (hr : Row w ao n F T G) :
    Calls Try.prog 83 #[.agg #[.int .i64 (p : Int), .slice ao n cap]] w fun e w' => ∃ bm, e = .returned (.pointer (some ⟨bm, 0, none⟩)) ∧ w.heap.size ≤ bm ∧ MeshAt w' bm (p : Int) (nbA F T n) (fun _ => false) ∧ Below w.heap.size w w' := by
  go_enter Try.func83, Try.ntmps83
  go_wp2
  go_loopw [13] (fun i wr => ∃ k : Nat, k ≤ n ∧ i = .int .i64 k ∧ MeshAt wr (w.heap.size + 1) (p : Int) (nbA F T k) (fun _ => false) ∧ Below (w.heap.size + 1) (w.alloc (.cells #[.int .i64 (p : Int), .slice ao n cap] 37)) wr) (fun i _ => n - (intOf i).toNat)
  case atStart => exact ⟨0, Nat.zero_le _, rfl, by have := mesh_new (w.alloc (.cells #[.int .i64 (p : Int), .slice ao n cap] 37)) (p : Int); simp only [World.size_alloc] at this; exact this, (Below.refl _ _).alloc (by simp) _⟩
  case round =>
    obtain ⟨k, hk, rfl, hM, hbel⟩ := hrel
    have hml := VHas.lt hM
    by_cases hlt : k < n
    rotate_left
    · have hkn : k = n := by omega
      subst hkn
      go_wp2
      go_ret
      exact ⟨_, rfl, by omega, hM, unbox hbel (by omega)⟩
    obtain ⟨b, o, hao, c0, c1, c2⟩ := ((hr.alloc _).below hbel (by simp)) k hlt
    subst hao
    have hf0 := hF k hlt
    have ht0 := hT k hlt
    have hne0 := hFT k hlt
    obtain ⟨f, hf⟩ : ∃ f : Nat, F k = (f : Int) := ⟨(F k).toNat, by omega⟩
    obtain ⟨t, ht⟩ : ∃ t : Nat, T k = (t : Int) := ⟨(T k).toNat, by omega⟩
    have hst : Hid (nbA F T (k + 1) = upd2 (nbA F T k) f t true) := by
      show upd2 (nbA F T k) (F k).toNat (T k).toNat true = _
      rw [hf, ht]; rfl
    rw [hf] at c0 hf0 hne0
    rw [ht] at c1 ht0 hne0
    clear hf ht
    have hft : f ≠ t := by omega
    have hal := (Below.refl wr.heap.size wr).alloc (Nat.le_refl _) (.cells #[.int .i64 (f : Int), .int .i64 (t : Int), .int .i64 (G k)] 65)
    have hj := join_any (w.heap.size + 1) f t (p : Int) _ _ (by omega) (by omega) hft _ (VHas.next hM hal)
    have hB2 := below_next hbel (by simp) hal
    clear hM hbel
    go_wp2_with (go_at_call 93; refine hj.mono ?_; rintro e w2 ⟨rfl, hM2, hg2⟩)
    go_roundw
    case rel => exact ⟨k + 1, by omega, by go_num, by rw [hst.out]; exact hM2, hB2.trans (gr_below hg2 (Nat.le_refl _) (by have := hB2.size; simpa using this))⟩
    case measure => simp [intOf]; omega

end Go.Proofs.Ythcgibpiogmmdai

/-
  A range over a function whose rounds write what the function reads between them: the caller's own invariant tells the function what lies there. Two laws: for a loop that stands alone and for one in a round of another; no round leaves early.
-/
set_option linter.unusedVariables false
set_option linter.unusedSimpArgs false
namespace Go.Proofs.Ythcgibpiogmmdai
open Go Go.RowKit

section
variable {F : Fence} {n m : Nat} {P : Program}

/-- One call of yield: the record is ready, the body ends in the ordinary way and leaves it busy. -/
theorem yield_of {l : Nat} {r : Loop} {args : Array Value} {W : World} {R : Ending → World → Prop} (hl : W.heap[l]? = some (.loop r)) (hs : args.size = r.params.size) (hr : r.state = .ready) (hp : r.pending = none) (hfn : F.fn r.fn)
    (h : r.assign.wpIn (F.inRound l) m P (Exit.then (fun a' Wa => Wa.heap[l]? = some (.loop r) ∧ r.body.wpIn (F.inRound l) m P (fun e _ W3 => e = .normal ∧ W3.heap[l]? = some (.loop { r with state := .busy }) ∧ R (.returned (.bool true)) (W3.putObj l (.loop r))) a' (Wa.putObj l (.loop { r with state := .busy }))) (fun _ _ _ => False))
      { tmps := (r.params.zip args).foldl (fun t (p, v) => t.setIfInBounds p v) r.tmps, defers := [] } W) : YieldAt F m P l args W R := by
  refine ⟨_, _, _, _, run_yield hl hs, roundIn_of_wpIn hfn (wpIn_mono h ?_)⟩
  intro e a' Wa hh
  cases e with
  | normal =>
    obtain ⟨h1, h2⟩ := hh
    refine ⟨_, run_beginRound h1 hr, wpIn_mono h2 ?_⟩
    rintro e3 a3 W3 ⟨rfl, h3, h4⟩
    refine ⟨_, _, run_endRound none h3, ?_⟩
    have e : ({ { r with state := .busy } with state := if (none : Option Code).isNone then .ready else .done, pending := none } : Loop) = r := by
      cases r; simp_all
    rw [e]
    exact h4
  | _ => exact hh

/-- How a round's body ends: ordinarily; what is no cells and lies from B on lies as it lay; the invariant holds one further. -/
def roundQ {α : Type} (B : Nat) (I : List α → World → Prop) (xs : List α) (W : World) : Exit → Act → World → Prop := fun e _ W' => e = .normal ∧ KeepsFrom B W W' ∧ I xs W'

/-- What the function that is ranged over owes: called with the yield of loop l, whatever J that tells I, it hands over elements that are asked for (G) till S. -/
def SeqAt {α : Type} (F : Fence) (n : Nat) (P : Program) (gf : Nat) (lb : Array Value) (encs : α → Array Value) (I : List α → World → Prop) (G : List α → α → Prop) (S : List α → Prop) (w : World) : Prop :=
  ∀ (l : Nat) (J : List α → World → Prop) (W : World), Below w.heap.size w W → AbidesFrom W.heap.size J → (∀ pre W1, J pre W1 → I pre W1) →
    (∀ pre x W1, J pre W1 → G pre x → YieldAt F (n - 1) P l (encs x) W1 fun e W' => e = .returned (.bool true) ∧ J (pre ++ [x]) W') → J [] W →
    CallsIn F n P gf (#[.func (.yield l) #[] #[]] ++ lb) W fun e W' => (∃ v, e = .returned v) ∧ ∃ xs, S xs ∧ J xs W'

/-- A round, its bookkeeping done: the record's block l lies from B on. -/
theorem round_of {α : Type} {B l : Nat} {r : Loop} {encs : α → Array Value} {x : α} {pre : List α} {W : World} {I : List α → World → Prop} {Ax : α → Act → World → Prop} (hI : OwnFrom B I) (hAx : ∀ a', OwnFrom B (fun (_ : Unit) W => Ax x a' W))
    (hB : B ≤ l) (hl : W.heap[l]? = some (.loop r)) (hs : (encs x).size = r.params.size) (hr : r.state = .ready) (hp : r.pending = none) (hfn : F.fn r.fn) (hi : I pre W)
    (hassign : ∀ K : Act → World → Prop, (∀ a' W', KeepsFrom B W W' → I pre W' → Ax x a' W' → K a' W') →
      r.assign.wpIn (F.inRound l) m P (Exit.then K (fun _ _ _ => False)) { tmps := (r.params.zip (encs x)).foldl (fun t (p, v) => t.setIfInBounds p v) r.tmps, defers := [] } W)
    (hbody : ∀ (a' : Act) (W' : World), (∃ r, W'.heap[l]? = some (.loop r)) → I pre W' → Ax x a' W' → r.body.wpIn (F.inRound l) m P (roundQ B I (pre ++ [x]) W') a' W')
    {R : World → Prop} (hR : ∀ W', I (pre ++ [x]) W' → W'.heap[l]? = some (.loop r) → (∀ k o, B ≤ k → k ≠ l → W.heap[k]? = some o → o.isCells = false → W'.heap[k]? = some o) → R W') :
    YieldAt F m P l (encs x) W fun e W' => e = .returned (.bool true) ∧ R W' := by
  refine yield_of hl hs hr hp hfn (hassign _ ?_)
  intro a' Wa hk hia hax
  have hla := hk.same l _ hB hl rfl
  have hlt := (Array.getElem?_eq_some_iff.1 hla).1
  have hl2 : (Wa.putObj l (.loop { r with state := .busy })).heap[l]? = some (.loop { r with state := .busy }) := World.putObj_heap_same hlt
  refine ⟨hla, wpIn_mono (hbody a' _ ⟨_, hl2⟩ (hI.putObj _ hia hB hla rfl) ((hAx a').putObj (s := ()) _ hax hB hla rfl)) ?_⟩
  rintro e a3 W3 ⟨rfl, hk3, hi3⟩
  have hl3 := hk3.same l _ hB hl2 rfl
  refine ⟨rfl, hl3, rfl, hR _ (hI.putObj _ hi3 hB hl3 rfl) (World.putObj_heap_same (Array.getElem?_eq_some_iff.1 hl3).1) ?_⟩
  intro k o hBk hne h0 ho
  rw [World.putObj_heap_other hne]
  refine hk3.same k o hBk ?_ ho
  rw [World.putObj_heap_other hne]
  exact hk.same k o hBk h0 ho

/-- THE LAW for a loop that stands alone. -/
theorem range_alone {α : Type} {g : Operand} {ps : Array Tmp} {assign body : Code} {Q : Exit → Act → World → Prop} {a : Act} {w : World}
    (hro : F.round = none) (h1 : 1 ≤ n) {gf : Nat} {lb : Array Value} (hg : a.eval g = .func (.func gf) #[] lb) (hFg : F.fn gf) (eg : ∀ args w, (callFunc gf args).run P w = .ok (.enter gf args) w)
    {encs : α → Array Value} (hps : ∀ x, (encs x).size = ps.size) (I : List α → World → Prop) (hI : OwnFrom w.heap.size I) (h0 : I [] w) {G : List α → α → Prop} {S : List α → Prop} (hseq : SeqAt F (n - 1) P gf lb encs I G S w)
    (Ax : α → Act → World → Prop) (hAx : ∀ x a', OwnFrom w.heap.size (fun (_ : Unit) W => Ax x a' W))
    (hassign : ∀ (l : Nat) (pre : List α) (x : α) (W : World) (K : Act → World → Prop), I pre W → G pre x → (∀ a' W', KeepsFrom w.heap.size W W' → I pre W' → Ax x a' W' → K a' W') →
      assign.wpIn (F.inRound l) (n - 1 - 1) P (Exit.then K (fun _ _ _ => False)) { tmps := (ps.zip (encs x)).foldl (fun t (p, v) => t.setIfInBounds p v) a.tmps, defers := [] } W)
    (hbody : ∀ (l : Nat) (pre : List α) (x : α) (a' : Act) (W : World), w.heap.size ≤ l → (∃ r, W.heap[l]? = some (.loop r)) → I pre W → G pre x → Ax x a' W → body.wpIn (F.inRound l) (n - 1 - 1) P (roundQ w.heap.size I (pre ++ [x]) W) a' W)
    (hdone : ∀ (D : Nat) (xs : List α) (W : World), w.heap.size ≤ D → S xs → I xs W → W.heap[D]? = some (.deferred (some [])) → Q .normal { a with defers := { target := .collected D, args := #[] } :: a.defers } W) :
    (Code.rangeFunc g ps assign body).wpIn F n P Q a w := by
  refine wpIn_rangeFunc fun fn hfn => ?_
  rw [hro]
  obtain ⟨r, hr⟩ : ∃ r : Loop, r = { state := .ready, pending := none, fn, tmps := a.tmps, params := ps, assign, body, defers := w.heap.size } := ⟨_, rfl⟩
  have hen := run_enterLoop_outer (P := P) (w := w) fn a.tmps ps assign body
  rw [← hr] at hen
  have hb : Below w.heap.size w ((w.alloc (.deferred (some []))).alloc (.loop r)) := ((Below.refl _ w).alloc (Nat.le_refl _) _).alloc (by simp) _
  have hL : ((w.alloc (.deferred (some []))).alloc (.loop r)).heap[w.heap.size + 1]? = some (.loop r) := by
    have := World.alloc_heap_new (w.alloc (.deferred (some []))) (.loop r)
    rwa [World.size_alloc] at this
  have hD : ((w.alloc (.deferred (some []))).alloc (.loop r)).heap[w.heap.size]? = some (.deferred (some [])) := (Below.heap_alloc _ _ _ (by simp)).trans (World.alloc_heap_new w _)
  have hi := hI.alloc (.loop r) (hI.alloc (.deferred (some [])) h0)
  have hsz : ((w.alloc (.deferred (some []))).alloc (.loop r)).heap.size = w.heap.size + 2 := by simp
  generalize (w.alloc (.deferred (some []))).alloc (.loop r) = W1 at hb hL hD hi hsz hen
  refine ⟨w.heap.size + 1, [{ target := .collected w.heap.size, args := #[] }], W1, { target := .fn (.func gf) lb, args := #[.func (.yield (w.heap.size + 1)) #[] #[]] }, W1, gf, #[.func (.yield (w.heap.size + 1)) #[] #[]] ++ lb, W1, hen, ?_, ?_, ?_, fun _ => h1, ?_⟩
  · simp only [resolve, hg]
    simp [go_sem]
  · intro f' hf'
    simp [Target.leads] at hf'
    subst hf'
    exact hFg
  · simp [invoke, go_sem, eg]
  refine (hseq (w.heap.size + 1) (fun pre W => I pre W ∧ W.heap[w.heap.size + 1]? = some (.loop r) ∧ W.heap[w.heap.size]? = some (.deferred (some []))) W1 hb ?_ (fun _ _ h => h.1) ?_ ⟨hi, hL, hD⟩).mono ?_
  · rintro s A B row ⟨hs, hl, hd⟩ hg' hrow
    have hw' : ∀ r, row = some r → ∃ o : Obj, A.heap[r]? = some o ∧ o.isWalk = true := fun r e => (hrow r e).2
    refine ⟨hI s A B row hs hg' (fun j e => ?_), (grownBy_keeps hg' hw' hl rfl).trans hl, (grownBy_keeps hg' hw' hd rfl).trans hd⟩
    obtain ⟨hj, o, ho, hwo⟩ := hrow j e
    exact ⟨by omega, o, ho, Obj.not_cells_of_walk hwo⟩
  · rintro pre x W ⟨hi', hl', hd'⟩ hG
    refine round_of hI (hAx x) (by omega) hl' (by rw [hr]; exact hps x) (by rw [hr]) (by rw [hr]) (by rw [hr]; exact hfn) hi' ?_ ?_ ?_
    · intro K hK
      have := hassign (w.heap.size + 1) pre x W K hi' hG hK
      rw [hr]
      exact this
    · intro a' W' hrec hi2 hax
      have := hbody (w.heap.size + 1) pre x a' W' (by omega) hrec hi2 hG hax
      rw [hr]
      exact this
    · intro W' hi3 hl3 hrest
      exact ⟨hi3, hl3, hrest _ _ (Nat.le_refl _) (by omega) hd' rfl⟩
  · rintro e W2 ⟨⟨v, rfl⟩, xs, hS, hi2, hl2, hd2⟩
    refine ⟨none, _, ?_, hdone _ xs _ (Nat.le_refl _) hS (hI.putObj (.loop { r with state := .exhausted }) hi2 (by omega) hl2 rfl) ((World.putObj_heap_other (by omega)).trans hd2)⟩
    have := run_endLoop (P := P) hl2 (by rw [hr]; simp)
    have e : r.pending = none := by rw [hr]
    rw [e] at this ⊢
    exact this

/-- THE LAW for a loop in a round of loop l₀. -/
theorem range_within {α : Type} {g : Operand} {ps : Array Tmp} {assign body : Code} {Q : Exit → Act → World → Prop} {a : Act} {w : World}
    {l₀ : Nat} {r₀ : Loop} (hro : F.round = some l₀) (hl₀ : w.heap[l₀]? = some (.loop r₀)) (h1 : 1 ≤ n) {gf : Nat} {lb : Array Value} (hg : a.eval g = .func (.func gf) #[] lb) (hFg : F.fn gf) (eg : ∀ args w, (callFunc gf args).run P w = .ok (.enter gf args) w)
    {encs : α → Array Value} (hps : ∀ x, (encs x).size = ps.size) (I : List α → World → Prop) (hI : OwnFrom w.heap.size I) (h0 : I [] w) {G : List α → α → Prop} {S : List α → Prop} (hseq : SeqAt F (n - 1) P gf lb encs I G S w)
    (Ax : α → Act → World → Prop) (hAx : ∀ x a', OwnFrom w.heap.size (fun (_ : Unit) W => Ax x a' W))
    (hassign : ∀ (l : Nat) (pre : List α) (x : α) (W : World) (K : Act → World → Prop), I pre W → G pre x → (∀ a' W', KeepsFrom w.heap.size W W' → I pre W' → Ax x a' W' → K a' W') →
      assign.wpIn (F.inRound l) (n - 1 - 1) P (Exit.then K (fun _ _ _ => False)) { tmps := (ps.zip (encs x)).foldl (fun t (p, v) => t.setIfInBounds p v) a.tmps, defers := [] } W)
    (hbody : ∀ (l : Nat) (pre : List α) (x : α) (a' : Act) (W : World), w.heap.size ≤ l → (∃ r, W.heap[l]? = some (.loop r)) → I pre W → G pre x → Ax x a' W → body.wpIn (F.inRound l) (n - 1 - 1) P (roundQ w.heap.size I (pre ++ [x]) W) a' W)
    (hdone : ∀ (xs : List α) (W : World), S xs → I xs W → Q .normal a W) :
    (Code.rangeFunc g ps assign body).wpIn F n P Q a w := by
  refine wpIn_rangeFunc fun fn hfn => ?_
  rw [hro]
  obtain ⟨r, hr⟩ : ∃ r : Loop, r = { state := .ready, pending := none, fn, tmps := a.tmps, params := ps, assign, body, defers := r₀.defers } := ⟨_, rfl⟩
  have hen := run_enterLoop_inner (P := P) hl₀ fn a.tmps ps assign body
  rw [← hr] at hen
  have hb : Below w.heap.size w (w.alloc (.loop r)) := (Below.refl _ w).alloc (Nat.le_refl _) _
  have hL : (w.alloc (.loop r)).heap[w.heap.size]? = some (.loop r) := World.alloc_heap_new w _
  have hi := hI.alloc (.loop r) h0
  have hsz : (w.alloc (.loop r)).heap.size = w.heap.size + 1 := by simp
  generalize w.alloc (.loop r) = W1 at hb hL hi hsz hen
  refine ⟨w.heap.size, [], W1, { target := .fn (.func gf) lb, args := #[.func (.yield w.heap.size) #[] #[]] }, W1, gf, #[.func (.yield w.heap.size) #[] #[]] ++ lb, W1, hen, ?_, ?_, ?_, fun _ => h1, ?_⟩
  · simp only [resolve, hg]
    simp [go_sem]
  · intro f' hf'
    simp [Target.leads] at hf'
    subst hf'
    exact hFg
  · simp [invoke, go_sem, eg]
  refine (hseq w.heap.size (fun pre W => I pre W ∧ W.heap[w.heap.size]? = some (.loop r)) W1 hb ?_ (fun _ _ h => h.1) ?_ ⟨hi, hL⟩).mono ?_
  · rintro s A B row ⟨hs, hl⟩ hg' hrow
    have hw' : ∀ r, row = some r → ∃ o : Obj, A.heap[r]? = some o ∧ o.isWalk = true := fun r e => (hrow r e).2
    refine ⟨hI s A B row hs hg' (fun j e => ?_), (grownBy_keeps hg' hw' hl rfl).trans hl⟩
    obtain ⟨hj, o, ho, hwo⟩ := hrow j e
    exact ⟨by omega, o, ho, Obj.not_cells_of_walk hwo⟩
  · rintro pre x W ⟨hi', hl'⟩ hG
    refine round_of hI (hAx x) (Nat.le_refl _) hl' (by rw [hr]; exact hps x) (by rw [hr]) (by rw [hr]) (by rw [hr]; exact hfn) hi' ?_ ?_ ?_
    · intro K hK
      have := hassign w.heap.size pre x W K hi' hG hK
      rw [hr]
      exact this
    · intro a' W' hrec hi2 hax
      have := hbody w.heap.size pre x a' W' (Nat.le_refl _) hrec hi2 hG hax
      rw [hr]
      exact this
    · intro W' hi3 hl3 _
      exact ⟨hi3, hl3⟩
  · rintro e W2 ⟨⟨v, rfl⟩, xs, hS, hi2, hl2⟩
    refine ⟨none, _, ?_, hdone xs _ hS (hI.putObj (.loop { r with state := .exhausted }) hi2 (Nat.le_refl _) hl2 rfl)⟩
    have := run_endLoop (P := P) hl2 (by rw [hr]; simp)
    have e : r.pending = none := by rw [hr]
    rw [e] at this ⊢
    exact this
end

end Go.Proofs.Ythcgibpiogmmdai

/-
  The program's iterator over the neighbours of a place: what it hands over, whatever the rounds do, as long as its own row can be read.
-/
set_option linter.unusedVariables false
set_option linter.unusedSimpArgs false
namespace Go.Proofs.Ythcgibpiogmmdai
open Go.RowKit Go.Shelf
attribute [local go_sem] Oper.semAt_some

theorem neighbours_any (bm : Nat) (place : Int) (w : World) :
    Calls Try.prog 87 #[.pointer (some ⟨bm, 0, none⟩), .int .i64 place] w fun e w' => e = .returned (.func (.func 96) #[] #[.pointer (some ⟨w.heap.size, 0, none⟩), .pointer (some ⟨w.heap.size + 1, 0, none⟩)]) ∧ w' = (w.alloc (.cells #[.pointer (some ⟨bm, 0, none⟩)] 118)).alloc (.cells #[.int .i64 place] 2) := by
  go_enter Try.func87, Try.ntmps87
  go_wp2
  go_ret
  exact ⟨rfl, rfl⟩
/-- What the iterator reads: its two boxes, how many places, the row of its place. -/
structure Reads (bM bP bm p place : Nat) (W : World) (f : Nat → Bool) : Prop where
  rdM : W.cell? ⟨bM, 0, none⟩ = some (.pointer (some ⟨bm, 0, none⟩))
  rdP : W.cell? ⟨bP, 0, none⟩ = some (.int .i64 (place : Int))
  rdN : W.cell? ⟨bm, 0, none⟩ = some (.int .i64 (p : Int))
  rdR : ∀ j, j < 24 → W.cell? ⟨bm, 1 + place * 24 + j, none⟩ = some (.bool (f j))
set_option maxRecDepth 100000 in
set_option maxHeartbeats 2000000 in
theorem iter_core (n : Nat) (hn : 1 ≤ n) (l bM bP bm p place : Nat) (hp : p ≤ 24) (hpl : place < 24) (J Jx : List Nat → World → Prop) (bits : List Nat → Nat → Bool) (W : World) (hJ : AbidesFrom W.heap.size J)
    (hRd : ∀ pre W1, J pre W1 → Reads bM bP bm p place W1 (bits pre))
    (hY : ∀ k W1, k < p → bits (vis bits k) k = true → J (vis bits k) W1 → YieldAt Fence.wide (n - 1) Try.prog l #[.int .i64 (k : Int)] W1 fun e W' => (e = .returned (.bool true) ∧ J (vis bits k ++ [k]) W') ∨ (e = .returned (.bool false) ∧ Jx (vis bits k ++ [k]) W'))
    (h0 : J [] W) :
    CallsIn Fence.wide n Try.prog 96 #[.func (.yield l) #[] #[], .pointer (some ⟨bM, 0, none⟩), .pointer (some ⟨bP, 0, none⟩)] W fun e W' => (∃ v, e = .returned v) ∧ (J (vis bits p) W' ∨ ∃ k, k < p ∧ bits (vis bits k) k = true ∧ Jx (vis bits k ++ [k]) W') := by
  obtain ⟨r1, r2, r3, r4⟩ := hRd _ _ h0
  refine callsIn_of_wp Try.func96 rfl trivial ?_ rfl
  simp only [Try.ntmps96, List.size_toArray, List.length_cons, List.length_nil, Nat.reduceAdd, Nat.reduceSub, Array.replicate_succ, Array.replicate_zero, List.push_toArray, List.append_toArray, List.nil_append, List.cons_append]
  gi_wp2
  clear r1 r2 r3 r4
  gi_loopw [9] (fun i wr => ∃ k : Nat, k ≤ p ∧ i = .int .i64 k ∧ J (vis bits k) wr) (fun i _ => p - (intOf i).toNat)
  case atStart => exact ⟨0, Nat.zero_le _, rfl, h0⟩
  case round =>
    obtain ⟨k, hk, rfl, hJk⟩ := hrel
    by_cases hlt : k < p
    rotate_left
    · have hkp : k = p := by omega
      subst hkp
      gi_wp2
      go_end0
      exact ⟨⟨_, rfl⟩, .inl hJk⟩
    have hlt' : (k : Int) < (p : Int) := by omega
    obtain ⟨r1, r2, r3, r4⟩ := hRd _ _ hJk
    have r5 := r4 k (by omega)
    have hpl' : (place : Int) < 24 := by omega
    have hk24 : (k : Int) < 24 := by omega
    cases hb : bits (vis bits k) k
    · have hv : Hid (vis bits (k + 1) = vis bits k) := by
        show (if bits (vis bits k) k then _ else _) = _
        rw [hb]; rfl
      rw [hb] at r5
      clear r4
      gi_wp2
      refine wpIn_region_quiet_lit rfl (by kernel_rfl) (by kernel_rfl) ?_
      repeat (gi_big_quiet_step (fail))
      refine BigFrame.wpQuietIn_skip (fun _ _ _ _ => trivial) rfl ?_
      simp only [go_sem, Act.put, List.setIfInBounds_toArray, List.set_cons_succ, List.set_cons_zero]
      repeat (gi_big_quiet_step (fail))
      refine wpQuietIn_nil ?_
      intro _ hw'
      obtain ⟨nq, hw''⟩ := hw'
      subst hw''
      gi_wp2
      go_roundw
      case rel => exact ⟨k + 1, by omega, by go_num, by rw [hv.out]; exact hJ _ _ _ none hJk ⟨rfl, rfl, rfl, Nat.le_refl _, fun _ _ _ => rfl⟩ (fun r e => by cases e)⟩
      case measure => simp [intOf]; omega
    · have hv : Hid (vis bits (k + 1) = vis bits k ++ [k]) := by
        show (if bits (vis bits k) k then _ else _) = _
        rw [hb]; rfl
      rw [hb] at r5
      clear r4
      obtain ⟨fn, tmps, assign, body, hy, hR⟩ := hY k wr.drew hlt hb (hJ _ _ _ none hJk ⟨rfl, rfl, rfl, Nat.le_refl _, fun _ _ _ => rfl⟩ (fun r e => by cases e))
      have hR' := hR.mono (R' := fun e W' => ∃ b : Bool, e = .returned (.bool b) ∧ ((b = true ∧ J (vis bits k ++ [k]) W') ∨ (b = false ∧ Jx (vis bits k ++ [k]) W'))) (fun e W' h => by
        rcases h with ⟨h1, h2⟩ | ⟨h1, h2⟩
        · exact ⟨true, h1, .inl ⟨rfl, h2⟩⟩
        · exact ⟨false, h1, .inr ⟨rfl, h2⟩⟩)
      clear hR
      gi_wp2
      gi_region_with (refine hR'.mono ?_; rintro e W3 ⟨b, rfl, hor⟩)
      all_goals
        rcases hor with ⟨rfl, hJ3⟩ | ⟨rfl, hJx3⟩
        · gi_wp2
          go_roundw
          case rel => exact ⟨k + 1, by omega, by go_num, by rw [hv.out]; exact hJ3⟩
          case measure => simp [intOf]; omega
        · gi_wp2
          refine bodyPost_ret (results_none rfl _ _ _) rfl ?_
          exact ⟨⟨_, rfl⟩, .inr ⟨k, hlt, hb, hJx3⟩⟩

end Go.Proofs.Ythcgibpiogmmdai

/-
  The program's count of a place's neighbours, which leaves off at a limit.
-/
set_option linter.unusedVariables false
set_option linter.unusedSimpArgs false
namespace Go.Proofs.Ythcgibpiogmmdai
open Go.RowKit Go.Shelf
attribute [local go_sem] Oper.semAt_some

theorem Reads.grown {bM bP bm p place : Nat} {W W' : World} {f : Nat → Bool} {row : Option Nat} (h : Reads bM bP bm p place W f) (hg : W.grownBy W' row) (hr : ∀ r, row = some r → ∃ o : Obj, W.heap[r]? = some o ∧ o.isCells = false) : Reads bM bP bm p place W' f :=
  ⟨cell_kept h.rdM hg hr, cell_kept h.rdP hg hr, cell_kept h.rdN hg hr, fun j hj => cell_kept (h.rdR j hj) hg hr⟩
theorem Reads.of_mesh {bM bP bm p place : Nat} {W : World} {B : Nat → Nat → Bool} {gone : Nat → Bool} (hp : place < 24) (h1 : W.cell? ⟨bM, 0, none⟩ = some (.pointer (some ⟨bm, 0, none⟩))) (h2 : W.cell? ⟨bP, 0, none⟩ = some (.int .i64 (place : Int))) (h : MeshAt W bm (p : Int) B gone) : Reads bM bP bm p place W (B place) :=
  ⟨h1, h2, h.places, fun j hj => h.at hp hj⟩
/-- Over a row that no round turns: all that are there, in their order; or a part, where a round has said 'no more'. -/
theorem iter_stops (n : Nat) (hn : 1 ≤ n) (bM bP bm p place : Nat) (f : Nat → Bool) (hp : p ≤ 24) (hpl : place < 24) (w : World) (hR : Reads bM bP bm p place w f) :
    SeqStopsK Fence.wide n Try.prog 96 #[.pointer (some ⟨bM, 0, none⟩), .pointer (some ⟨bP, 0, none⟩)] (fun x : Nat => #[Value.int .i64 (x : Int)]) (fun W W' => Reads bM bP bm p place W f → Reads bM bP bm p place W' f) (fun xs => xs = visF f p) (fun pre => ∃ k, k < p ∧ f k = true ∧ pre = visF f k ++ [k]) 25 w := fun l J Jx W hW hJ hJx hY h0 => by
  have hRW : Reads bM bP bm p place W f := hR.grown (row := none) ⟨hW.os, hW.tape, hW.output, hW.size, fun k hk _ => hW.block k hk⟩ (fun r e => by cases e)
  refine (iter_core n hn l bM bP bm p place hp hpl (fun pre W => J pre W ∧ Reads bM bP bm p place W f) Jx (fun _ => f) W ?_ (fun _ _ h => h.2) ?_ ⟨h0, hRW⟩).mono ?_
  · rintro s A B row ⟨h1, h2⟩ hg hr
    exact ⟨hJ s A B row h1 hg hr, h2.grown hg (fun r e => by obtain ⟨_, o, ho, hw⟩ := hr r e; exact ⟨o, ho, Obj.not_cells_of_walk hw⟩)⟩
  · rintro k W1 hk hb ⟨h1, h2⟩
    obtain ⟨fn, tmps, assign, body, hy, hR1⟩ := hY (visF f k) k W1 h1 (by rw [visF_len]; have := cntB_le f k; omega)
    refine ⟨fn, tmps, assign, body, hy, hR1.mono ?_⟩
    rintro e W' (⟨h3, h4, h5⟩ | ⟨h3, h4⟩)
    · exact .inl ⟨h3, h4, h5 h2⟩
    · exact .inr ⟨h3, h4⟩
  · rintro e W' ⟨hv, (⟨h1, _⟩ | ⟨k, hk, hb, h1⟩)⟩
    · exact ⟨hv, .inl ⟨_, rfl, h1⟩⟩
    · exact ⟨hv, .inr ⟨_, ⟨k, hk, hb, rfl⟩, h1⟩⟩

end Go.Proofs.Ythcgibpiogmmdai
