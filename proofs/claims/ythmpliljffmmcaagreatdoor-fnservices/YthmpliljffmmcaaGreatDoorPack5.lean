/-
  Helpers: OrdEach, OkA, OkI, OkImpl, Box22, HierS, Keys, Has, Turns, SvcT, Svc, Mark.
-/
import Derived.Test.YthmpliljffmmcaaGreatDoorPack1
import Derived.Test.YthmpliljffmmcaaGreatDoorPack2
import Derived.Test.YthmpliljffmmcaaGreatDoorPack4
import Derived.Deep.QuietTactic
import Derived.BigQuiet
import Derived.Deep.DrawnRows
import Derived.Maps.Own
import Derived.Maps.OwnOps
import Derived.Maps.OwnSet
import Derived.Maps.Views
import Derived.DeepKeys4
import Derived.Laws.CopyOwn
import Derived.Maps.AppendAt
import Derived.Maps.Range
import Derived.Test.YthmpliljffmmcaaGreatDoorPack3
import Derived.Deep.AppendLies
set_option linter.unusedVariables false
set_option linter.unusedSimpArgs false
namespace Go.Proofs.YthmpliljffmmcaaGreatDoor
section
theorem sn_congr {P P' : Nat → Int} : ∀ k, (∀ j, j < k → P j = P' j) → ∀ q, sn P k q = sn P' k q
  | 0, _, q => rfl
  | k + 1, h, q => by rw [sn_succ, sn_succ, h k (by omega), sn_congr k (fun j hj => h j (by omega)) q]
theorem eachB_congr {m : Nat} {P P' : Nat → Int} : ∀ k, (∀ j, j < k → P j = P' j) → eachB m P k = eachB m P' k
  | 0, _ => rfl
  | k + 1, h => by
    unfold eachB
    rw [eachB_congr k (fun j hj => h j (by omega)), h k (by omega), sn_congr k (fun j hj => h j (by omega))]
theorem run3_each {p : Nat} {B : Nat → Nat → Bool} (hB : Fair B) : ∀ k, k ≤ p → eachB p (run3 p B k).2.2 k = true ∧ ∀ q, sn (run3 p B k).2.2 k q = (run3 p B k).2.1 q
  | 0, _ => ⟨rfl, fun q => rfl⟩
  | k + 1, hk => by
    obtain ⟨h1, h2⟩ := run3_each (p := p) hB k (Nat.le_of_succ_le hk)
    have hp := pick_some (p := p) (run3_fair (p := p) hB k) p nl ((run3_gone (p := p) hB k (Nat.le_of_succ_le hk)).2 (by omega))
    have e3 : (run3 p B (k + 1)).2.2 = fun j => if j = k then ((pick p (run3 p B k).1 (run3 p B k).2.1 p).1 : Int) else (run3 p B k).2.2 j := rfl
    have e2 : (run3 p B (k + 1)).2.1 = goneU (run3 p B k).2.1 (pick p (run3 p B k).1 (run3 p B k).2.1 p).1 := rfl
    generalize (pick p (run3 p B k).1 (run3 p B k).2.1 p).1 = a at hp e3 e2
    have hat : (run3 p B (k + 1)).2.2 k = (a : Int) := by rw [e3]; simp
    have hold : ∀ j, j < k → (run3 p B (k + 1)).2.2 j = (run3 p B k).2.2 j := fun j hj => by rw [e3]; simp only []; rw [if_neg (by omega)]
    have hi : inB ((run3 p B (k + 1)).2.2 k) 0 ((p : Int) - 1) = true := by rw [hat]; simp [inB]; omega
    have hsn : ∀ q, sn (run3 p B (k + 1)).2.2 k q = (run3 p B k).2.1 q := fun q => by rw [sn_congr k hold q, h2]
    refine ⟨?_, fun q => ?_⟩
    · rw [eachB_at (by rw [eachB_congr k hold]; exact h1) hat hi, hsn, hp.2.1]; rfl
    · rw [sn_at hat q, hsn, e2]; rfl
theorem order_each {p : Nat} {n : Nat} {F T G : Nat → Int} (h : graphB (p : Int) n F T G = true) : eachB p (listO (p : Int) n F T) p = true := by
  obtain ⟨_, _, hF, hT, hFT⟩ := ok_arcs h
  have hfair : Fair (nbA F T n) := fair_nbA n (fun k hk => by have := hF k hk; have := hT k hk; have := hFT k hk; omega)
  have := (run3_each (p := p) hfair p nl).1
  simpa [listO] using this
end
section
open Go.RowKit
theorem weightOk_any (x : Int) (w : World) :
    Calls Tryz.prog 93 #[.int .i64 x] w fun e w' => e = .returned (.bool (inB x 1 1000000)) ∧ w' = w := by
  by_cases h1 : 1 ≤ x <;> by_cases h2 : x ≤ 1000000 <;>
  · go_enter Tryz.func93, Tryz.ntmps93
    go_wp2
    go_ret
    exact ⟨by simp [inB, h1, h2], rfl⟩
set_option maxHeartbeats 800000 in
theorem arcOk_any (f t g p : Int) (w : World) :
    Calls Tryz.prog 70 #[.agg #[.int .i64 f, .int .i64 t, .int .i64 g], .int .i64 p] w fun e w' => e = .returned (.bool (arcB f t g p)) ∧ Below w.heap.size w w' := by
  unfold arcB
  rcases Bool.eq_false_or_eq_true (inB f 0 (p - 1)) with h1 | h1
  · rcases Bool.eq_false_or_eq_true (inB t 0 (p - 1)) with h2 | h2
    · rcases Bool.eq_false_or_eq_true (f != t) with h3 | h3 <;>
      · go_enter Tryz.func70, Tryz.ntmps70
        go_wp2_with (first | (go_at_call 38; refine (placeOk_any _ _ _).mono ?_; rintro e w1 ⟨rfl, rfl⟩) | (go_at_call 93; refine (weightOk_any _ _).mono ?_; rintro e w1 ⟨rfl, rfl⟩))
        go_ret
        exact ⟨by simp [h1, h2, h3], (Below.refl _ _).alloc nl _⟩
    · go_enter Tryz.func70, Tryz.ntmps70
      go_wp2_with (first | (go_at_call 38; refine (placeOk_any _ _ _).mono ?_; rintro e w1 ⟨rfl, rfl⟩) | (go_at_call 93; refine (weightOk_any _ _).mono ?_; rintro e w1 ⟨rfl, rfl⟩))
      go_ret
      exact ⟨by simp [h1, h2], (Below.refl _ _).alloc nl _⟩
  · go_enter Tryz.func70, Tryz.ntmps70
    go_wp2_with (first | (go_at_call 38; refine (placeOk_any _ _ _).mono ?_; rintro e w1 ⟨rfl, rfl⟩) | (go_at_call 93; refine (weightOk_any _ _).mono ?_; rintro e w1 ⟨rfl, rfl⟩))
    go_ret
    exact ⟨by simp [h1], (Below.refl _ _).alloc nl _⟩
theorem endsOf_any (f t g : Int) (w : World) :
    Calls Tryz.prog 71 #[.agg #[.int .i64 f, .int .i64 t, .int .i64 g]] w fun e w' => e = .returned (.agg #[.int .i64 f, .int .i64 t]) ∧ Below w.heap.size w w' := by
  go_enter Tryz.func71, Tryz.ntmps71
  go_wp2
  simp [bodyPost, results, Tryz.results71, go_sem]
  exact ((Below.refl _ _).alloc nl _).alloc (by simp) _
set_option maxHeartbeats 800000 in
theorem below_any (f t f' t' : Int) (w : World) :
    Calls Tryz.prog 72 #[.agg #[.int .i64 f, .int .i64 t], .agg #[.int .i64 f', .int .i64 t']] w fun e w' => e = .returned (.bool (upB f t f' t')) ∧ Below w.heap.size w w' := by
  unfold upB
  by_cases h1 : f < f'
  · go_enter Tryz.func72, Tryz.ntmps72
    go_wp2
    go_ret
    exact ⟨by simp [h1], ((Below.refl _ _).alloc nl _).alloc (by simp) _⟩
  · rcases Bool.eq_false_or_eq_true (f == f') with h2 | h2
    · by_cases h3 : t < t' <;>
      · go_enter Tryz.func72, Tryz.ntmps72
        go_wp2
        go_ret
        exact ⟨by simp [h1, h2, h3], ((Below.refl _ _).alloc nl _).alloc (by simp) _⟩
    · go_enter Tryz.func72, Tryz.ntmps72
      go_wp2
      go_ret
      exact ⟨by simp [h1, h2], ((Below.refl _ _).alloc nl _).alloc (by simp) _⟩
end
section
open Go.RowKit
attribute [local go_sem ↓] Go.wp_at_zero Go.wp_at_succ
set_option maxHeartbeats 1600000 in
theorem implGraphOk_any (p : Int) (ao : Option Addr) (n cap : Nat) (F T G : Nat → Int) (hn : n ≤ 1048576) (w : World) (hr : Row w ao n F T G) :
    Calls Tryz.prog 41 #[.agg #[.int .i64 p, .slice ao n cap]] w fun e w' => e = .returned (.bool (graphB p n F T G)) ∧ Below w.heap.size w w' := by
  by_cases h1 : p < 1
  · go_enter Tryz.func41, Tryz.ntmps41
    go_wp2
    go_ret
    exact ⟨ret_bool (by simp [graphB, inB]; omega), (Below.refl _ _).alloc nl _⟩
  by_cases h2 : 24 < p
  · go_enter Tryz.func41, Tryz.ntmps41
    go_wp2
    go_ret
    exact ⟨ret_bool (by simp [graphB, inB]; omega), (Below.refl _ _).alloc nl _⟩
  have hin : Hid (inB p 1 24 = true) := by show inB p 1 24 = true; simp [inB]; omega
  by_cases h3 : 100 < n
  · go_enter Tryz.func41, Tryz.ntmps41
    go_wp2
    go_ret
    exact ⟨ret_bool (by simp [graphB]; omega), (Below.refl _ _).alloc nl _⟩
  have hn' : Hid (decide (n ≤ 100) = true) := by show decide (n ≤ 100) = true; simp; omega
  go_enter Tryz.func41, Tryz.ntmps41
  go_wp2
  go_loopw [22] (fun i wr => ∃ k : Nat, k ≤ n ∧ i = .int .i64 k ∧ arcsB p F T G k = true ∧ Below (w.heap.size + 1) (w.alloc (.cells #[.int .i64 p, .slice ao n cap] 26)) wr) (fun i _ => n - (intOf i).toNat)
  case atStart => exact ⟨0, Nat.zero_le _, rfl, rfl, Below.refl _ _⟩
  case round =>
    obtain ⟨k, hk, rfl, hok, hbel⟩ := hrel
    have g0 : wr.cell? ⟨w.heap.size, 0, none⟩ = some (.int .i64 p) := by rw [hbel.cell (by simp)]; simp [go_sem]
    have g1 : wr.cell? ⟨w.heap.size, 1, none⟩ = some (.slice ao n cap) := by rw [hbel.cell (by simp)]; simp [go_sem]
    have hsz : w.heap.size < wr.heap.size := by have := hbel.size; simp at this; omega
    have HOK : Hid (arcsB p F T G k = true) := hok
    clear hok
    by_cases hlt : k < n
    rotate_left
    · have hkn : k = n := by omega
      subst hkn
      go_wp2
      go_ret
      exact ⟨ret_bool (by simp [graphB, hin.out, hn'.out, HOK.out]), unbox hbel (by omega)⟩
    obtain ⟨b, o, hao, c0, c1, c2⟩ := ((hr.alloc _).below hbel (by simp)) k hlt
    subst hao
    rcases Bool.eq_false_or_eq_true (arcB (F k) (T k) (G k) p) with ha | ha
    rotate_left
    · go_wp2_with (go_at_call 70; refine (arcOk_any _ _ _ _ _).mono ?_; rintro e w1 ⟨rfl, hb1⟩)
      go_ret
      exact ⟨ret_bool (by simp [graphB, hin.out, arcsB_no ha n hlt]), unbox ((hbel.alloc (by omega) _).trans (hb1.mono (by simp; omega))) (by omega)⟩
    by_cases h0 : 0 < k
    rotate_left
    · have hd : decide (0 < (k : Int)) = false := by simp; omega
      go_wp2_with (go_at_call 70; refine (arcOk_any _ _ _ _ _).mono ?_; rintro e w1 ⟨rfl, hb1⟩)
      go_quiet (fail)
      go_wp2
      go_roundw
      case rel => exact ⟨k + 1, by omega, by go_num, arcsB_step HOK.out ha (Or.inl (by omega)), below_drewN ((hbel.alloc (by omega) _).trans (hb1.mono (by simp; omega))) _⟩
      case measure => simp [intOf]; omega
    have hbw : b < wr.heap.size := lt_of_cell c0
    obtain ⟨b', o', hao', d0, d1, d2⟩ := ((hr.alloc _).below hbel (by simp)) (k - 1) (by omega)
    simp only [Option.some.injEq, Addr.mk.injEq, and_true] at hao'
    obtain ⟨rfl, rfl⟩ := hao'
    have hk1 : (0 : Int) ≤ (k : Int) - 1 := by omega
    have hk2 : (k : Int) - 1 < (n : Int) := by omega
    have hk3 : IntKind.i64.wrap ((k : Int) - 1) = (k : Int) - 1 := by rw [IntKind.wrap_i64]; omega
    have hk4 : ((k : Int) - 1).toNat = k - 1 := by omega
    have hk5 : (1 : Int) ≤ (k : Int) := by omega
    have hk6 : (k : Int) ≤ (n : Int) := by omega
    have hk7 : 1 ≤ k := by omega
    rcases Bool.eq_false_or_eq_true (upB (F (k - 1)) (T (k - 1)) (F k) (T k)) with hu | hu
    · go_wp2_with (go_at_call 70; refine (arcOk_any _ _ _ _ _).mono ?_; rintro e w1 ⟨rfl, hb1⟩)
      have hbw1 := unbox hb1 (by simp)
      have hA := (hbel.alloc (by omega) _).trans (hb1.mono (by simp; omega))
      have s0 := keep_cell hbw1 nl g1
      have s1 := keep_cell hbw1 nl d0
      have s2 := keep_cell hbw1 nl d1
      have s3 := keep_cell hbw1 nl d2
      have s4 := keep_cell hb1 nl (b := wr.heap.size) (o := 0) (by simp [go_sem]; rfl)
      have s5 := keep_cell hb1 nl (b := wr.heap.size) (o := 1) (by simp [go_sem]; rfl)
      have s6 := keep_cell hb1 nl (b := wr.heap.size) (o := 2) (by simp [go_sem]; rfl)
      go_region_held3 (fun w' => w'.cell? ⟨w.heap.size, 1, none⟩ = some (.slice (some ⟨b, o, none⟩) n cap) ∧ w'.cell? ⟨b, o + (k - 1) * 3, none⟩ = some (.int .i64 (F (k - 1))) ∧ w'.cell? ⟨b, o + (k - 1) * 3 + 1, none⟩ = some (.int .i64 (T (k - 1))) ∧ w'.cell? ⟨b, o + (k - 1) * 3 + 2, none⟩ = some (.int .i64 (G (k - 1))) ∧ w'.cell? ⟨wr.heap.size, 0, none⟩ = some (.int .i64 (F k)) ∧ w'.cell? ⟨wr.heap.size, 1, none⟩ = some (.int .i64 (T k)) ∧ w'.cell? ⟨wr.heap.size, 2, none⟩ = some (.int .i64 (G k)))
        (first | (go_split_ands; refine ⟨?_, ?_, ?_, ?_, ?_, ?_, ?_⟩ <;> exact keep_cell ‹_› nl (by assumption)) | go_keep)
        (first | (go_at_call 71; refine (endsOf_any _ _ _ _).mono ?_; rintro e w2 ⟨rfl, hb2⟩; (first | have hA := below_next hA (by simp) hb2 | have hA := below_next hA.drew (by simp) hb2)) | (go_at_call 72; refine (below_any _ _ _ _ _).mono ?_; rintro e w3 ⟨rfl, hb3⟩; have hA := below_next hA (by simp) hb3))
      go_wp2
      go_roundw
      case rel => exact ⟨k + 1, by omega, by go_num, arcsB_step HOK.out ha (Or.inr hu), hA⟩
      case measure => simp [intOf]; omega
    · go_wp2_with (go_at_call 70; refine (arcOk_any _ _ _ _ _).mono ?_; rintro e w1 ⟨rfl, hb1⟩)
      have hbw1 := unbox hb1 (by simp)
      have hA := (hbel.alloc (by omega) _).trans (hb1.mono (by simp; omega))
      have s0 := keep_cell hbw1 nl g1
      have s1 := keep_cell hbw1 nl d0
      have s2 := keep_cell hbw1 nl d1
      have s3 := keep_cell hbw1 nl d2
      have s4 := keep_cell hb1 nl (b := wr.heap.size) (o := 0) (by simp [go_sem]; rfl)
      have s5 := keep_cell hb1 nl (b := wr.heap.size) (o := 1) (by simp [go_sem]; rfl)
      have s6 := keep_cell hb1 nl (b := wr.heap.size) (o := 2) (by simp [go_sem]; rfl)
      go_region_held3 (fun w' => w'.cell? ⟨w.heap.size, 1, none⟩ = some (.slice (some ⟨b, o, none⟩) n cap) ∧ w'.cell? ⟨b, o + (k - 1) * 3, none⟩ = some (.int .i64 (F (k - 1))) ∧ w'.cell? ⟨b, o + (k - 1) * 3 + 1, none⟩ = some (.int .i64 (T (k - 1))) ∧ w'.cell? ⟨b, o + (k - 1) * 3 + 2, none⟩ = some (.int .i64 (G (k - 1))) ∧ w'.cell? ⟨wr.heap.size, 0, none⟩ = some (.int .i64 (F k)) ∧ w'.cell? ⟨wr.heap.size, 1, none⟩ = some (.int .i64 (T k)) ∧ w'.cell? ⟨wr.heap.size, 2, none⟩ = some (.int .i64 (G k)))
        (first | (go_split_ands; refine ⟨?_, ?_, ?_, ?_, ?_, ?_, ?_⟩ <;> exact keep_cell ‹_› nl (by assumption)) | go_keep)
        (first | (go_at_call 71; refine (endsOf_any _ _ _ _).mono ?_; rintro e w2 ⟨rfl, hb2⟩; (first | have hA := below_next hA (by simp) hb2 | have hA := below_next hA.drew (by simp) hb2)) | (go_at_call 72; refine (below_any _ _ _ _ _).mono ?_; rintro e w3 ⟨rfl, hb3⟩; have hA := below_next hA (by simp) hb3))
      go_wp2
      go_ret
      exact ⟨ret_bool (by simp [graphB, hin.out, arcsB_down h0 hu n hlt]), unbox hA (by omega)⟩
end
section
open Go.RowKit Go.Maps
attribute [local go_sem ↓] Go.wp_at_zero Go.wp_at_succ
theorem box22 {w W : World} {a0 a1 c0 c1 : Value} {s t : TypeId} (h : Below (w.heap.size + 2) ((w.alloc (.cells #[a0, a1] s)).alloc (.cells #[c0, c1] t)) W) :
    (W.cell? ⟨w.heap.size, 0, none⟩ = some a0 ∧ W.cell? ⟨w.heap.size, 1, none⟩ = some a1) ∧ (W.cell? ⟨w.heap.size + 1, 0, none⟩ = some c0 ∧ W.cell? ⟨w.heap.size + 1, 1, none⟩ = some c1) ∧ (W.frozen? ⟨w.heap.size + 1, 0, none⟩ = false ∧ W.frozen? ⟨w.heap.size + 1, 1, none⟩ = false) ∧ w.heap.size + 2 ≤ W.heap.size := by
  refine ⟨⟨by rw [h.cell (by simp)]; simp [go_sem], by rw [h.cell (by simp)]; simp [go_sem]⟩, ⟨by rw [h.cell (by simp)]; simp [go_sem], by rw [h.cell (by simp)]; simp [go_sem]⟩, ⟨by rw [h.frozen (by simp)]; simp [go_sem], by rw [h.frozen (by simp)]; simp [go_sem]⟩, by have := h.size; simp at this; omega⟩
theorem unbox2 {w w' : World} {o1 o2 : Obj} {B : Nat} (h : Below B ((w.alloc o1).alloc o2) w') (hB : w.heap.size ≤ B) : Below w.heap.size w w' :=
  (((Below.refl _ _).alloc nl _).alloc (by simp) _).trans (h.mono hB)
theorem ret_block {W : World} {s b : Nat} (a c : Value) (hne : b ≠ s) : ((W.setCell ⟨s, 0, none⟩ a).setCell ⟨s, 1, none⟩ c).heap[b]? = W.heap[b]? :=
  (Below.heap_setCell _ _ _ _ (fun e => hne e)).trans (Below.heap_setCell _ _ _ _ (fun e => hne e))
theorem ret_below {B : Nat} {w W : World} {s : Nat} (h : Below B w W) (hB : B ≤ s) (a c : Value) : Below B w ((W.setCell ⟨s, 0, none⟩ a).setCell ⟨s, 1, none⟩ c) := (h.setCell hB a).setCell hB c
end
section
open Go.RowKit
attribute [local go_sem ↓] Go.wp_at_zero Go.wp_at_succ
def HAns (w w' : World) (e : Ending) (m : Nat) (D : Nat → Int) (k : Nat) (L H : Nat → Int) : Prop := ∃ ao cap eo ecap, e = .returned (.agg #[.slice ao m cap, .slice eo k ecap]) ∧ (0 < m → ∃ g, ao = some ⟨g, 0, none⟩ ∧ w.heap.size ≤ g ∧ IHas w' g m D) ∧ (0 < k → ∃ g, eo = some ⟨g, 0, none⟩ ∧ w.heap.size ≤ g ∧ EHas w' g k (er L H)) ∧ w.heap.size + 2 ≤ w'.heap.size ∧ Below w.heap.size w w'
theorem order_ok {p : Int} {n : Nat} {F T G : Nat → Int} (h : graphB p n F T G = true) : ordB p n F T G (lenO p n F T G) (listO p n F T) = true := by
  have hpp : 1 ≤ p ∧ p ≤ 24 := by simpa [inB] using graphB_p h
  obtain ⟨pn, rfl⟩ : ∃ pn : Nat, p = (pn : Int) := ⟨p.toNat, by omega⟩
  have hL : lenO pn n F T G = pn := by simp [lenO, h]
  rw [hL]
  simp [ordB, okR, h, order_each h]
  omega
set_option maxHeartbeats 1000000 in
theorem specNewHier_any (p : Int) (ao : Option Addr) (n cap : Nat) (F T G : Nat → Int) (hn : n ≤ 1048576) (w : World) (hr : Row w ao n F T G) :
    Calls Tryz.prog 46 #[.agg #[.int .i64 p, .slice ao n cap]] w fun e w' => HAns w w' e (lenO p n F T G) (listO p n F T) (lenF p n F T G (lenO p n F T G) (listO p n F T)) (Lf (lstF p n F T (listO p n F T))) (Hf (lstF p n F T (listO p n F T))) := by
  rcases Bool.eq_false_or_eq_true (graphB p n F T G) with h | h
  rotate_left
  · have h1 : lenO p n F T G = 0 := by simp [lenO, h]
    have h2 : lenF p n F T G (lenO p n F T G) (listO p n F T) = 0 := by simp [lenF, ordB, h]
    rw [h2, h1]
    go_enter Tryz.func46, Tryz.ntmps46
    go_wp2_with (go_at_call 44; refine (specGraphOk_any p ao n cap F T G hn _ ((hr.alloc _).alloc _)).mono ?_; rintro e w1 ⟨rfl, hb1⟩; obtain ⟨⟨q0, q1⟩, ⟨q2, q3⟩, ⟨q4, q5⟩, q6⟩ := box22 (hb1.mono (by simp)))
    exact bodyPost_ret (v := .agg #[.slice none 0 0, .slice none 0 0]) (by simp [results, Tryz.results46, go_sem, q2, q3, q4, q5]) rfl ⟨_, _, _, _, rfl, fun h => by omega, fun h => by omega, by simp [World.setCell]; omega, ret_below (unbox2 hb1 (by simp; omega)) (by simp) _ _⟩
  have hpp : 1 ≤ p ∧ p ≤ 24 := by simpa [inB] using graphB_p h
  obtain ⟨pn, rfl⟩ : ∃ pn : Nat, p = (pn : Int) := ⟨p.toNat, by omega⟩
  have hL : lenO pn n F T G = pn := by simp [lenO, h]
  have hok := order_ok h
  rw [hL] at hok ⊢
  have hLF : lenF pn n F T G pn (listO pn n F T) = (allS (nbA F T n) (listO pn n F T) pn pn).length := by simp [lenF, hok, lstF]
  have hS : lstF pn n F T (listO pn n F T) = allS (nbA F T n) (listO pn n F T) pn pn := by simp [lstF]
  rw [hLF, hS]
  obtain ⟨⟨hp1, hp2⟩, hn1, hF, hT, hFT⟩ := ok_arcs h
  have he := order_each h
  have hA := fun ao' cap' W hr' => l3Order_any pn ao' n cap' F T G hp1 hp2 hn1 hF hT hFT W hr'
  have hB := fun ao' cap' po' pcap' W hr' hp' => l4Fill_any pn ao' n cap' F T G po' pcap' (listO pn n F T) hp1 hp2 hn1 hF hT hFT he W hr' hp'
  have hD : (run3 pn (nbA F T n) pn).2.2 = listO pn n F T := by simp [listO]
  rw [hD] at hA
  generalize allS (nbA F T n) (listO pn n F T) pn pn = l at hB ⊢
  generalize listO pn n F T = D at hA hB ⊢
  have HO : Hid (∀ ao' cap' W, Row W ao' n F T G → Calls Tryz.prog 75 #[.agg #[.int .i64 (pn : Int), .slice ao' n cap']] W fun e w' => ∃ g c, e = .returned (.slice (some ⟨g, 0, none⟩) pn c) ∧ W.heap.size ≤ g ∧ IHas w' g pn D ∧ Below W.heap.size W w' ∧ pn ≤ c) := hA
  have HF : Hid (∀ ao' cap' po' pcap' W, Row W ao' n F T G → IRow W po' pn D → Calls Tryz.prog 62 #[.agg #[.int .i64 (pn : Int), .slice ao' n cap'], .slice po' pn pcap'] W fun e w' => ∃ g c, e = .returned (.slice (some ⟨g, 0, none⟩) l.length c) ∧ W.heap.size ≤ g ∧ EOwn w' W.heap.size g c l ∧ Below W.heap.size W w') := hB
  clear hA hB hok hLF hS hF hT hFT he hD hL
  go_enter Tryz.func46, Tryz.ntmps46
  go_wp2_with fail
  refine (specGraphOk_any pn ao n cap F T G hn _ ((hr.alloc _).alloc _)).mono ?_
  rw [h]
  rintro e w1 ⟨rfl, hb1⟩
  have hA1 := hb1.mono (B' := w.heap.size + 2) (by simp)
  obtain ⟨⟨q0, q1⟩, ⟨q2, q3⟩, ⟨q4, q5⟩, q6⟩ := box22 hA1
  clear hb1
  go_wp2_with fail
  refine (HO.out _ _ _ (((hr.alloc _).alloc _).below hA1 (by simp))).mono ?_
  rintro e w2 ⟨gD, capD, rfl, hgD, hD, hb2, _⟩
  have hA2 := below_next hA1 (by simp) hb2
  clear q0 q1 q2 q3 q4 q5 q6
  obtain ⟨⟨q0, q1⟩, ⟨q2, q3⟩, ⟨q4, q5⟩, q6⟩ := box22 hA2
  go_wp2_with fail
  refine (HF.out _ _ _ _ _ (((hr.alloc _).alloc _).below hA2 (by simp)) hD.row).mono ?_
  rintro e w3 ⟨gE, capE, rfl, hgE, hE, hb3⟩
  have hA3 := below_next hA2 (by simp) hb3
  clear q0 q1 q2 q3 q4 q5 q6
  have s1 := hA1.size
  have s2 := hA2.size
  simp only [World.size_alloc] at s1 s2
  obtain ⟨⟨q0, q1⟩, ⟨q2, q3⟩, ⟨q4, q5⟩, q6⟩ := box22 hA3
  go_wp2
  refine bodyPost_ret (v := .agg #[.slice (some ⟨gD, 0, none⟩) pn capD, .slice (some ⟨gE, 0, none⟩) l.length capE]) (by simp [results, Tryz.results46, go_sem, q2, q3, q4, q5]) rfl ⟨_, _, _, _, rfl, fun _ => ⟨gD, rfl, by omega, (hD.below hb3 hD.lt).of_block (ret_block _ _ (by omega))⟩, fun _ => ⟨gE, rfl, by omega, hE.has.of_block (ret_block _ _ (by omega))⟩, by simp [World.setCell]; omega, ret_below (unbox2 hA3 (by simp)) (by simp) _ _⟩
end
section
open Go.ChangeShapes Go.WideShapes Go.ChangeAt Go.RowKit Go.Maps
theorem key_two {P : Program} {k : TypeId} {f0 f1 : Field} (hs : P.underlying k = some (.struct #[f0, f1])) (hk : P.keyType k = true) (hC : P.cellsOf k = 2) (h0 : P.underlying f0.type = some (.int .i64)) (h1 : P.underlying f1.type = some (.int .i64))
    (o0 : f0.offset = 0) (o1 : f1.offset = 1) (c0 : P.cellsOf f0.type = 1) (c1 : P.cellsOf f1.type = 1) (n0 : (f0.name != "_") = true) (n1 : (f1.name != "_") = true) (hm : ∃ m, P.types.size = m + 1)
    {f t : Int} (hf : (Lit.int .i64 f).wf = true) (ht : (Lit.int .i64 t).wf = true) : keyOf P k (.agg #[.int .i64 f, .int .i64 t]) = some (.string (keyBytes [.int .i64 f, .int .i64 t])) := by
  obtain ⟨m, hm⟩ := hm
  simp at n0 n1
  simp [keyOf, hs, hk, Value.formed, hC, Value.cells, hm, Program.keyLits, h0, h1, o0, o1, c0, c1, n0, n1, hf, ht]
theorem ownsMap_block {H : Type} {P : Program} {k : TypeId} {R : Value → Option (DataW H × List MemPlace)} {b n : Nat} {D : DataW H} {w w' : World} (h : w.ownsMap P k R b n D) (e : w'.heap[b]? = w.heap[b]?) : w'.ownsMap P k R b n D := by
  unfold World.ownsMap at h ⊢
  rw [e]; exact h
theorem ownsMap_below {H : Type} {P : Program} {k : TypeId} {R : Value → Option (DataW H × List MemPlace)} {b n : Nat} {D : DataW H} {w w' : World} (h : w.ownsMap P k R b n D) (hb : Below w.heap.size w w') : w'.ownsMap P k R b n D :=
  ownsMap_block h (hb.block b h.lt)
end
section
open Go.RowKit Go.Maps
def Has (w : World) (b n : Nat) (f : Nat → Int) : Prop := ∃ cur : Array Value, w.heap[b]? = some (.cells cur 67 (0, 0)) ∧ n * 3 ≤ cur.size ∧ ∀ j, j < n * 3 → cur[j]? = some (.int .i64 (f j))
theorem Has.of_own {w : World} {b n : Nat} {f : Nat → Int} (h : Own w b n f) : Has w b n f := by
  obtain ⟨c, hb, hn, hc⟩ := h
  exact ⟨c, hb, by omega, hc⟩
theorem Has.cell {w : World} {b n : Nat} {f : Nat → Int} (h : Has w b n f) {j : Nat} (hj : j < n * 3) : w.cell? ⟨b, j, none⟩ = some (.int .i64 (f j)) := by
  obtain ⟨c, hb, _, hc⟩ := h
  simp [World.cell?, hb, hc j hj]
theorem Has.frozen {w : World} {b n : Nat} {f : Nat → Int} (h : Has w b n f) (j : Nat) : w.frozen? ⟨b, j, none⟩ = false := by
  obtain ⟨c, hb, _, _⟩ := h
  simp [World.frozen?, hb]
theorem Has.lt {w : World} {b n : Nat} {f : Nat → Int} (h : Has w b n f) : b < w.heap.size := by
  obtain ⟨c, hb, _, _⟩ := h
  exact (Array.getElem?_eq_some_iff.1 hb).1
theorem Has.of_block {w w' : World} {b n : Nat} {f : Nat → Int} (h : Has w b n f) (e : w'.heap[b]? = w.heap[b]?) : Has w' b n f := by
  obtain ⟨c, hb, hn, hc⟩ := h
  exact ⟨c, e.trans hb, hn, hc⟩
theorem Has.congr {w : World} {b n : Nat} {f g : Nat → Int} (h : Has w b n f) (e : ∀ j, j < n * 3 → f j = g j) : Has w b n g := by
  obtain ⟨c, hb, hn, hc⟩ := h
  exact ⟨c, hb, hn, fun j hj => by rw [hc j hj, e j hj]⟩
theorem Has.set {w : World} {b n : Nat} {f : Nat → Int} (h : Has w b n f) (i : Nat) (v : Int) : Has (w.setCell ⟨b, i, none⟩ (.int .i64 v)) b n (fun j => if j = i then v else f j) := by
  obtain ⟨c, hb, hn, hc⟩ := h
  refine ⟨c.setIfInBounds i (.int .i64 v), ?_, by simpa using hn, fun j hj => ?_⟩
  · simp [World.setCell, Array.getElem?_modify, hb]
  · rw [Array.getElem?_setIfInBounds]
    by_cases e : j = i
    · subst e
      simp; omega
    · rw [if_neg (fun h => e h.symm)]
      show c[j]? = some (.int .i64 (if j = i then v else f j))
      rw [if_neg e]
      exact hc j hj
theorem Has.row {w : World} {b n : Nat} {F T G : Nat → Int} (h : Has w b n (ar F T G)) : Row w (some ⟨b, 0, none⟩) n F T G := fun k hk => by
  refine ⟨b, 0, rfl, ?_, ?_, ?_⟩
  · have := h.cell (j := k * 3) (by omega); rw [ar0] at this; simpa using this
  · have := h.cell (j := k * 3 + 1) (by omega); rw [ar1] at this; simpa using this
  · have := h.cell (j := k * 3 + 2) (by omega); rw [ar2] at this; simpa using this
theorem Has.below {w w' : World} {b n B : Nat} {f : Nat → Int} (h : Has w b n f) (hb : Below B w w') (hB : b < B) : Has w' b n f := h.of_block (hb.block b hB)
theorem Has.grown {w w' : World} {b n : Nat} {f : Nat → Int} {row : Option Nat} (h : Has w b n f) (hg : w.grownBy w' row) (hne : some b ≠ row) : Has w' b n f := h.of_block (hg.block b h.lt hne)
theorem grown_below {w w' : World} {b B : Nat} (h : w.grownBy w' (some b)) (hb : B ≤ b) (hB : B ≤ w.heap.size) : Below B w w' :=
  ⟨h.os, h.tape, h.output, h.size, fun k hk => h.block k (by omega) (fun e => by simp at e; omega)⟩
theorem below_grown {w w' : World} {row : Option Nat} (h : Below w.heap.size w w') : w.grownBy w' row := ⟨h.os, h.tape, h.output, h.size, fun k hk _ => h.block k hk⟩
theorem Row.grown {w w' : World} {ao : Option Addr} {n b B : Nat} {F T G : Nat → Int} (h : Row w ao n F T G) (hg : w.grownBy w' (some b)) (hB : ∀ a, ao = some a → 0 < n → a.block < b) : Row w' ao n F T G := fun k hk => by
  obtain ⟨b', o, e, c0, c1, c2⟩ := h k hk
  have hlt := hB _ e (by omega)
  have hne : some b' ≠ some b := fun e => by simp at e; simp at hlt; omega
  exact ⟨b', o, e, hg.cell c0 hne, hg.cell c1 hne, hg.cell c2 hne⟩
def OwnS (w : World) (B : Nat) (ao : Option Addr) (n : Nat) (f : Nat → Int) : Prop := ∀ k, k < n → ∃ b, ao = some ⟨b, 0, none⟩ ∧ B ≤ b ∧ Has w b n f
theorem OwnS.row {w : World} {B n : Nat} {ao : Option Addr} {F T G : Nat → Int} (h : OwnS w B ao n (ar F T G)) : Row w ao n F T G := fun k hk => by
  obtain ⟨b, e, _, hh⟩ := h k hk
  subst e
  exact hh.row k hk
end
section
open Go.RowKit
structure Turns (w w' : World) (S : List Nat) : Prop where
  os : w'.os = w.os
  tape : w'.tape = w.tape
  output : w'.output = w.output
  size : w.heap.size ≤ w'.heap.size
  block : ∀ k, k < w.heap.size → k ∉ S → w'.heap[k]? = w.heap[k]?
theorem Turns.refl (w : World) (S : List Nat) : Turns w w S := ⟨rfl, rfl, rfl, Nat.le_refl _, fun _ _ _ => rfl⟩
theorem Turns.of_below {w w' : World} {B : Nat} (h : Below B w w') (hB : w.heap.size ≤ B) (S : List Nat) : Turns w w' S := ⟨h.os, h.tape, h.output, h.size, fun k hk _ => h.block k (by omega)⟩
theorem Turns.of_grown {w w' : World} {b : Nat} (h : w.grownBy w' (some b)) : Turns w w' [b] := ⟨h.os, h.tape, h.output, h.size, fun k hk hn => h.block k hk (fun e => hn (by simp at e; simp [e]))⟩
theorem Turns.trans {w w1 w2 : World} {S : List Nat} (h : Turns w w1 S) (k : Turns w1 w2 S) : Turns w w2 S :=
  ⟨k.os.trans h.os, k.tape.trans h.tape, k.output.trans h.output, Nat.le_trans h.size k.size, fun j hj hn => (k.block j (Nat.lt_of_lt_of_le hj h.size) hn).trans (h.block j hj hn)⟩
theorem Turns.more {w w' : World} {S S' : List Nat} (h : Turns w w' S) (hs : ∀ x ∈ S, x ∈ S') : Turns w w' S' := ⟨h.os, h.tape, h.output, h.size, fun k hk hn => h.block k hk (fun hx => hn (hs k hx))⟩
theorem Turns.next {w w1 w2 : World} {S : List Nat} (h : Turns w w1 S) (hb : Below w1.heap.size w1 w2) : Turns w w2 S := h.trans (Turns.of_below hb nl S)
theorem Turns.below {w w' : World} {S : List Nat} {B : Nat} (h : Turns w w' S) (hB : B ≤ w.heap.size) (hs : ∀ x ∈ S, B ≤ x) : Below B w w' :=
  ⟨h.os, h.tape, h.output, h.size, fun k hk => h.block k (by omega) (fun hx => by have := hs k hx; omega)⟩
theorem Turns.cell {w w' : World} {S : List Nat} {b o : Nat} {v : Value} (h : Turns w w' S) (hb : b ∉ S) (hc : w.cell? ⟨b, o, none⟩ = some v) : w'.cell? ⟨b, o, none⟩ = some v := by
  rw [World.cell?_of_block (h.block b (lt_of_cell hc) hb)]
  exact hc
theorem Turns.ihas {w w' : World} {S : List Nat} {b n : Nat} {f : Nat → Int} (h : Turns w w' S) (hb : b ∉ S) (hi : IHas w b n f) : IHas w' b n f := hi.of_block (h.block b hi.lt hb)
theorem Turns.ehas {w w' : World} {S : List Nat} {b n : Nat} {f : Nat → Int} (h : Turns w w' S) (hb : b ∉ S) (hi : EHas w b n f) : EHas w' b n f := hi.of_block (h.block b hi.lt hb)
theorem ihas_ehas {W : World} {b n m : Nat} {f g : Nat → Int} (h : IHas W b n f) (k : EHas W b m g) : False := by
  obtain ⟨c, h1, _⟩ := h
  obtain ⟨d, h2, _⟩ := k
  rw [h1] at h2
  simp at h2
theorem irow_at {W : World} {ao : Option Addr} {m b : Nat} {D : Nat → Int} (ha : 0 < m → ao = some ⟨b, 0, none⟩) (h : 0 < m → IHas W b m D) : IRow W ao m D := fun k hk => by
  rw [ha (by omega)]
  exact (h (by omega)).row k hk
theorem erow_at {W : World} {ao : Option Addr} {m b : Nat} {L H : Nat → Int} (ha : 0 < m → ao = some ⟨b, 0, none⟩) (h : 0 < m → EHas W b m (er L H)) : ERow W ao m L H := fun k hk => by
  rw [ha (by omega)]
  exact (h (by omega)).row k hk
end
section
open Go.RowKit Go.Maps
theorem Turns.has {w w' : World} {S : List Nat} {b n : Nat} {f : Nat → Int} (h : Turns w w' S) (hb : b ∉ S) (hi : Has w b n f) : Has w' b n f := hi.of_block (h.block b hi.lt hb)
structure SvL (W : World) (ao po eo : Option Addr) (n M N d b c : Nat) (f g h : Nat → Int) : Prop where
  ea : 0 < n → ao = some ⟨d, 0, none⟩
  ha : 0 < n → Has W d n f
  ei : 0 < M → po = some ⟨b, 0, none⟩
  hi : 0 < M → IHas W b M g
  ee : 0 < N → eo = some ⟨c, 0, none⟩
  he : 0 < N → EHas W c N h
section
variable {W W' : World} {ao po eo : Option Addr} {n M N d b c : Nat} {f g h : Nat → Int}
theorem SvL.next (s : SvL W ao po eo n M N d b c f g h) (hb : Below W.heap.size W W') : SvL W' ao po eo n M N d b c f g h :=
  ⟨s.ea, fun x => (s.ha x).below hb (s.ha x).lt, s.ei, fun x => (s.hi x).below hb (s.hi x).lt, s.ee, fun x => (s.he x).below hb (s.he x).lt⟩
theorem SvL.turn (s : SvL W ao po eo n M N d b c f g h) {S : List Nat} (hT : Turns W W' S) (hd : d ∉ S) (hb : b ∉ S) (hc : c ∉ S) : SvL W' ao po eo n M N d b c f g h :=
  ⟨s.ea, fun x => hT.has hd (s.ha x), s.ei, fun x => hT.ihas hb (s.hi x), s.ee, fun x => hT.ehas hc (s.he x)⟩
theorem SvL.ra {F T G : Nat → Int} (s : SvL W ao po eo n M N d b c (ar F T G) g h) : Row W ao n F T G := fun k hk => by
  rw [s.ea (by omega)]
  exact (s.ha (by omega)).row k hk
theorem SvL.ri (s : SvL W ao po eo n M N d b c f g h) : IRow W po M g := irow_at s.ei s.hi
theorem SvL.re {L H : Nat → Int} (s : SvL W ao po eo n M N d b c f g (er L H)) : ERow W eo N L H := erow_at s.ee s.he
end
theorem has_ehas {W : World} {b n m : Nat} {f g : Nat → Int} (h : Has W b n f) (k : EHas W b m g) : False := by
  obtain ⟨c, h1, _⟩ := h
  obtain ⟨d, h2, _⟩ := k
  rw [h1] at h2
  simp at h2
theorem has_ihas' {W : World} {b n m : Nat} {f g : Nat → Int} (h : Has W b n f) (k : IHas W b m g) : False := by
  obtain ⟨c, h1, _⟩ := h
  obtain ⟨d, h2, _⟩ := k
  rw [h1] at h2
  simp at h2
theorem pick_three {B E : Nat} {P Q R : Nat → Prop} (hE : B + 3 ≤ E) (p : Option Nat) (q : Option Nat) (r : Option Nat) (hp : ∀ x, p = some x → B ≤ x ∧ x < E) (hq : ∀ x, q = some x → B ≤ x ∧ x < E) (hr : ∀ x, r = some x → B ≤ x ∧ x < E)
    (h1 : ∀ x y, p = some x → q = some y → x ≠ y) (h2 : ∀ x y, p = some x → r = some y → x ≠ y) (h3 : ∀ x y, q = some x → r = some y → x ≠ y) :
    ∃ d b c, (∀ x, p = some x → x = d) ∧ (∀ x, q = some x → x = b) ∧ (∀ x, r = some x → x = c) ∧ (B ≤ d ∧ d < E) ∧ (B ≤ b ∧ b < E) ∧ (B ≤ c ∧ c < E) ∧ d ≠ b ∧ d ≠ c ∧ b ≠ c := by
  have free : ∀ u v : Nat, ∃ z, (B ≤ z ∧ z < E) ∧ z ≠ u ∧ z ≠ v := fun u v => by
    by_cases a : B ≠ u ∧ B ≠ v
    · exact ⟨B, ⟨Nat.le_refl _, by omega⟩, a.1, a.2⟩
    · by_cases a' : B + 1 ≠ u ∧ B + 1 ≠ v
      · exact ⟨B + 1, ⟨by omega, by omega⟩, a'.1, a'.2⟩
      · exact ⟨B + 2, ⟨by omega, by omega⟩, by omega, by omega⟩
  have H : ∃ d, (∀ x, p = some x → x = d) ∧ (B ≤ d ∧ d < E) ∧ (∀ y, q = some y → d ≠ y) ∧ (∀ y, r = some y → d ≠ y) := by
    cases p with
    | some x => exact ⟨x, fun y e => (by cases e; rfl), hp x rfl, fun y e => h1 x y rfl e, fun y e => h2 x y rfl e⟩
    | none =>
      obtain ⟨z, hz, a, b⟩ := free (q.getD E) (r.getD E)
      exact ⟨z, fun y e => (by cases e), hz, fun y e => (by subst e; exact a), fun y e => (by subst e; exact b)⟩
  obtain ⟨d, d1, d2, d3, d4⟩ := H
  have H : ∃ b, (∀ x, q = some x → x = b) ∧ (B ≤ b ∧ b < E) ∧ d ≠ b ∧ (∀ y, r = some y → b ≠ y) := by
    cases q with
    | some x => exact ⟨x, fun y e => (by cases e; rfl), hq x rfl, d3 x rfl, fun y e => h3 x y rfl e⟩
    | none =>
      obtain ⟨z, hz, a, b⟩ := free d (r.getD E)
      exact ⟨z, fun y e => (by cases e), hz, fun e => a e.symm, fun y e => (by subst e; exact b)⟩
  obtain ⟨b, b1, b2, b3, b4⟩ := H
  cases r with
  | some x => exact ⟨d, b, x, d1, b1, fun y e => (by cases e; rfl), d2, b2, hr x rfl, b3, d4 x rfl, b4 x rfl⟩
  | none =>
    obtain ⟨z, hz, u, v⟩ := free d b
    exact ⟨d, b, z, d1, b1, fun y e => (by cases e), d2, b2, hz, b3, fun e => u e.symm, fun e => v e.symm⟩
def SvAns (w w' : World) (e : Ending) (p : Int) (n : Nat) (F T G : Nat → Int) (M : Nat) (D : Nat → Int) (N : Nat) (L H : Nat → Int) (ok : Bool) : Prop :=
  ∃ ao cap po pc eo ec d b c, e = .returned (.tuple #[.agg #[.int .i64 p, .slice ao n cap, .slice po M pc, .slice eo N ec, .int .i64 0, .slice none 0 0], .bool ok]) ∧ SvL w' ao po eo n M N d b c (ar F T G) D (er L H) ∧ ((w.heap.size ≤ d ∧ d < w'.heap.size) ∧ (w.heap.size ≤ b ∧ b < w'.heap.size) ∧ (w.heap.size ≤ c ∧ c < w'.heap.size) ∧ (0 < n → d ≠ b ∧ d ≠ c) ∧ b ≠ c) ∧ Below w.heap.size w w'
theorem svAns_of {w w' : World} {p : Int} {n : Nat} {F T G : Nat → Int} {M : Nat} {D : Nat → Int} {N : Nat} {L H : Nat → Int} {ok : Bool} {ao po eo : Option Addr} {cap pc ec : Nat}
    (ha : 0 < n → ∃ g, ao = some ⟨g, 0, none⟩ ∧ w.heap.size ≤ g ∧ Has w' g n (ar F T G)) (hi : 0 < M → ∃ g, po = some ⟨g, 0, none⟩ ∧ w.heap.size ≤ g ∧ IHas w' g M D) (he : 0 < N → ∃ g, eo = some ⟨g, 0, none⟩ ∧ w.heap.size ≤ g ∧ EHas w' g N (er L H)) (hs : w.heap.size + 3 ≤ w'.heap.size) (hb : Below w.heap.size w w') :
    SvAns w w' (.returned (.tuple #[.agg #[.int .i64 p, .slice ao n cap, .slice po M pc, .slice eo N ec, .int .i64 0, .slice none 0 0], .bool ok])) p n F T G M D N L H ok := by
  have blk : ∀ {k : Nat} {o : Option Addr} {Q : Nat → Prop}, (0 < k → ∃ g, o = some ⟨g, 0, none⟩ ∧ w.heap.size ≤ g ∧ Q g) → ∃ x : Option Nat, (0 < k → ∃ g, x = some g) ∧ ∀ g, x = some g → 0 < k ∧ o = some ⟨g, 0, none⟩ ∧ w.heap.size ≤ g ∧ Q g := fun {k o Q} h => by
    by_cases hk : 0 < k
    · obtain ⟨g, e, h1, h2⟩ := h hk
      exact ⟨some g, fun _ => ⟨g, rfl⟩, fun y e' => by cases e'; exact ⟨hk, e, h1, h2⟩⟩
    · exact ⟨none, fun h => absurd h hk, fun y e => by cases e⟩
  obtain ⟨p1, p2, p3⟩ := blk ha
  obtain ⟨q1, q2, q3⟩ := blk hi
  obtain ⟨r1, r2, r3⟩ := blk he
  obtain ⟨d, b, c, e1, e2, e3, l1, l2, l3, n1, n2, n3⟩ := pick_three (P := fun _ => True) (Q := fun _ => True) (R := fun _ => True) hs p1 q1 r1 (fun x e => ⟨(p3 x e).2.2.1, (p3 x e).2.2.2.lt⟩) (fun x e => ⟨(q3 x e).2.2.1, (q3 x e).2.2.2.lt⟩) (fun x e => ⟨(r3 x e).2.2.1, (r3 x e).2.2.2.lt⟩)
    (fun x y e e' q => by subst q; exact has_ihas' (p3 x e).2.2.2 (q3 x e').2.2.2) (fun x y e e' q => by subst q; exact has_ehas (p3 x e).2.2.2 (r3 x e').2.2.2) (fun x y e e' q => by subst q; exact ihas_ehas (q3 x e).2.2.2 (r3 x e').2.2.2)
  refine ⟨ao, cap, po, pc, eo, ec, d, b, c, rfl, ⟨fun hk => ?_, fun hk => ?_, fun hk => ?_, fun hk => ?_, fun hk => ?_, fun hk => ?_⟩, ⟨l1, l2, l3, fun _ => ⟨n1, n2⟩, n3⟩, hb⟩
  · obtain ⟨g, e⟩ := p2 hk; rw [← e1 g e]; exact (p3 g e).2.1
  · obtain ⟨g, e⟩ := p2 hk; rw [← e1 g e]; exact (p3 g e).2.2.2
  · obtain ⟨g, e⟩ := q2 hk; rw [← e2 g e]; exact (q3 g e).2.1
  · obtain ⟨g, e⟩ := q2 hk; rw [← e2 g e]; exact (q3 g e).2.2.2
  · obtain ⟨g, e⟩ := r2 hk; rw [← e3 g e]; exact (r3 g e).2.1
  · obtain ⟨g, e⟩ := r2 hk; rw [← e3 g e]; exact (r3 g e).2.2.2
theorem svAns_zero {w w' : World} {F T G D L H : Nat → Int} (hs : w.heap.size + 2 ≤ w'.heap.size) (hb : Below w.heap.size w w') :
    SvAns w w' (.returned (.tuple #[.agg #[.int .i64 0, .slice none 0 0, .slice none 0 0, .slice none 0 0, .int .i64 0, .slice none 0 0], .bool false])) 0 0 F T G 0 D 0 L H false :=
  ⟨none, 0, none, 0, none, 0, w.heap.size, w.heap.size, w.heap.size + 1, rfl, ⟨fun h => by omega, fun h => by omega, fun h => by omega, fun h => by omega, fun h => by omega, fun h => by omega⟩, ⟨⟨Nat.le_refl _, by omega⟩, ⟨Nat.le_refl _, by omega⟩, ⟨by omega, by omega⟩, fun h => by omega, by omega⟩, hb⟩
def sv6 (p : Int) (a o e : Value) (v : Int) (t : Value) (j : Nat) : Value := if j = 0 then .int .i64 p else if j = 1 then a else if j = 2 then o else if j = 3 then e else if j = 4 then .int .i64 v else t
theorem sv6_new (w : World) (p : Int) (a o e : Value) (v : Int) (t : Value) (ty : TypeId) : VHas (w.alloc (.cells #[.int .i64 p, a, o, e, .int .i64 v, t] ty)) w.heap.size ty 6 (sv6 p a o e v t) :=
  ⟨_, Go.Deep.blk_alloc_new _ _, by simp, fun j hj => by
    have : j = 0 ∨ j = 1 ∨ j = 2 ∨ j = 3 ∨ j = 4 ∨ j = 5 := by omega
    rcases this with rfl | rfl | rfl | rfl | rfl | rfl <;> rfl⟩
end
section
open Go.RowKit Go.Maps
attribute [local go_sem ↓] Go.wp_at_zero Go.wp_at_succ
def cellsOf (f : Nat → Int) (m : Nat) : List Value := (List.range m).map fun j => .int .i64 (f j)
theorem Row.news {w : World} {b o n : Nat} {F T G : Nat → Int} (hr : Row w (some ⟨b, o, none⟩) n F T G) : ∀ j u, (cellsOf (ar F T G) (n * 3))[j]? = some u → w.cell? ((⟨b, o, none⟩ : Addr).add j) = some u := fun j u hu => by
  have hj : j < n * 3 := by
    have := (List.getElem?_eq_some_iff.1 hu).1
    simpa [cellsOf] using this
  have hu' : u = .int .i64 (ar F T G j) := by
    rw [cellsOf, List.getElem?_map, List.getElem?_range hj] at hu
    simpa using hu.symm
  subst hu'
  obtain ⟨b', o', e, c0, c1, c2⟩ := hr (j / 3) (by omega)
  simp at e
  obtain ⟨rfl, rfl⟩ := e
  rw [Addr.add_mid]
  have h3 : j % 3 = 0 ∨ j % 3 = 1 ∨ j % 3 = 2 := by omega
  unfold ar
  rcases h3 with h | h | h
  · rw [if_pos h, ← c0]; congr 2; omega
  · rw [if_neg (by omega), if_pos h, ← c1]; congr 2; omega
  · rw [if_neg (by omega), if_neg (by omega), ← c2]; congr 2; omega
theorem cellsOf_one (f : Nat → Int) (m : Nat) : ∀ u ∈ cellsOf f m, u.oneCell' = true := fun u hu => by
  simp [cellsOf] at hu
  obtain ⟨_, _, rfl⟩ := hu
  rfl
end
end Go.Proofs.YthmpliljffmmcaaGreatDoor
