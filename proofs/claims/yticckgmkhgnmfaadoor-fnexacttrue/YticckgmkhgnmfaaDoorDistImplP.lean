/-
  The program's Distances: going on from places that wait.
-/
import Derived.Test.YticckgmkhgnmfaaDoorPutP
import Derived.Test.YticckgmkhgnmfaaDoorTakeP
import Derived.Test.YticckgmkhgnmfaaDoorPack3
import Derived.Deep.LoopGhost
import Derived.WalkMore
set_option linter.unusedVariables false
set_option linter.unusedSimpArgs false
namespace Go.Proofs.YticckgmkhgnmfaaDoor
open Go.RowKit Go.Maps
attribute [local go_sem ↓] Go.wp_at_zero Go.wp_at_succ

theorem allFar_any (p : Nat) (h1 : 1 ≤ p) (h2 : p ≤ 24) (w : World) :
    Calls Tryd.prog 86 #[.int .i64 p] w fun e w' => e = .returned (.slice (some ⟨w.heap.size, 0, none⟩) p p) ∧ IHas w' w.heap.size p (fun _ => 1000000000000) ∧ Below w.heap.size w w' := by
  have hmk := make_ints p (by omega)
  go_enter Tryd.func86, Tryd.ntmps86
  go_wp2
  clear hmk
  go_loopw [9] (fun i wr => ∃ k : Nat, k ≤ p ∧ i = .int .i64 k ∧ IHas wr w.heap.size p (fun j => if j < k then 1000000000000 else 0) ∧ Below w.heap.size w wr) (fun i _ => p - (intOf i).toNat)
  case atStart => exact ⟨0, Nat.zero_le _, rfl, made_ints w p, (Below.refl _ _).alloc (Nat.le_refl _) _⟩
  case round =>
    obtain ⟨k, hk, rfl, hown, hbel⟩ := hrel
    by_cases hlt : k < p
    · have d0 := hown.cell hlt
      have z0 := hown.frozen k
      have R := hown.set k 1000000000000
      have S := hbel.setCell (p := ⟨w.heap.size, k, none⟩) (Nat.le_refl _) (.int .i64 1000000000000)
      clear hown
      go_wp2
      go_roundw
      case rel =>
        refine ⟨k + 1, by omega, by go_num, R.congr (fun j hj => ?_), S⟩
        by_cases e : j = k
        · subst e; simp
        · simp only [if_neg e]
          by_cases hl : j < k
          · rw [if_pos hl, if_pos (by omega)]
          · rw [if_neg hl, if_neg (by omega)]
      case measure => simp [intOf]; omega
    · have hkn : k = p := by omega
      subst hkn
      go_wp2
      go_ret
      exact ⟨rfl, hown.congr (fun j hj => by simp [hj]), hbel⟩

theorem Stays.from {w w1 : World} {hb B : Nat} {ob : Option Nat} (h : Stays w w1 hb ob) (hB : B ≤ hb) (hl : B ≤ w.heap.size) (ho : ∀ k, ob = some k → B ≤ k) : Below B w w1 :=
  ⟨h.os, h.tape, h.output, h.size, fun k hk => h.block k (by omega) (by omega) (fun e => by have := ho k e.symm; omega)⟩
theorem Stays.has {w w1 : World} {hb b n : Nat} {ob : Option Nat} {f : Nat → Int} (h : Stays w w1 hb ob) (hI : IHas w b n f) (h1 : b ≠ hb) (h2 : some b ≠ ob) : IHas w1 b n f := hI.of_block (h.block b hI.lt h1 h2)
theorem first_put {E : Nat → Int × Int} {q s : Int} (h : ∀ x, Mem E (0 + 1) x ↔ Mem (upP (fun _ => (0, 0)) 0 (q, s)) (0 + 1) x) : E 0 = (q, s) := by
  obtain ⟨i, hi, e⟩ := (h (E 0)).1 ⟨0, by omega, rfl⟩
  obtain rfl : i = 0 := by omega
  simpa [upP] using e.symm
theorem took_mem {E E' : Nat → Int × Int} {m : Nat} (h : ∀ x, Mem E' m x ↔ Mem (upP E 0 (E m)) m x) : (∀ e, Mem E (m + 1) e → e = E 0 ∨ Mem E' m e) ∧ ∀ i, i < m → Mem E (m + 1) (E' i) := by
  constructor
  · rintro e ⟨i, hi, rfl⟩
    by_cases h0 : i = 0
    · subst h0; exact Or.inl rfl
    · right
      rw [h]
      by_cases h1 : i = m
      · exact ⟨0, by omega, by simp [upP, h1]⟩
      · exact ⟨i, by omega, by simp [upP, h0]⟩
  · intro i hi
    obtain ⟨j, hj, e⟩ := (h (E' i)).1 ⟨i, hi, rfl⟩
    rw [← e]
    by_cases h0 : j = 0
    · subst h0; exact ⟨m, by omega, by simp [upP]⟩
    · exact ⟨j, by omega, by simp [upP, h0]⟩
theorem put_mem {E E' : Nat → Int × Int} {m : Nat} {q s : Int} (h : ∀ x, Mem E' (m + 1) x ↔ Mem (upP E m (q, s)) (m + 1) x) : (∀ e, Mem E m e ∨ e = (q, s) → Mem E' (m + 1) e) ∧ ∀ i, i < m + 1 → Mem E m (E' i) ∨ E' i = (q, s) := by
  constructor
  · rintro e (⟨i, hi, rfl⟩ | rfl)
    · rw [h]; exact ⟨i, by omega, by simp [upP]; intro hh; omega⟩
    · rw [h]; exact ⟨m, by omega, by simp [upP]⟩
  · intro i hi
    obtain ⟨j, hj, e⟩ := (h (E' i)).1 ⟨i, hi, rfl⟩
    by_cases h0 : j = m
    · right; rw [← e]; simp [upP, h0]
    · left; rw [← e]; exact ⟨j, by omega, by simp [upP, h0]⟩

set_option maxRecDepth 1000000 in
set_option maxHeartbeats 4000000 in
theorem implDist_walk (p s : Nat) (ao : Option Addr) (n cap : Nat) (F T G : Nat → Int) (hg : graphB p n F T G = true) (hs : s < p) (hn : n ≤ 100) (hp1 : 1 ≤ p) (hp2 : p ≤ 24) (hA : Arcs p n F T G) (w : World) (hr : Row w ao n F T G) :
    Calls Tryd.prog 69 #[.agg #[.int .i64 p, .slice ao n cap], .int .i64 s] w fun e w' => ∃ g c D, e = .returned (.slice (some ⟨g, 0, none⟩) p c) ∧ w.heap.size ≤ g ∧ IHas w' g p D ∧ Sol p n F T G s D ∧ Below w.heap.size w w' := by
  have HA : Hid (Arcs p n F T G) := hA
  have HG : Hid (graphB p n F T G = true) := hg
  clear hA
  have hin : inB s 0 ((p : Int) - 1) = true := by simp [inB]; omega
  go_enter Tryd.func69, Tryd.ntmps69
  go_wp2
  go_step3
  go_wp2_with fail
  refine (implGraphOk_any p ao n cap F T G (by omega) _ (hr.alloc _)).mono ?_
  rintro e w1 ⟨rfl, hb1⟩
  have hA1 := boxed hb1
  obtain ⟨x0, x1, xs⟩ := box2 hA1
  go_wp2_with fail
  refine (placeOk_any _ _ _).mono ?_
  rintro e w1' ⟨rfl, hq⟩
  have hq' := hq.symm
  subst hq'
  clear hq
  go_wp2_with fail
  refine (allFar_any p hp1 hp2 _).mono ?_
  rintro e w2 ⟨rfl, hI2, hb2⟩
  have hA2 := below_next hA1 (by simp) hb2
  have d0 := hI2.cell hs
  have z0 := hI2.frozen s
  have hs0 : (s : Int) < (p : Int) := by omega
  have hl2 := hI2.lt
  have hR : IHas (w2.setCell ⟨w1.heap.size, s, none⟩ (.int .i64 0)) w1.heap.size p (start s) := (hI2.set s 0).congr (fun j hj => by unfold start; rfl)
  have hB2 := hA2.setCell (p := ⟨w1.heap.size, s, none⟩) (Nat.succ_le_of_lt xs) (.int .i64 0)
  have hR3 := hR.below ((Below.refl _ _).alloc (Nat.le_refl _) (.cells #[.slice none 0 0] 124)) hR.lt
  have hx2 := box2 hA2
  have hB3 := hB2.alloc (by simpa [World.setCell] using Nat.succ_le_of_lt hx2.2.2) (.cells #[.slice none 0 0] 124)
  have hsz2 : w.heap.size + 1 ≤ w2.heap.size := Nat.succ_le_of_lt hx2.2.2
  have hp0 : Heap0 ((w2.setCell ⟨w1.heap.size, s, none⟩ (.int .i64 0)).alloc (.cells #[.slice none 0 0] 124)) w2.heap.size (.slice none 0 0) 0 (fun _ => (0, 0)) :=
    ⟨by simpa [World.setCell] using Go.Deep.blk_alloc_new (w2.setCell ⟨w1.heap.size, s, none⟩ (.int .i64 0)) (.cells #[.slice none 0 0] 124), World.ownsRow_nil _ _ _ _⟩
  clear hx2 hI2 hb1 hb2 hA1 x0 x1 hR hB2
  go_wp2_with fail
  refine (put_any w2.heap.size 0 (.slice none 0 0) (fun _ => (0, 0)) s 0 (by omega) _ hp0).mono ?_
  rintro e w4 ⟨rfl, g4, c4, E4, hH4, hM4, hS4, _⟩
  have hE4 := first_put hM4
  have hI4 := hS4.has hR3 (by omega) (by simp [Value.ownBlock])
  have hB4 := hB3.trans (hS4.from (B := w.heap.size + 1) hsz2 (by simp [World.setCell]; omega) (fun k hk => by simp [Value.ownBlock] at hk))
  clear hM4 hS4 hp0 hR3 hB3 hA2 d0 z0
  go_wp2_with fail
  go_step3
  go_wp2_with fail
  have hsb : w1.heap.size < w2.heap.size := hl2
  have hsb' : w.heap.size + 1 ≤ w1.heap.size := Nat.succ_le_of_lt xs
  clear hl2 xs
  go_loopg [] 624000001 (fun gk wr => ∃ (d : Nat → Int) (g c len : Nat) (E : Nat → Int × Int), HList wr w2.heap.size g c len E ∧ IHas wr w1.heap.size p d ∧ Going p n F T G s p 0 d E len ∧ weight p d len ≤ (gk : Int) ∧ gk ≤ 624000001 ∧ Below (w.heap.size + 1) (w.alloc (.cells #[.int .i64 p, .slice ao n cap] 40)) wr)
  case atStart => exact ⟨start s, g4, c4, 1, E4, hH4, hI4, Going.begin hp1 hp2 hs hE4, weight_start hp2 s, Nat.le_refl _, hB4⟩
  case round =>
    obtain ⟨d, g, c, len, E, hH, hI, hGo, hW1, hW2, hB⟩ := hrel
    clear hH4 hI4 hB4 hE4
    have c0 := hH.word
    have hlt0 : w2.heap.size < wr.heap.size := lt_of_cell c0
    have hwl := weight_len hGo
    have HGo : Hid (Going p n F T G s p 0 d E len) := hGo
    have HW : Hid (weight p d len ≤ (gk : Int) ∧ (len : Int) ≤ weight p d len) := ⟨hW1, hwl.1⟩
    have hlen : len ≤ 624000001 := by omega
    clear hGo hW1 hwl
    by_cases hz : len = 0
    · subst hz
      go_wp2
      rw [Exit.noGoto_ret]
      go_ret
      exact ⟨w1.heap.size, p, d, rfl, by omega, hI, Going.done HA.out HGo.out, unbox hB (by omega)⟩
    obtain ⟨m, rfl⟩ : ∃ m, len = m + 1 := ⟨len - 1, by omega⟩
    go_wp2_with fail
    refine (take_any w2.heap.size g c m E (by omega) _ hH).mono ?_
    rintro e w5 ⟨rfl, E5, hH5, hM5, hS5⟩
    obtain ⟨q, x, hqx⟩ : ∃ q x : Int, E 0 = (q, x) := ⟨_, _, rfl⟩
    have hgh : w2.heap.size < g := hH.2.2
    have hI5 := hS5.has hI (by omega) (by simp; omega)
    have hB5 := hB.trans (hS5.from (B := w.heap.size + 1) (by omega) (by omega) (fun k hk => by simp at hk; omega))
    have hent := HGo.out.ent 0 (by omega)
    rw [hqx] at hent
    simp only [] at hent
    obtain ⟨hq0, hqp, hqd, hxf⟩ := hent
    obtain ⟨qn, rfl⟩ : ∃ qn : Nat, q = (qn : Int) := ⟨q.toNat, by omega⟩
    simp only [Int.toNat_natCast] at hqd
    have hmm := took_mem hM5
    rw [hqx] at hmm
    have HMM : Hid ((∀ e, Mem E (m + 1) e → e = ((qn : Int), x) ∨ Mem E5 m e) ∧ ∀ i, i < m → Mem E (m + 1) (E5 i)) := hmm
    clear hM5 hmm hH hI hS5 c0
    rw [hqx]
    simp only []
    have hg5 : g < w5.heap.size := hH5.2.1.lt
    have hh5 : w2.heap.size < w5.heap.size := by omega
    have hw5 : w.heap.size < w5.heap.size := by omega
    have hs5 : w1.heap.size < w5.heap.size := by omega
    have hal := (Below.refl w5.heap.size w5).alloc (Nat.le_refl _) (.cells #[.int .i64 (qn : Int), .int .i64 x] 127)
    have hH6 := hH5.below hal (Nat.le_refl _)
    have hI6 := hI5.below hal hs5
    have hB6 := hB5.trans (hal.mono (by omega))
    have d6 := hI5.cell (j := qn) (by omega)
    have hqn : qn < p := by omega
    obtain ⟨y0, y1, ys⟩ := box2 hB5
    have hqp' : (qn : Int) < (p : Int) := by omega
    go_wp2_with fail
    by_cases hst : d qn < x
    · have hst' : decide (d qn < x) = true := by simpa using hst
      go_quiet (fail)
      go_wp2
      go_roundg (gk - 1)
      case measure => have := HW.out; omega
      case rel =>
        have hw := HW.out
        refine ⟨d, g, c, m, E5, hH6.drewN _, hI6.below (below_drewN (Below.refl _ _) _) hI6.lt, HGo.out.stale HMM.out.1 HMM.out.2 (by simpa using hst), ?_, by omega, below_drewN hB6 _⟩
        have : weight p d (m + 1) = weight p d m + 1 := by unfold weight; push_cast; omega
        omega
    have hst' : decide (d qn < x) = false := by simpa using hst
    have hdq : d qn = x := by omega
    go_quiet (fail)
    go_wp2_with fail
    have hwt : Hid (weight p d m ≤ (gk : Int) - 1) := by
      show weight p d m ≤ (gk : Int) - 1
      have : weight p d (m + 1) = weight p d m + 1 := by unfold weight; push_cast; omega
      have := HW.out
      omega
    go_loopw [47] (fun i wi => ∃ (k : Nat) (d' : Nat → Int) (g' c' len' : Nat) (E' : Nat → Int × Int), k ≤ n ∧ i = .int .i64 k ∧ HList wi w2.heap.size g' c' len' E' ∧ IHas wi w1.heap.size p d' ∧ Hid (Going p n F T G s qn k d' E' len') ∧ Hid (d' qn = x) ∧ Hid (weight p d' len' ≤ (gk : Int) - 1) ∧ wi.cell? ⟨w5.heap.size, 0, none⟩ = some (.int .i64 (qn : Int)) ∧ wi.cell? ⟨w5.heap.size, 1, none⟩ = some (.int .i64 x) ∧ g' ≠ w5.heap.size ∧ w5.heap.size < wi.heap.size ∧ Below (w.heap.size + 1) (w.alloc (.cells #[.int .i64 p, .slice ao n cap] 40)) wi) (fun i _ => n - (intOf i).toNat)
    case atStart => exact ⟨0, d, g, c, m, E5, Nat.zero_le _, rfl, hH6.drewN _, hI6.below (below_drewN (Below.refl _ _) _) hI6.lt, by show Going p n F T G s qn 0 d E5 m; have := HGo.out.take HMM.out.1 HMM.out.2; simpa using this, hdq, hwt, by simp [go_sem], by simp [go_sem], by omega, by simp, below_drewN hB6 _⟩
    case round =>
      obtain ⟨k, d', g', c', len', E', hk, rfl, hHi, hIi, hGi, hdi, hwi, n0, n1, hgn, hni, hBi⟩ := hrel
      clear hH6 hI6 hB6 hwt hH5 hI5 hB5 d6 y0 y1 ys hal hdq hst hst' hB
      obtain ⟨y0, y1, ys⟩ := box2 hBi
      by_cases hlt : k < n
      rotate_left
      · have hkn : k = n := by omega
        subst hkn
        go_wp2
        go_roundg (gk - 1)
        case measure => have := HW.out; have := hwi.out; have := (weight_len hGi.out).2; omega
        case rel => exact ⟨d', g', c', len', E', hHi, hIi, hGi.out.over (fun j h1 h2 => by omega), by have := hwi.out; have := (weight_len hGi.out).2; omega, by omega, hBi⟩
      obtain ⟨ab, aoff, hao, e0, e1, e2⟩ := ((hr.alloc _).below hBi (by simp)) k hlt
      subst hao
      have ha := HA.out k hlt
      obtain ⟨tF, hF⟩ : ∃ tF : Nat, F k = (tF : Int) := ⟨(F k).toNat, by omega⟩
      obtain ⟨tT, hT⟩ : ∃ tT : Nat, T k = (tT : Int) := ⟨(T k).toNat, by omega⟩
      rw [hF] at e0
      rw [hT] at e1
      have al := (Below.refl wr.heap.size wr).alloc (Nat.le_refl _) (.cells #[.int .i64 (tF : Int), .int .i64 (tT : Int), .int .i64 (G k)] 82)
      have hH7 := hHi.below al (Nat.le_refl _)
      have hI7 := hIi.below al hIi.lt
      have hB7 := hBi.trans (al.mono (by omega))
      have n0' := keep_cell al (Nat.le_refl _) n0
      have n1' := keep_cell al (Nat.le_refl _) n1
      by_cases hc1 : tF < qn
      · have hc1' : (tF : Int) < (qn : Int) := by omega
        go_wp2
        go_roundw
        case rel => exact ⟨k + 1, d', g', c', len', E', by omega, by go_num, hH7, hI7, hGi.out.skip (fun e => by omega), hdi, hwi, n0', n1', hgn, by simp; omega, hB7⟩
        case measure => simp [intOf]; omega
      by_cases hc2 : qn < tF
      · have hc2' : (qn : Int) < (tF : Int) := by omega
        have hc1' : ¬ (tF : Int) < (qn : Int) := by omega
        go_wp2
        go_roundg (gk - 1)
        case measure => have := HW.out; have := hwi.out; have := (weight_len hGi.out).2; omega
        case rel => exact ⟨d', g', c', len', E', hH7, hI7, hGi.out.over (fun j h1 h2 e => by
          by_cases ej : k = j
          · subst ej; omega
          · have := rising (graphB_arcs HG.out).2 k j (by omega) h2; omega), by have := hwi.out; have := (weight_len hGi.out).2; omega, by omega, hB7⟩
      have htq : tF = qn := by omega
      subst htq
      have hGl := hGi.out.lo tF hqn
      have hGb := hGi.out.bound tF hqn (by have := hdi.out; omega)
      have hGp : 0 ≤ sumTo (fun j => far01 (d' j)) p := by
        have := sumTo_le (f := fun _ => 0) (g := fun j => far01 (d' j)) p (fun j _ => far01_nonneg _)
        rw [sumTo_const] at this
        omega
      have hdi' := hdi.out
      have hx0 : 0 ≤ x := by omega
      have hx1 : x ≤ 24000000 := by omega
      have hG1 : 1 ≤ G k ∧ G k ≤ 1000000 := ⟨ha.2.2.2.2.2.1, ha.2.2.2.2.2.2⟩
      have hmin : min 1000000000000 (x + G k) = x + G k := by omega
      have hTp : tT < p := by omega
      have hTp' : (tT : Int) < (p : Int) := by omega
      have s7 := hIi.cell hTp
      have f7 := hIi.frozen tT
      have hsw : w1.heap.size < wr.heap.size := hIi.lt
      clear hGb hGp hdi' ha hGl
      by_cases hc3 : x + G k < d' tT
      · go_wp2_with (go_at_call 89; refine (plus_any _ _ hx0 (by omega) (by omega) (by omega) _).mono ?_; rintro e wp ⟨rfl, rfl⟩)
        have hgl : w2.heap.size < g' := hHi.2.2
        have hTn : (T k).toNat = tT := by omega
        have hlen' : len' ≤ 1000000000 := by have := hwi.out; have := (weight_len hGi.out).1; omega
        have al8 := (Below.refl _ (wr.setCell ⟨w1.heap.size, tT, none⟩ (.int .i64 (x + G k)))).alloc (Nat.le_refl _) (.cells #[.int .i64 (tF : Int), .int .i64 (tT : Int), .int .i64 (G k)] 82)
        have hH8 := (hHi.aside (b := w1.heap.size) (o := tT) (v := .int .i64 (x + G k)) (by omega) (by omega)).below al8 (Nat.le_refl _)
        have hI8' : IHas (wr.setCell ⟨w1.heap.size, tT, none⟩ (.int .i64 (x + G k))) w1.heap.size p (up1 d' tT (x + G k)) := hIi.set tT (x + G k)
        have hI8 := hI8'.below al8 hI8'.lt
        have hne8 : (⟨w1.heap.size, tT, none⟩ : Addr) ≠ ⟨w5.heap.size, 0, none⟩ := fun e => by have := congrArg Addr.block e; simp only [] at this; omega
        have hne9 : (⟨w1.heap.size, tT, none⟩ : Addr) ≠ ⟨w5.heap.size, 1, none⟩ := fun e => by have := congrArg Addr.block e; simp only [] at this; omega
        have m0 := keep_cell al8 (Nat.le_refl _) ((World.cell?_setCell_other _ _ _ _ hne8).trans n0)
        have m1 := keep_cell al8 (Nat.le_refl _) ((World.cell?_setCell_other _ _ _ _ hne9).trans n1)
        have hsz8 : (wr.setCell ⟨w1.heap.size, tT, none⟩ (.int .i64 (x + G k))).heap.size = wr.heap.size := by simp [World.setCell]
        have hB8 := (hBi.setCell (p := ⟨w1.heap.size, tT, none⟩) hsb' (.int .i64 (x + G k))).trans (al8.mono (by omega))
        have hsA : ((wr.setCell ⟨w1.heap.size, tT, none⟩ (.int .i64 (x + G k))).alloc (.cells #[.int .i64 (tF : Int), .int .i64 (tT : Int), .int .i64 (G k)] 82)).heap.size = wr.heap.size + 1 := by simp [World.setCell]
        refine (put_any w2.heap.size len' (.slice (some ⟨g', 0, none⟩) len' c') E' (tT : Int) (x + G k) hlen' _ hH8.heap0).mono ?_
        rintro e w9 ⟨rfl, g9, c9, E9, hH9, hM9, hS9, hgo9⟩
        have hI9 := hS9.has hI8 (by omega) (by simp [Value.ownBlock]; omega)
        have m0' := hS9.cell (by omega) (by simp [Value.ownBlock]; omega) m0
        have m1' := hS9.cell (by omega) (by simp [Value.ownBlock]; omega) m1
        have hB9 := hB8.trans (hS9.from (B := w.heap.size + 1) (by omega) (by omega) (fun j hj => by simp [Value.ownBlock] at hj; omega))
        have hg9 : g9 ≠ w5.heap.size := by
          rcases hgo9 with h | h
          · omega
          · simp [Value.ownBlock] at h; omega
        have hs9 : w5.heap.size < w9.heap.size := by have := hS9.size; omega
        have hpm := put_mem hM9
        have hput := Going.put HA.out hs hqn hGi.out hlt hF (by rw [hTn, hdi.out]; exact hc3) (by rw [hdi.out]; omega) (E' := E9) (by rw [hT, hdi.out]; exact hpm.1) (by rw [hT, hdi.out]; exact hpm.2)
        rw [hTn, hdi.out] at hput
        have HP : Hid (Going p n F T G s tF (k + 1) (up1 d' tT (x + G k)) E9 (len' + 1) ∧ up1 d' tT (x + G k) tF = x ∧ weight p (up1 d' tT (x + G k)) (len' + 1) ≤ (gk : Int) - 1) := ⟨hput.1, hput.2.2.1, Int.le_trans hput.2.1 hwi.out⟩
        clear hput hpm hM9 hS9 hgo9 hH8 hI8 hI8' m0 m1 hB8 al8 hsA hsz8 hne8 hne9
        go_wp2
        go_roundw
        case rel => exact ⟨k + 1, up1 d' tT (x + G k), g9, c9, len' + 1, E9, by omega, by go_num, hH9, hI9, HP.out.1, HP.out.2.1, HP.out.2.2, m0', m1', hg9, hs9, hB9⟩
        case measure => simp [intOf]; omega
      · go_wp2_with (go_at_call 89; refine (plus_any _ _ hx0 (by omega) (by omega) (by omega) _).mono ?_; rintro e wp ⟨rfl, rfl⟩)
        have hskip : F k = ((tF : Nat) : Int) → d' (T k).toNat ≤ d' tF + G k := fun _ => by
          have h1 := hdi.out
          have h2 : (T k).toNat = tT := by omega
          rw [h2, h1]
          omega
        go_roundw
        case rel => exact ⟨k + 1, d', g', c', len', E', by omega, by go_num, hH7, hI7, hGi.out.skip hskip, hdi, hwi, n0', n1', hgn, by simp; omega, hB7⟩
        case measure => simp [intOf]; omega

end Go.Proofs.YticckgmkhgnmfaaDoor
