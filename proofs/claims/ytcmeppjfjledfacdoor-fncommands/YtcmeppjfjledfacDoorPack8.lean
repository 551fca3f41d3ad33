/-
  Helpers, merged: LawCmds.
-/
import Derived.Test.YtcmeppjfjledfacDoorPack4
import Derived.Test.YtcmeppjfjledfacDoorPack5
import Derived.Test.YtcmeppjfjledfacDoorPack3
import Derived.Test.YtcmeppjfjledfacDoorPack7
import Derived.Test.YtcmeppjfjledfacDoorPack2
/-
  The walk of the law FnCommands, at every list of bytes.
-/
set_option linter.unusedVariables false
set_option linter.unusedSimpArgs false
namespace Go.Proofs.YtcmeppjfjledfacDoor
open Go.ChangeShapes Go.WideShapes Go.ChangeAt Go.RowKit Go.Deep Go.Joins
attribute [local go_sem ↓] Go.wp_at_zero Go.wp_at_succ

theorem Row.congrC {w : World} {ao : Option Addr} {n : Nat} {F T G F' T' G' : Nat → Int} (h : Row w ao n F T G) (e : ∀ k, k < n → F k = F' k ∧ T k = T' k ∧ G k = G' k) : Row w ao n F' T' G' := fun k hk => by
  obtain ⟨b, o, h1, h2, h3, h4⟩ := h k hk
  obtain ⟨e1, e2, e3⟩ := e k hk
  exact ⟨b, o, h1, by rw [h2, e1], by rw [h3, e2], by rw [h4, e3]⟩
theorem decC9 {n : Int} (h0 : 0 ≤ n) (h1 : n ≤ 1000000) : (dec n).length ≤ 9 := dgt_len (by omega)
theorem showW_len9 {F T G : Nat → Int} : ∀ n, Small n F T G → (showW F T G n).length ≤ 30 * (n + 1)
  | 0, _ => by simp [showW, txWeigh]
  | n + 1, h => by
    have ih := showW_len9 n (fun k hk => h k (by omega))
    obtain ⟨a, b, c⟩ := h n (by omega)
    have a9 := decC9 a.1 a.2
    have b9 := decC9 b.1 b.2
    have c9 := decC9 c.1 c.2
    simp [showW, arcT]; omega
theorem showC_none {K : Int} {n : Nat} {F T G : Nat → Int} {a b : Int} (h : cmdB K n F T G a b = false) : showC K n F T G a b = [] := by
  unfold showC
  rw [if_neg (by rw [h]; simp)]
theorem showC_some {K : Int} {n : Nat} {F T G : Nat → Int} {a b : Int} (h : cmdB K n F T G a b = true) : 0 < (showC K n F T G a b).length ∧ (showC K n F T G a b).length ≤ 1048576 := by
  have hs : showC K n F T G a b = (if K = 1 then txNone else if K = 3 then showA a b else showW F T G n) := if_pos h
  rw [hs]
  unfold cmdB at h
  by_cases h1 : K = 1
  · rw [if_pos h1]; decide
  rw [if_neg h1] at h ⊢
  by_cases h2 : K = 2
  · subst h2
    rw [if_pos rfl] at h
    rw [if_neg (by decide)]
    simp only [Bool.and_eq_true, decide_eq_true_eq, batchB] at h
    have := showW_len9 n (batB_small h.1.2.2)
    have := showW_pos (F := F) (T := T) (G := G) n
    omega
  rw [if_neg h2] at h
  by_cases h3 : K = 3
  · rw [if_pos h3] at h ⊢
    simp only [Bool.and_eq_true, decide_eq_true_eq, inB] at h
    have := decC9 (n := a) (by omega) (by omega)
    have := decC9 (n := b) (by omega) (by omega)
    simp [showA, txAsk]; omega
  · rw [if_neg h3] at h; cases h
theorem lOf_le {l : List UInt8} {r : Int × List Int} (h : onlyOk (rdS l) = some r) : (lOf (some r)).length / 3 ≤ 10 := by
  obtain ⟨K, ns⟩ := r
  unfold onlyOk at h
  cases hrd : rdS l with
  | none => rw [hrd] at h; cases h
  | some q =>
    obtain ⟨K', ns'⟩ := q
    rw [hrd] at h
    simp only at h
    by_cases hok : okC K' ns' = true
    · rw [if_pos hok] at h
      obtain ⟨rfl, rfl⟩ := Prod.mk.inj (Option.some.inj h)
      unfold lOf
      simp only
      by_cases h2 : K' = 2
      · subst h2
        rw [if_pos rfl]
        unfold okC at hok
        rw [if_neg (by decide), if_pos rfl] at hok
        unfold cmdB at hok
        rw [if_neg (by decide), if_pos rfl] at hok
        simp only [Bool.and_eq_true, decide_eq_true_eq, batchB] at hok
        exact hok.1.2.1
      · rw [if_neg h2]; simp
    · rw [if_neg hok] at h; cases h
theorem readCS (l : List UInt8) (hl : l.length ≤ 1048576) (W : World) : Calls Tryd.prog 13 #[txt l] W fun e w' => CAns W w' e (onlyOk (rdS l)) := specRead_any ⟨l.toArray⟩ hl W
theorem readCI (l : List UInt8) (hl : l.length ≤ 1048576) (W : World) : Calls Tryd.prog 10 #[txt l] W fun e w' => CAns W w' e (onlyOk (rdS l)) := implRead_same ⟨l.toArray⟩ hl W
theorem sumCS (l : List UInt8) (hl : l.length ≤ 1048576) (W : World) : Calls Tryd.prog 15 #[txt l] W fun e w' => e = .returned (.int .i64 (sumT l)) ∧ w' = W := specSum_any ⟨l.toArray⟩ hl W
theorem sumCI (l : List UInt8) (hl : l.length ≤ 1048576) (W : World) : Calls Tryd.prog 14 #[txt l] W fun e w' => e = .returned (.int .i64 (sumT l)) ∧ w' = W := implSum_any ⟨l.toArray⟩ hl W
theorem CAns.get {w w' : World} {e : Ending} {r : Option (Int × List Int)} (h : CAns w w' e r) : ∃ ao cap, e = .returned (.tuple #[.agg #[.int .i64 (kOf r), .slice ao ((lOf r).length / 3) cap, .int .i64 (aOf r 0), .int .i64 (aOf r 1)], .bool r.isSome]) ∧ Row w' ao ((lOf r).length / 3) (at3 (lOf r) 0) (at3 (lOf r) 1) (at3 (lOf r) 2) ∧ Below w.heap.size w w' := by
  obtain ⟨ao, cap, h1, h2, h3⟩ := h
  exact ⟨ao, cap, h1, OwnS.row h2, h3⟩

set_option maxRecDepth 100000 in
set_option maxHeartbeats 8000000 in
theorem lawCmds_walk (ao : Option Addr) (n cap : Nat) (hn : n ≤ maxLen) (w : World) (hr : ByRow w w.heap.size ao n) (hV : Tab w) :
    Calls Tryd.prog 3 #[.slice ao n cap] w fun e w' => e = .returned (.bool true) ∧ Below w.heap.size w w' := by
  unfold maxLen at hn
  have HBg := fun W => big_any ao n cap (by omega) W
  by_cases hbig : 4096 < n
  · simp only [hbig, decide_true] at HBg
    go_enter Tryd.func3, Tryd.ntmps3
    go_wp2_with fail
    refine (HBg _).mono ?_
    rintro e w0 ⟨rfl, hq⟩
    have hq' := hq.symm
    subst hq'
    clear hq
    go_wp2
    go_ret
    exact ⟨rfl, Below.refl _ _⟩
  simp only [hbig, decide_false] at HBg
  have hn4 : n ≤ 4096 := by omega
  go_enter Tryd.func3, Tryd.ntmps3
  go_wp2_with fail
  refine (HBg _).mono ?_
  rintro e w0 ⟨rfl, hq⟩
  have hq' := hq.symm
  subst hq'
  clear hq
  go_wp2_with fail
  refine (drawShowCommand_any ao n cap hn4 _ hr).mono ?_
  rintro e w1 ⟨K, go, k, gc, a, b, rfl, hk, hO1, hA1⟩
  obtain ⟨F, T, G, hrG, _⟩ := hO1.row
  have hal1 : Below w1.heap.size w1 (w1.alloc (.cells #[.int .i64 K, .slice go k gc, .int .i64 a, .int .i64 b] 26)) := (Below.refl _ _).alloc (Nat.le_refl _) _
  have hA2 := below_next hA1 (Nat.le_refl _) hal1
  have hrG2 := hrG.below hal1 (Nat.le_refl _)
  have b0 : (w1.alloc (.cells #[.int .i64 K, .slice go k gc, .int .i64 a, .int .i64 b] 26)).cell? ⟨w1.heap.size, 0, none⟩ = some (.int .i64 K) := by simp [go_sem]
  have b1 : (w1.alloc (.cells #[.int .i64 K, .slice go k gc, .int .i64 a, .int .i64 b] 26)).cell? ⟨w1.heap.size, 1, none⟩ = some (.slice go k gc) := by simp [go_sem]
  have b2 : (w1.alloc (.cells #[.int .i64 K, .slice go k gc, .int .i64 a, .int .i64 b] 26)).cell? ⟨w1.heap.size, 2, none⟩ = some (.int .i64 a) := by simp [go_sem]
  have b3 : (w1.alloc (.cells #[.int .i64 K, .slice go k gc, .int .i64 a, .int .i64 b] 26)).cell? ⟨w1.heap.size, 3, none⟩ = some (.int .i64 b) := by simp [go_sem]
  have hSI := fun W h1 h2 => implShowC_any K go k gc F T G a b (by omega) W h1 h2
  have hSS := fun W h1 => specShowC_any K go k gc a b F T G (by omega) W h1
  have hGO := fun W h1 => specCommandOk_any K go k gc F T G a b (by omega) W h1
  obtain ⟨L, hLe⟩ : ∃ L, showC K k F T G a b = L := ⟨_, rfl⟩
  obtain ⟨gb, hgb⟩ : ∃ gb, cmdB K k F T G a b = gb := ⟨_, rfl⟩
  rw [hLe] at hSI hSS
  rw [hgb] at hGO
  have hV2 := hV.below hA2 (Nat.le_refl _)
  go_wp2_with fail
  generalize (w1.alloc (.cells #[.int .i64 K, .slice go k gc, .int .i64 a, .int .i64 b] 26)) = w2 at hal1 hA2 hrG2 b0 b1 b2 b3 hV2 ⊢
  refine (hSI _ hV2 hrG2).mono ?_
  rintro e w3 ⟨rfl, hb3⟩
  have hA3 := below_next hA2 (Nat.le_refl _) hb3
  have hV3 := hV2.below hb3 (Nat.le_refl _)
  have hrG3 := hrG2.below hb3 (Nat.le_refl _)
  have b03 := keep_cell hb3 (Nat.le_refl _) b0
  have b13 := keep_cell hb3 (Nat.le_refl _) b1
  have b23 := keep_cell hb3 (Nat.le_refl _) b2
  have b33 := keep_cell hb3 (Nat.le_refl _) b3
  clear hSI hrG2 hV2 b0 b1 b2 b3
  go_wp2_with fail
  refine (hSS _ hrG3).mono ?_
  rintro e w4 ⟨rfl, hb4⟩
  have hA4 := below_next hA3 (Nat.le_refl _) hb4
  have hV4 := hV3.below hb4 (Nat.le_refl _)
  have hrG4 := hrG3.below hb4 (Nat.le_refl _)
  have b04 := keep_cell hb4 (Nat.le_refl _) b03
  have b14 := keep_cell hb4 (Nat.le_refl _) b13
  have b24 := keep_cell hb4 (Nat.le_refl _) b23
  have b34 := keep_cell hb4 (Nat.le_refl _) b33
  clear hSS hrG3 hV3 b03 b13 b23 b33
  cases gb with
  | false =>
    obtain rfl : L = [] := by rw [← hLe]; exact showC_none hgb
    go_wp2_with fail
    refine (hGO _ hrG4).mono ?_
    rintro e w5 ⟨rfl, hb5⟩
    have hA5 := below_next hA4 (Nat.le_refl _) hb5
    go_wp2_with fail
    have hrA : ByRow w5 w5.heap.size ao n := fun x hx => by
      obtain ⟨b, o, v, e, hb, hc⟩ := (hr.below hA5 (Nat.le_refl _)) x hx
      exact ⟨b, o, v, e, by have := hA5.size; omega, hc⟩
    refine (drawReadCommand_any ao n cap hn4 _ hrA).mono ?_
    rintro e wB ⟨l, rfl, hl, hbB⟩
    have hAB := below_next hA5 (Nat.le_refl _) hbB
    clear hrA hbB
    have HS := fun W => readCS l (by omega) W
    have HI := fun W => readCI l (by omega) W
    have HSs := fun W => sumCS l (by omega) W
    have HSi := fun W => sumCI l (by omega) W
    cases hres : onlyOk (rdS l) with
    | none =>
      rw [hres] at HS HI
      go_wp2_with fail
      refine (HI _).mono ?_
      intro e wC hAns
      obtain ⟨aoH, capH, rfl, _, hbC⟩ := hAns.get
      simp only [kOf, lOf, aOf, List.length_nil, Nat.zero_div, Option.isSome_none]
      have hAC := below_next hAB (Nat.le_refl _) hbC
      clear hAns
      go_wp2_with fail
      refine (HS _).mono ?_
      intro e wD hAns
      obtain ⟨aoW, capW, rfl, _, hbD⟩ := hAns.get
      simp only [kOf, lOf, aOf, List.length_nil, Nat.zero_div, Option.isSome_none]
      clear hAns
      have hrH : Row wD aoH 0 (fun _ => 0) (fun _ => 0) (fun _ => 0) := fun x hx => by omega
      have hrW : Row wD aoW 0 (fun _ => 0) (fun _ => 0) (fun _ => 0) := fun x hx => by omega
      have h0 : wD.cell? ⟨wC.heap.size, 0, none⟩ = some (.int .i64 0) := by rw [hbD.cell (by simp)]; simp [go_sem]
      have h1 : wD.cell? ⟨wC.heap.size, 1, none⟩ = some (.slice aoH 0 capH) := by rw [hbD.cell (by simp)]; simp [go_sem]
      have h2 : wD.cell? ⟨wC.heap.size, 2, none⟩ = some (.int .i64 0) := by rw [hbD.cell (by simp)]; simp [go_sem]
      have h3 : wD.cell? ⟨wC.heap.size, 3, none⟩ = some (.int .i64 0) := by rw [hbD.cell (by simp)]; simp [go_sem]
      have hAD : Below w.heap.size w wD := (hAC.alloc hAC.size _).trans (hbD.mono (by have := hAC.size; simp; omega))
      have hAl : ∀ o, Below wD.heap.size wD (wD.alloc o) := fun o => (Below.refl _ _).alloc (Nat.le_refl _) o
      have h0' := fun o => keep_cell (hAl o) (Nat.le_refl _) h0
      have h1' := fun o => keep_cell (hAl o) (Nat.le_refl _) h1
      have h2' := fun o => keep_cell (hAl o) (Nat.le_refl _) h2
      have h3' := fun o => keep_cell (hAl o) (Nat.le_refl _) h3
      have hLK := fun W (hw : Below wD.heap.size wD W) => likeCommand_same 0 aoH aoW 0 capH capW (fun _ => 0) (fun _ => 0) (fun _ => 0) 0 0 (by omega) W (hrH.below hw (Nat.le_refl _)) (hrW.below hw (Nat.le_refl _))
      clear h0 h1 h2 h3
      go_wp2_with fail
      refine (hLK _ (hAl _)).mono ?_
      rintro e wE ⟨rfl, hbE⟩
      have hBE : Below wD.heap.size wD wE := below_next (hAl _) (Nat.le_refl _) hbE
      have hAE := below_next hAD (Nat.le_refl _) hBE
      have e0 := keep_cell hbE (Nat.le_refl _) (h0' _)
      have e1 := keep_cell hbE (Nat.le_refl _) (h1' _)
      have e2 := keep_cell hbE (Nat.le_refl _) (h2' _)
      have e3 := keep_cell hbE (Nat.le_refl _) (h3' _)
      clear h0' h1' h2' h3' hLK hbE
      go_wp2_with fail
      refine (HSi _).mono ?_
      rintro e wE' ⟨rfl, rfl⟩
      go_wp2_with fail
      refine (HSs _).mono ?_
      rintro e wE'' ⟨rfl, rfl⟩
      go_wp2_with fail
      refine (likeCommand_same 0 aoH none 0 capH 0 (fun _ => 0) (fun _ => 0) (fun _ => 0) 0 0 (by omega) _ (fun x hx => by omega) (fun x hx => by omega)).mono ?_
      rintro e wF ⟨rfl, hbF⟩
      go_wp2
      go_ret
      exact ⟨rfl, below_next hAE (Nat.le_refl _) hbF⟩
    | some r =>
      have hsh := show_readC hres
      have hle9 := lOf_le hres
      rw [hres] at HS HI
      have HI' := fun W => (HI W).mono fun e w' h => h.get
      have HS' := fun W => (HS W).mono fun e w' h => h.get
      clear HI HS
      simp only [Option.isSome_some] at HI' HS'
      generalize kOf (some r) = P at HS' HI' hsh
      generalize aOf (some r) 0 = X9 at HS' HI' hsh
      generalize aOf (some r) 1 = Y9 at HS' HI' hsh
      generalize (lOf (some r)).length / 3 = N at HS' HI' hsh hle9
      generalize at3 (lOf (some r)) 0 = F9 at HS' HI' hsh
      generalize at3 (lOf (some r)) 1 = T9 at HS' HI' hsh
      generalize at3 (lOf (some r)) 2 = G9 at HS' HI' hsh
      go_wp2_with fail
      refine (HI' _).mono ?_
      rintro e wC ⟨aoH, capH, rfl, hOH, hbC⟩
      have hAC := below_next hAB (Nat.le_refl _) hbC
      go_wp2_with fail
      refine (HS' _).mono ?_
      rintro e wD ⟨aoW, capW, rfl, hrW, hbD⟩
      have hrH : Row wD aoH N F9 T9 G9 := (hOH.alloc _).below hbD (by simp)
      have h0 : wD.cell? ⟨wC.heap.size, 0, none⟩ = some (.int .i64 P) := by rw [hbD.cell (by simp)]; simp [go_sem]
      have h1 : wD.cell? ⟨wC.heap.size, 1, none⟩ = some (.slice aoH N capH) := by rw [hbD.cell (by simp)]; simp [go_sem]
      have h2 : wD.cell? ⟨wC.heap.size, 2, none⟩ = some (.int .i64 X9) := by rw [hbD.cell (by simp)]; simp [go_sem]
      have h3 : wD.cell? ⟨wC.heap.size, 3, none⟩ = some (.int .i64 Y9) := by rw [hbD.cell (by simp)]; simp [go_sem]
      have hAD : Below w.heap.size w wD := (hAC.alloc hAC.size _).trans (hbD.mono (by have := hAC.size; simp; omega))
      have hAl : ∀ o, Below wD.heap.size wD (wD.alloc o) := fun o => (Below.refl _ _).alloc (Nat.le_refl _) o
      have h0' := fun o => keep_cell (hAl o) (Nat.le_refl _) h0
      have h1' := fun o => keep_cell (hAl o) (Nat.le_refl _) h1
      have h2' := fun o => keep_cell (hAl o) (Nat.le_refl _) h2
      have h3' := fun o => keep_cell (hAl o) (Nat.le_refl _) h3
      have hLK := fun W (hw : Below wD.heap.size wD W) => likeCommand_same P aoH aoW N capH capW F9 T9 G9 X9 Y9 (by omega) W (hrH.below hw (Nat.le_refl _)) (hrW.below hw (Nat.le_refl _))
      clear h0 h1 h2 h3
      go_wp2_with fail
      refine (hLK _ (hAl _)).mono ?_
      rintro e wE ⟨rfl, hbE⟩
      have hBE : Below wD.heap.size wD wE := below_next (hAl _) (Nat.le_refl _) hbE
      have hAE := below_next hAD (Nat.le_refl _) hBE
      have e0 := keep_cell hbE (Nat.le_refl _) (h0' _)
      have e1 := keep_cell hbE (Nat.le_refl _) (h1' _)
      have e2 := keep_cell hbE (Nat.le_refl _) (h2' _)
      have e3 := keep_cell hbE (Nat.le_refl _) (h3' _)
      clear h0' h1' h2' h3' hLK hbE
      go_wp2_with fail
      refine (HSi _).mono ?_
      rintro e wE' ⟨rfl, rfl⟩
      go_wp2_with fail
      refine (HSs _).mono ?_
      rintro e wE'' ⟨rfl, rfl⟩
      have hSH := implShowC_any P aoH N capH F9 T9 G9 X9 Y9 (by omega) _ (hV.below hAE (Nat.le_refl _)) (hrH.below hBE (Nat.le_refl _))
      rw [hsh] at hSH
      go_wp2_with fail
      refine hSH.mono ?_
      rintro e wF ⟨rfl, hbF⟩
      go_wp2
      go_ret
      exact ⟨rfl, below_next hAE (Nat.le_refl _) hbF⟩
  | true =>
    obtain ⟨hLp, hLl⟩ := showC_some hgb
    obtain ⟨r1, hn1, hn2, hn3, hn4', hn5, hn6⟩ := read_showC hgb
    rw [hLe] at hLl hLp hn1
    have HI1 := fun W => readCI L hLl W
    rw [hn1] at HI1
    obtain ⟨x0, L', rfl⟩ : ∃ x0 L', L = x0 :: L' := by
      cases L with
      | nil => simp at hLp
      | cons a b => exact ⟨a, b, rfl⟩
    go_wp2_with fail
    refine (hGO _ hrG4).mono ?_
    rintro e w5 ⟨rfl, hb5⟩
    have hA5 := below_next hA4 (Nat.le_refl _) hb5
    have hrG5 := hrG4.below hb5 (Nat.le_refl _)
    have b05 := keep_cell hb5 (Nat.le_refl _) b04
    have b15 := keep_cell hb5 (Nat.le_refl _) b14
    have b25 := keep_cell hb5 (Nat.le_refl _) b24
    have b35 := keep_cell hb5 (Nat.le_refl _) b34
    go_wp2_with fail
    refine (HI1 _).mono ?_
    intro e wX hAns
    obtain ⟨aoX, capX, rfl, hrX, hbX⟩ := hAns.get
    rw [hn2, hn3, hn5, hn6]
    rw [hn3] at hrX
    replace hrX := hrX.congrC hn4'
    have hAX := below_next hA5 (Nat.le_refl _) hbX
    have hAl9 : ∀ o, Below wX.heap.size wX (wX.alloc o) := fun o => (Below.refl _ _).alloc (Nat.le_refl _) o
    have g0 := fun o => keep_cell (hAl9 o) (Nat.le_refl _) (keep_cell hbX (Nat.le_refl _) b05)
    have g1 := fun o => keep_cell (hAl9 o) (Nat.le_refl _) (keep_cell hbX (Nat.le_refl _) b15)
    have g2 := fun o => keep_cell (hAl9 o) (Nat.le_refl _) (keep_cell hbX (Nat.le_refl _) b25)
    have g3 := fun o => keep_cell (hAl9 o) (Nat.le_refl _) (keep_cell hbX (Nat.le_refl _) b35)
    have hrGX := hrG5.below hbX (Nat.le_refl _)
    have hLK1 := fun W (hw : Below wX.heap.size wX W) => likeCommand_same K aoX go k capX gc F T G a b (by omega) W (hrX.below hw (Nat.le_refl _)) (hrGX.below hw (Nat.le_refl _))
    clear HI1 b05 b15 b25 b35 hbX hn4' hAns
    simp only [Option.isSome_some]
    go_wp2_with fail
    refine (hLK1 _ (hAl9 _)).mono ?_
    rintro e wY ⟨rfl, hbY⟩
    have hAY : Below w.heap.size w wY := below_next (below_next hAX (Nat.le_refl _) (hAl9 _)) (Nat.le_refl _) hbY
    clear hLK1 hbY g0 g1 g2 g3
    go_wp2_with fail
    have hrA : ByRow wY wY.heap.size ao n := fun x hx => by
      obtain ⟨b, o, v, e, hb, hc⟩ := (hr.below hAY (Nat.le_refl _)) x hx
      exact ⟨b, o, v, e, by have := hAY.size; omega, hc⟩
    refine (drawReadCommand_any ao n cap hn4 _ hrA).mono ?_
    rintro e wB ⟨l, rfl, hl, hbB⟩
    have hAB := below_next hAY (Nat.le_refl _) hbB
    clear hrA hbB
    have HS := fun W => readCS l (by omega) W
    have HI := fun W => readCI l (by omega) W
    have HSs := fun W => sumCS l (by omega) W
    have HSi := fun W => sumCI l (by omega) W
    cases hres : onlyOk (rdS l) with
    | none =>
      rw [hres] at HS HI
      go_wp2_with fail
      refine (HI _).mono ?_
      intro e wC hAns
      obtain ⟨aoH, capH, rfl, _, hbC⟩ := hAns.get
      simp only [kOf, lOf, aOf, List.length_nil, Nat.zero_div, Option.isSome_none]
      have hAC := below_next hAB (Nat.le_refl _) hbC
      clear hAns
      go_wp2_with fail
      refine (HS _).mono ?_
      intro e wD hAns
      obtain ⟨aoW, capW, rfl, _, hbD⟩ := hAns.get
      simp only [kOf, lOf, aOf, List.length_nil, Nat.zero_div, Option.isSome_none]
      clear hAns
      have hrH : Row wD aoH 0 (fun _ => 0) (fun _ => 0) (fun _ => 0) := fun x hx => by omega
      have hrW : Row wD aoW 0 (fun _ => 0) (fun _ => 0) (fun _ => 0) := fun x hx => by omega
      have h0 : wD.cell? ⟨wC.heap.size, 0, none⟩ = some (.int .i64 0) := by rw [hbD.cell (by simp)]; simp [go_sem]
      have h1 : wD.cell? ⟨wC.heap.size, 1, none⟩ = some (.slice aoH 0 capH) := by rw [hbD.cell (by simp)]; simp [go_sem]
      have h2 : wD.cell? ⟨wC.heap.size, 2, none⟩ = some (.int .i64 0) := by rw [hbD.cell (by simp)]; simp [go_sem]
      have h3 : wD.cell? ⟨wC.heap.size, 3, none⟩ = some (.int .i64 0) := by rw [hbD.cell (by simp)]; simp [go_sem]
      have hAD : Below w.heap.size w wD := (hAC.alloc hAC.size _).trans (hbD.mono (by have := hAC.size; simp; omega))
      have hAl : ∀ o, Below wD.heap.size wD (wD.alloc o) := fun o => (Below.refl _ _).alloc (Nat.le_refl _) o
      have h0' := fun o => keep_cell (hAl o) (Nat.le_refl _) h0
      have h1' := fun o => keep_cell (hAl o) (Nat.le_refl _) h1
      have h2' := fun o => keep_cell (hAl o) (Nat.le_refl _) h2
      have h3' := fun o => keep_cell (hAl o) (Nat.le_refl _) h3
      have hLK := fun W (hw : Below wD.heap.size wD W) => likeCommand_same 0 aoH aoW 0 capH capW (fun _ => 0) (fun _ => 0) (fun _ => 0) 0 0 (by omega) W (hrH.below hw (Nat.le_refl _)) (hrW.below hw (Nat.le_refl _))
      clear h0 h1 h2 h3
      go_wp2_with fail
      refine (hLK _ (hAl _)).mono ?_
      rintro e wE ⟨rfl, hbE⟩
      have hBE : Below wD.heap.size wD wE := below_next (hAl _) (Nat.le_refl _) hbE
      have hAE := below_next hAD (Nat.le_refl _) hBE
      have e0 := keep_cell hbE (Nat.le_refl _) (h0' _)
      have e1 := keep_cell hbE (Nat.le_refl _) (h1' _)
      have e2 := keep_cell hbE (Nat.le_refl _) (h2' _)
      have e3 := keep_cell hbE (Nat.le_refl _) (h3' _)
      clear h0' h1' h2' h3' hLK hbE
      go_wp2_with fail
      refine (HSi _).mono ?_
      rintro e wE' ⟨rfl, rfl⟩
      go_wp2_with fail
      refine (HSs _).mono ?_
      rintro e wE'' ⟨rfl, rfl⟩
      go_wp2_with fail
      refine (likeCommand_same 0 aoH none 0 capH 0 (fun _ => 0) (fun _ => 0) (fun _ => 0) 0 0 (by omega) _ (fun x hx => by omega) (fun x hx => by omega)).mono ?_
      rintro e wF ⟨rfl, hbF⟩
      go_wp2
      go_ret
      exact ⟨rfl, below_next hAE (Nat.le_refl _) hbF⟩
    | some r =>
      have hsh := show_readC hres
      have hle9 := lOf_le hres
      rw [hres] at HS HI
      have HI' := fun W => (HI W).mono fun e w' h => h.get
      have HS' := fun W => (HS W).mono fun e w' h => h.get
      clear HI HS
      simp only [Option.isSome_some] at HI' HS'
      generalize kOf (some r) = P at HS' HI' hsh
      generalize aOf (some r) 0 = X9 at HS' HI' hsh
      generalize aOf (some r) 1 = Y9 at HS' HI' hsh
      generalize (lOf (some r)).length / 3 = N at HS' HI' hsh hle9
      generalize at3 (lOf (some r)) 0 = F9 at HS' HI' hsh
      generalize at3 (lOf (some r)) 1 = T9 at HS' HI' hsh
      generalize at3 (lOf (some r)) 2 = G9 at HS' HI' hsh
      go_wp2_with fail
      refine (HI' _).mono ?_
      rintro e wC ⟨aoH, capH, rfl, hOH, hbC⟩
      have hAC := below_next hAB (Nat.le_refl _) hbC
      go_wp2_with fail
      refine (HS' _).mono ?_
      rintro e wD ⟨aoW, capW, rfl, hrW, hbD⟩
      have hrH : Row wD aoH N F9 T9 G9 := (hOH.alloc _).below hbD (by simp)
      have h0 : wD.cell? ⟨wC.heap.size, 0, none⟩ = some (.int .i64 P) := by rw [hbD.cell (by simp)]; simp [go_sem]
      have h1 : wD.cell? ⟨wC.heap.size, 1, none⟩ = some (.slice aoH N capH) := by rw [hbD.cell (by simp)]; simp [go_sem]
      have h2 : wD.cell? ⟨wC.heap.size, 2, none⟩ = some (.int .i64 X9) := by rw [hbD.cell (by simp)]; simp [go_sem]
      have h3 : wD.cell? ⟨wC.heap.size, 3, none⟩ = some (.int .i64 Y9) := by rw [hbD.cell (by simp)]; simp [go_sem]
      have hAD : Below w.heap.size w wD := (hAC.alloc hAC.size _).trans (hbD.mono (by have := hAC.size; simp; omega))
      have hAl : ∀ o, Below wD.heap.size wD (wD.alloc o) := fun o => (Below.refl _ _).alloc (Nat.le_refl _) o
      have h0' := fun o => keep_cell (hAl o) (Nat.le_refl _) h0
      have h1' := fun o => keep_cell (hAl o) (Nat.le_refl _) h1
      have h2' := fun o => keep_cell (hAl o) (Nat.le_refl _) h2
      have h3' := fun o => keep_cell (hAl o) (Nat.le_refl _) h3
      have hLK := fun W (hw : Below wD.heap.size wD W) => likeCommand_same P aoH aoW N capH capW F9 T9 G9 X9 Y9 (by omega) W (hrH.below hw (Nat.le_refl _)) (hrW.below hw (Nat.le_refl _))
      clear h0 h1 h2 h3
      go_wp2_with fail
      refine (hLK _ (hAl _)).mono ?_
      rintro e wE ⟨rfl, hbE⟩
      have hBE : Below wD.heap.size wD wE := below_next (hAl _) (Nat.le_refl _) hbE
      have hAE := below_next hAD (Nat.le_refl _) hBE
      have e0 := keep_cell hbE (Nat.le_refl _) (h0' _)
      have e1 := keep_cell hbE (Nat.le_refl _) (h1' _)
      have e2 := keep_cell hbE (Nat.le_refl _) (h2' _)
      have e3 := keep_cell hbE (Nat.le_refl _) (h3' _)
      clear h0' h1' h2' h3' hLK hbE
      go_wp2_with fail
      refine (HSi _).mono ?_
      rintro e wE' ⟨rfl, rfl⟩
      go_wp2_with fail
      refine (HSs _).mono ?_
      rintro e wE'' ⟨rfl, rfl⟩
      have hSH := implShowC_any P aoH N capH F9 T9 G9 X9 Y9 (by omega) _ (hV.below hAE (Nat.le_refl _)) (hrH.below hBE (Nat.le_refl _))
      rw [hsh] at hSH
      go_wp2_with fail
      refine hSH.mono ?_
      rintro e wF ⟨rfl, hbF⟩
      go_wp2
      go_ret
      exact ⟨rfl, below_next hAE (Nat.le_refl _) hbF⟩

end Go.Proofs.YtcmeppjfjledfacDoor
