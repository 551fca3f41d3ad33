/-
  Helpers, merged: LawMaps.
-/
import Derived.Test.YtcmeppjfjledfaaDoorPack3
import Derived.Test.YtcmeppjfjledfaaDoorPack4
import Derived.Test.YtcmeppjfjledfaaDoorPack5
import Derived.Test.YtcmeppjfjledfaaDoorPack2
/-
  The walk of the law FnMaps, at every list of bytes.
-/
set_option linter.unusedVariables false
set_option linter.unusedSimpArgs false
namespace Go.Proofs.YtcmeppjfjledfaaDoor
open Go.ChangeShapes Go.WideShapes Go.ChangeAt Go.RowKit Go.Deep Go.Joins
attribute [local go_sem ↓] Go.wp_at_zero Go.wp_at_succ

theorem owns_row {V : World} {ao : Option Addr} {n B : Nat} {F T G : Nat → Int} (h : OwnS V B ao n (ar F T G)) : Row V ao n F T G := (ARs.of h).row
theorem Row.congr3 {w : World} {ao : Option Addr} {n : Nat} {F T G F' T' G' : Nat → Int} (h : Row w ao n F T G) (e : ∀ k, k < n → F k = F' k ∧ T k = T' k ∧ G k = G' k) : Row w ao n F' T' G' := fun k hk => by
  obtain ⟨b, o, h1, h2, h3, h4⟩ := h k hk
  obtain ⟨e1, e2, e3⟩ := e k hk
  exact ⟨b, o, h1, by rw [h2, e1], by rw [h3, e2], by rw [h4, e3]⟩
theorem showG_pos {p : Int} {n : Nat} {F T G : Nat → Int} (h : graphB p n F T G = true) : 0 < (showG p n F T G).length := by
  unfold showG
  rw [if_pos h]
  exact showT_pos n
theorem showG_none {p : Int} {n : Nat} {F T G : Nat → Int} (h : graphB p n F T G = false) : showG p n F T G = [] := by
  unfold showG
  rw [if_neg (by rw [h]; simp)]
theorem dec9 {n : Int} (h0 : 0 ≤ n) (h1 : n ≤ 1000000) : (dec n).length ≤ 9 := dgt_len (by omega)
theorem showT_len9 {p : Int} {F T G : Nat → Int} (hp : 0 ≤ p ∧ p ≤ 1000000) : ∀ n, Small n F T G → (showT p F T G n).length ≤ 30 * (n + 1)
  | 0, _ => by have := dec9 hp.1 hp.2; simp [showT]; omega
  | n + 1, h => by
    have ih := showT_len9 hp n (fun k hk => h k (by omega))
    obtain ⟨a, b, c⟩ := h n (by omega)
    have a9 := dec9 a.1 a.2
    have b9 := dec9 b.1 b.2
    have c9 := dec9 c.1 c.2
    simp [showT, arcT]; omega
theorem showG_len {p : Int} {n : Nat} {F T G : Nat → Int} (h : graphB p n F T G = true) : (showG p n F T G).length ≤ 1048576 := by
  obtain ⟨h1, h2, h3⟩ := small_of h
  have := showT_len9 h2 n h3
  unfold showG
  rw [if_pos h]
  omega

theorem drawShow_any (ao : Option Addr) (n cap : Nat) (hn : n ≤ 4096) (w : World) (hr : ByRow w w.heap.size ao n) :
    Calls Tryd.prog 5 #[.slice ao n cap] w fun e w' => ∃ (p : Int) (go : Option Addr) (k gc : Nat), e = .returned (.agg #[.int .i64 p, .slice go k gc]) ∧ k ≤ 200 ∧ Drawn w w' go k ∧ Below w.heap.size w w' := by
  have hal0 := (Below.refl w.heap.size w).alloc (Nat.le_refl _) (.cells #[.int .i64 0, .slice none 0 0] 26)
  have hr0 : ByRow (w.alloc (.cells #[.int .i64 0, .slice none 0 0] 26)) (w.alloc (.cells #[.int .i64 0, .slice none 0 0] 26)).heap.size ao n := fun k hk => by
    obtain ⟨b, o, v, e, hb, hc⟩ := (hr.below hal0 (Nat.le_refl _)) k hk
    exact ⟨b, o, v, e, by simp; omega, hc⟩
  go_enter Tryd.func5, Tryd.ntmps5
  go_wp2_with fail
  refine (drawGraph_any ao n cap hn _ hr0).mono ?_
  rintro e w1 ⟨p, go, k, gc, rfl, hk, ⟨F, T, G, hrow, hblk⟩, hb1⟩
  have hrb1 := (gr_new w 0 (.slice none 0 0)).below hb1 (by simp)
  have hbel1 : Below w.heap.size w w1 := hal0.trans (hb1.mono (by simp))
  have r0 : w1.cell? ⟨w.heap.size, 0, none⟩ = some (.int .i64 0) := hrb1.cell (j := 0) (by omega)
  have r1 : w1.cell? ⟨w.heap.size, 1, none⟩ = some (.slice none 0 0) := hrb1.cell (j := 1) (by omega)
  have y0 := hrb1.frozen 0
  have y1 := hrb1.frozen 1
  obtain ⟨q0, q1, q2⟩ := res_cells hrb1 p (.slice go k gc)
  have hne : ∀ a, go = some a → 0 < k → some a.block ≠ some w.heap.size := fun a ha h0 => by
    have := hblk a ha h0
    simp at this ⊢
    omega
  have o1 : Drawn w ((w1.setCell ⟨w.heap.size, 0, none⟩ (.int .i64 p)).setCell ⟨w.heap.size, 1, none⟩ (.slice go k gc)) go k :=
    ⟨F, T, G, (hrow.otherB (gr_setCell _ _ _ _) hne).otherB (gr_setCell _ _ _ _) hne, fun a ha h0 => by have := hblk a ha h0; simp at this; omega⟩
  have o2 : Below w.heap.size w ((w1.setCell ⟨w.heap.size, 0, none⟩ (.int .i64 p)).setCell ⟨w.heap.size, 1, none⟩ (.slice go k gc)) := (hbel1.setCell (p := ⟨w.heap.size, 0, none⟩) (Nat.le_refl _) _).setCell (p := ⟨w.heap.size, 1, none⟩) (Nat.le_refl _) _
  clear hrb1 hr0 hb1 hal0 hrow
  go_wp2
  exact bodyPost_ret (v := .agg #[.int .i64 p, .slice go k gc]) (by simp [results, Tryd.results5, go_sem, q0, q1, q2]) rfl ⟨p, go, k, gc, rfl, hk, o1, o2⟩

theorem gd_nil : gd [] 0 = 0 := rfl
theorem nG_nil : nG [] = 0 := rfl
theorem nG_le {l : List UInt8} {ns : List Int} (h : gfin (sRead l) = some ns) : nG ns ≤ 100 := by
  unfold gfin at h
  split at h
  · split at h
    · next hh => injection h with h; subst h; exact (graphB_arcs hh).1
    · cases h
  · cases h
theorem readS_ex (l : List UInt8) (hl : l.length ≤ 1048576) (W : World) : Calls Tryd.prog 12 #[txt l] W fun e w' => ∃ ao cap, e = .returned (.tuple #[.agg #[.int .i64 (gd ((gfin (sRead l)).getD []) 0), .slice ao (nG ((gfin (sRead l)).getD [])) cap], .bool (gfin (sRead l)).isSome]) ∧ OwnS w' W.heap.size ao (nG ((gfin (sRead l)).getD [])) (ar (at3 ((gfin (sRead l)).getD []) 1) (at3 ((gfin (sRead l)).getD []) 2) (at3 ((gfin (sRead l)).getD []) 3)) ∧ Below W.heap.size W w' :=
  (specReadGraph_any ⟨l.toArray⟩ hl W).mono fun e w' h => h.1.ex h.2
theorem readI_ex (l : List UInt8) (hl : l.length ≤ 1048576) (m : Int) (W : World) (hV : Vars W) (hM : W.cell? ⟨1, 0, none⟩ = some (.int .i64 m)) : Calls Tryd.prog 9 #[txt l] W fun e w' => ∃ ao cap, e = .returned (.tuple #[.agg #[.int .i64 (gd ((gfin (sRead l)).getD []) 0), .slice ao (nG ((gfin (sRead l)).getD [])) cap], .bool (gfin (sRead l)).isSome]) ∧ OwnS w' W.heap.size ao (nG ((gfin (sRead l)).getD [])) (ar (at3 ((gfin (sRead l)).getD []) 1) (at3 ((gfin (sRead l)).getD []) 2) (at3 ((gfin (sRead l)).getD []) 3)) ∧ Below W.heap.size W w' :=
  (implReadGraph_any ⟨l.toArray⟩ hl m W hV hM).mono fun e w' h => by
    have h1 := h.1
    rw [gfin_same] at h1
    exact h1.ex h.2

set_option maxRecDepth 100000 in
set_option maxHeartbeats 8000000 in
theorem lawMaps_walk (ao : Option Addr) (n cap : Nat) (m : Int) (hn : n ≤ maxLen) (w : World) (hr : ByRow w w.heap.size ao n) (hV : Vars w) (hM : w.cell? ⟨1, 0, none⟩ = some (.int .i64 m)) :
    Calls Tryd.prog 3 #[.slice ao n cap] w fun e w' => e = .returned (.bool true) ∧ Below w.heap.size w w' := by
  unfold maxLen at hn
  have HBg := fun W => big_any ao n cap (by omega) W
  by_cases hbig : 4096 < n
  · simp only [hbig, decide_true] at HBg
    go_enter Tryd.func3, Tryd.ntmps3
    go_wp2_with fail
    refine (HBg _).mono ?_
    rintro e w0 ⟨rfl, hq⟩
    have hq' := hq.symm
    subst hq'
    clear hq
    go_wp2
    go_ret
    exact ⟨rfl, Below.refl _ _⟩
  simp only [hbig, decide_false] at HBg
  have hn4 : n ≤ 4096 := by omega
  go_enter Tryd.func3, Tryd.ntmps3
  go_wp2_with fail
  refine (HBg _).mono ?_
  rintro e w0 ⟨rfl, hq⟩
  have hq' := hq.symm
  subst hq'
  clear hq
  go_wp2_with fail
  refine (drawShow_any ao n cap hn4 _ hr).mono ?_
  rintro e w1 ⟨p, go, k, gc, rfl, hk, ⟨F, T, G, hrG, _⟩, hA1⟩
  have hal1 : Below w1.heap.size w1 (w1.alloc (.cells #[.int .i64 p, .slice go k gc] 26)) := (Below.refl _ _).alloc (Nat.le_refl _) _
  have hA2 := below_next hA1 (Nat.le_refl _) hal1
  have hrG2 := hrG.below hal1 (Nat.le_refl _)
  have b0 : (w1.alloc (.cells #[.int .i64 p, .slice go k gc] 26)).cell? ⟨w1.heap.size, 0, none⟩ = some (.int .i64 p) := by simp [go_sem]
  have b1 : (w1.alloc (.cells #[.int .i64 p, .slice go k gc] 26)).cell? ⟨w1.heap.size, 1, none⟩ = some (.slice go k gc) := by simp [go_sem]
  have hSI := fun W h1 h2 => implShow_any p go k gc F T G (by omega) W h1 h2
  have hSS := fun W h1 => specShow_any p go k gc F T G (by omega) W h1
  have hGO := fun W h1 => implGraphOk_any p go k gc F T G (by omega) W h1
  obtain ⟨L, hLe⟩ : ∃ L, showG p k F T G = L := ⟨_, rfl⟩
  obtain ⟨gb, hgb⟩ : ∃ gb, graphB p k F T G = gb := ⟨_, rfl⟩
  rw [hLe] at hSI hSS
  rw [hgb] at hGO
  have hV2 := hV.below hA2
  go_wp2_with fail
  generalize (w1.alloc (.cells #[.int .i64 p, .slice go k gc] 26)) = w2 at hal1 hA2 hrG2 b0 b1 hV2 ⊢
  have hbl := lt_of_cell b0
  refine (hSI _ hV2.tab hrG2).mono ?_
  rintro e w3 ⟨rfl, hb3⟩
  have hA3 := below_next hA2 (Nat.le_refl _) hb3
  have hV3 := hV2.below hb3
  have hrG3 := hrG2.below hb3 (Nat.le_refl _)
  have b03 := keep_cell hb3 (Nat.le_refl _) b0
  have b13 := keep_cell hb3 (Nat.le_refl _) b1
  clear hSI hb3 hrG2 hV2 b0 b1
  go_wp2_with fail
  refine (hSS _ hrG3).mono ?_
  rintro e w4 ⟨rfl, hb4⟩
  have hA4 := below_next hA3 (Nat.le_refl _) hb4
  have hV4 := hV3.below hb4
  have hrG4 := hrG3.below hb4 (Nat.le_refl _)
  have b04 := keep_cell hb4 (Nat.le_refl _) b03
  have b14 := keep_cell hb4 (Nat.le_refl _) b13
  clear hSS hb4 hrG3 hV3 b03 b13
  go_wp2_with fail
  refine (hGO _ hrG4).mono ?_
  rintro e w5 ⟨rfl, hb5⟩
  have hA5 := below_next hA4 (Nat.le_refl _) hb5
  have hV5 := hV4.below hb5
  have hrG5 := hrG4.below hb5 (Nat.le_refl _)
  have b05 := keep_cell hb5 (Nat.le_refl _) b04
  have b15 := keep_cell hb5 (Nat.le_refl _) b14
  clear hGO hb5 hrG4 hV4 b04 b14
  cases gb
  · obtain rfl : L = [] := by rw [← hLe]; exact showG_none hgb
    go_wp2_with fail
    have hrA : ByRow w5 w5.heap.size ao n := fun x hx => by
      obtain ⟨b, o, v, e, hb, hc⟩ := (hr.below hA5 (Nat.le_refl _)) x hx
      exact ⟨b, o, v, e, by have := hA5.size; omega, hc⟩
    refine (drawReadGraph_any ao n cap hn4 _ hrA).mono ?_
    rintro e wB ⟨l, rfl, hl, hbB⟩
    have hAB := below_next hA5 (Nat.le_refl _) hbB
    clear hrA hbB
    have HS := fun W => readS_ex l (by omega) W
    have HI := fun W h1 h2 => readI_ex l (by omega) m W h1 h2
    have hVB := hV.below hAB
    have hMB := keep_cell hAB (Nat.le_refl _) hM
    cases hres : gfin (sRead l) with
    | none =>
      rw [hres] at HS HI
      simp only [Option.getD_none, gd_nil, nG_nil, Option.isSome_none] at HS HI
      go_wp2_with fail
      refine (HI _ hVB hMB).mono ?_
      rintro e wC ⟨aoH, capH, rfl, _, hbC⟩
      have hAC := below_next hAB (Nat.le_refl _) hbC
      go_wp2_with fail
      refine (HS _).mono ?_
      rintro e wD ⟨aoW, capW, rfl, _, hbD⟩
      have hrH : Row wD aoH 0 (fun _ => 0) (fun _ => 0) (fun _ => 0) := fun x hx => by omega
      have hrW : Row wD aoW 0 (fun _ => 0) (fun _ => 0) (fun _ => 0) := fun x hx => by omega
      have h0 : wD.cell? ⟨wC.heap.size, 0, none⟩ = some (.int .i64 0) := by rw [hbD.cell (by simp)]; simp [go_sem]
      have h1 : wD.cell? ⟨wC.heap.size, 1, none⟩ = some (.slice aoH 0 capH) := by rw [hbD.cell (by simp)]; simp [go_sem]
      have hAD : Below w.heap.size w wD := (hAC.alloc hAC.size _).trans (hbD.mono (by have := hAC.size; simp; omega))
      have hAl : ∀ o, Below wD.heap.size wD (wD.alloc o) := fun o => (Below.refl _ _).alloc (Nat.le_refl _) o
      have h0' := fun o => keep_cell (hAl o) (Nat.le_refl _) h0
      have h1' := fun o => keep_cell (hAl o) (Nat.le_refl _) h1
      have hLK := fun W (hw : Below wD.heap.size wD W) => likeGraph_same 0 aoH aoW 0 capH capW (fun _ => 0) (fun _ => 0) (fun _ => 0) (by omega) W (hrH.below hw (Nat.le_refl _)) (hrW.below hw (Nat.le_refl _))
      clear h0 h1
      go_wp2_with fail
      refine (hLK _ (hAl _)).mono ?_
      rintro e wE ⟨rfl, hbE⟩
      have hBE : Below wD.heap.size wD wE := below_next (hAl _) (Nat.le_refl _) hbE
      have hAE := below_next hAD (Nat.le_refl _) hBE
      have e0 := keep_cell hbE (Nat.le_refl _) (h0' _)
      have e1 := keep_cell hbE (Nat.le_refl _) (h1' _)
      clear h0' h1' hLK hbE
      go_wp2_with fail
      refine (likeGraph_same 0 aoH none 0 capH 0 (fun _ => 0) (fun _ => 0) (fun _ => 0) (by omega) _ (fun x hx => by omega) (fun x hx => by omega)).mono ?_
      rintro e wF ⟨rfl, hbF⟩
      go_wp2
      go_ret
      exact ⟨rfl, below_next hAE (Nat.le_refl _) hbF⟩
    | some ns =>
      have hsh := show_read hres
      rw [hres] at HS HI
      simp only [Option.getD_some, Option.isSome_some] at HS HI
      have hle9 := nG_le hres
      generalize gd ns 0 = P at HS HI hsh
      generalize nG ns = N at HS HI hsh hle9
      generalize at3 ns 1 = F9 at HS HI hsh
      generalize at3 ns 2 = T9 at HS HI hsh
      generalize at3 ns 3 = G9 at HS HI hsh
      go_wp2_with fail
      refine (HI _ hVB hMB).mono ?_
      rintro e wC ⟨aoH, capH, rfl, hOH, hbC⟩
      have hAC := below_next hAB (Nat.le_refl _) hbC
      go_wp2_with fail
      refine (HS _).mono ?_
      rintro e wD ⟨aoW, capW, rfl, hOW, hbD⟩
      have hrH : Row wD aoH N F9 T9 G9 := ((owns_row hOH).alloc _).below hbD (by simp)
      have hrW : Row wD aoW N F9 T9 G9 := owns_row hOW
      have h0 : wD.cell? ⟨wC.heap.size, 0, none⟩ = some (.int .i64 P) := by rw [hbD.cell (by simp)]; simp [go_sem]
      have h1 : wD.cell? ⟨wC.heap.size, 1, none⟩ = some (.slice aoH N capH) := by rw [hbD.cell (by simp)]; simp [go_sem]
      have hAD : Below w.heap.size w wD := (hAC.alloc hAC.size _).trans (hbD.mono (by have := hAC.size; simp; omega))
      have hAl : ∀ o, Below wD.heap.size wD (wD.alloc o) := fun o => (Below.refl _ _).alloc (Nat.le_refl _) o
      have h0' := fun o => keep_cell (hAl o) (Nat.le_refl _) h0
      have h1' := fun o => keep_cell (hAl o) (Nat.le_refl _) h1
      have hLK := fun W (hw : Below wD.heap.size wD W) => likeGraph_same P aoH aoW N capH capW F9 T9 G9 (by omega) W (hrH.below hw (Nat.le_refl _)) (hrW.below hw (Nat.le_refl _))
      clear h0 h1
      go_wp2_with fail
      refine (hLK _ (hAl _)).mono ?_
      rintro e wE ⟨rfl, hbE⟩
      have hBE : Below wD.heap.size wD wE := below_next (hAl _) (Nat.le_refl _) hbE
      have hAE := below_next hAD (Nat.le_refl _) hBE
      have e0 := keep_cell hbE (Nat.le_refl _) (h0' _)
      have e1 := keep_cell hbE (Nat.le_refl _) (h1' _)
      clear h0' h1' hLK hbE
      have hSH := implShow_any P aoH N capH F9 T9 G9 (by omega) wE (hV.below hAE).tab (hrH.below hBE (Nat.le_refl _))
      rw [hsh] at hSH
      go_wp2_with fail
      refine hSH.mono ?_
      rintro e wF ⟨rfl, hbF⟩
      go_wp2
      go_ret
      exact ⟨rfl, below_next hAE (Nat.le_refl _) hbF⟩
  · have hLl := showG_len hgb
    have hLp := showG_pos hgb
    obtain ⟨ns1, hn1, hn2, hn3, hn4'⟩ := read_show hgb
    rw [hLe] at hLl hLp hn1
    have HI1 := readI_ex L hLl m w5 hV5 (keep_cell hA5 (Nat.le_refl _) hM)
    rw [hn1] at HI1
    simp only [Option.getD_some, Option.isSome_some] at HI1
    rw [hn2, hn3] at HI1
    clear hn1 hn2 hn3
    obtain ⟨x0, L', rfl⟩ : ∃ x0 L', L = x0 :: L' := by
      cases L with
      | nil => simp at hLp
      | cons a b => exact ⟨a, b, rfl⟩
    go_wp2_with fail
    refine HI1.mono ?_
    rintro e wX ⟨aoX, capX, rfl, hOX, hbX⟩
    have hrX := (owns_row hOX).congr3 hn4'
    have hAX := below_next hA5 (Nat.le_refl _) hbX
    have hAl9 : ∀ o, Below wX.heap.size wX (wX.alloc o) := fun o => (Below.refl _ _).alloc (Nat.le_refl _) o
    have g0 := fun o => keep_cell (hAl9 o) (Nat.le_refl _) (keep_cell hbX (Nat.le_refl _) b05)
    have g1 := fun o => keep_cell (hAl9 o) (Nat.le_refl _) (keep_cell hbX (Nat.le_refl _) b15)
    have hrGX := hrG5.below hbX (Nat.le_refl _)
    have hLK1 := fun W (hw : Below wX.heap.size wX W) => likeGraph_same p aoX go k capX gc F T G (by omega) W (hrX.below hw (Nat.le_refl _)) (hrGX.below hw (Nat.le_refl _))
    clear HI1 b05 b15 hOX hbX hn4'
    go_wp2_with fail
    refine (hLK1 _ (hAl9 _)).mono ?_
    rintro e wY ⟨rfl, hbY⟩
    have hAwY : Below w.heap.size w wY := below_next (below_next hAX (Nat.le_refl _) (hAl9 _)) (Nat.le_refl _) hbY
    clear hLK1 hbY g0 g1
    go_wp2_with fail
    have hrA : ByRow wY wY.heap.size ao n := fun x hx => by
      obtain ⟨b, o, v, e, hb, hc⟩ := (hr.below hAwY (Nat.le_refl _)) x hx
      exact ⟨b, o, v, e, by have := hAwY.size; omega, hc⟩
    refine (drawReadGraph_any ao n cap hn4 _ hrA).mono ?_
    rintro e wB ⟨l, rfl, hl, hbB⟩
    have hAB := below_next hAwY (Nat.le_refl _) hbB
    clear hrA hbB
    have HS := fun W => readS_ex l (by omega) W
    have HI := fun W h1 h2 => readI_ex l (by omega) m W h1 h2
    have hVB := hV.below hAB
    have hMB := keep_cell hAB (Nat.le_refl _) hM
    cases hres : gfin (sRead l) with
    | none =>
      rw [hres] at HS HI
      simp only [Option.getD_none, gd_nil, nG_nil, Option.isSome_none] at HS HI
      go_wp2_with fail
      refine (HI _ hVB hMB).mono ?_
      rintro e wC ⟨aoH, capH, rfl, _, hbC⟩
      have hAC := below_next hAB (Nat.le_refl _) hbC
      go_wp2_with fail
      refine (HS _).mono ?_
      rintro e wD ⟨aoW, capW, rfl, _, hbD⟩
      have hrH : Row wD aoH 0 (fun _ => 0) (fun _ => 0) (fun _ => 0) := fun x hx => by omega
      have hrW : Row wD aoW 0 (fun _ => 0) (fun _ => 0) (fun _ => 0) := fun x hx => by omega
      have h0 : wD.cell? ⟨wC.heap.size, 0, none⟩ = some (.int .i64 0) := by rw [hbD.cell (by simp)]; simp [go_sem]
      have h1 : wD.cell? ⟨wC.heap.size, 1, none⟩ = some (.slice aoH 0 capH) := by rw [hbD.cell (by simp)]; simp [go_sem]
      have hAD : Below w.heap.size w wD := (hAC.alloc hAC.size _).trans (hbD.mono (by have := hAC.size; simp; omega))
      have hAl : ∀ o, Below wD.heap.size wD (wD.alloc o) := fun o => (Below.refl _ _).alloc (Nat.le_refl _) o
      have h0' := fun o => keep_cell (hAl o) (Nat.le_refl _) h0
      have h1' := fun o => keep_cell (hAl o) (Nat.le_refl _) h1
      have hLK := fun W (hw : Below wD.heap.size wD W) => likeGraph_same 0 aoH aoW 0 capH capW (fun _ => 0) (fun _ => 0) (fun _ => 0) (by omega) W (hrH.below hw (Nat.le_refl _)) (hrW.below hw (Nat.le_refl _))
      clear h0 h1
      go_wp2_with fail
      refine (hLK _ (hAl _)).mono ?_
      rintro e wE ⟨rfl, hbE⟩
      have hBE : Below wD.heap.size wD wE := below_next (hAl _) (Nat.le_refl _) hbE
      have hAE := below_next hAD (Nat.le_refl _) hBE
      have e0 := keep_cell hbE (Nat.le_refl _) (h0' _)
      have e1 := keep_cell hbE (Nat.le_refl _) (h1' _)
      clear h0' h1' hLK hbE
      go_wp2_with fail
      refine (likeGraph_same 0 aoH none 0 capH 0 (fun _ => 0) (fun _ => 0) (fun _ => 0) (by omega) _ (fun x hx => by omega) (fun x hx => by omega)).mono ?_
      rintro e wF ⟨rfl, hbF⟩
      go_wp2
      go_ret
      exact ⟨rfl, below_next hAE (Nat.le_refl _) hbF⟩
    | some ns =>
      have hsh := show_read hres
      rw [hres] at HS HI
      simp only [Option.getD_some, Option.isSome_some] at HS HI
      have hle9 := nG_le hres
      generalize gd ns 0 = P at HS HI hsh
      generalize nG ns = N at HS HI hsh hle9
      generalize at3 ns 1 = F9 at HS HI hsh
      generalize at3 ns 2 = T9 at HS HI hsh
      generalize at3 ns 3 = G9 at HS HI hsh
      go_wp2_with fail
      refine (HI _ hVB hMB).mono ?_
      rintro e wC ⟨aoH, capH, rfl, hOH, hbC⟩
      have hAC := below_next hAB (Nat.le_refl _) hbC
      go_wp2_with fail
      refine (HS _).mono ?_
      rintro e wD ⟨aoW, capW, rfl, hOW, hbD⟩
      have hrH : Row wD aoH N F9 T9 G9 := ((owns_row hOH).alloc _).below hbD (by simp)
      have hrW : Row wD aoW N F9 T9 G9 := owns_row hOW
      have h0 : wD.cell? ⟨wC.heap.size, 0, none⟩ = some (.int .i64 P) := by rw [hbD.cell (by simp)]; simp [go_sem]
      have h1 : wD.cell? ⟨wC.heap.size, 1, none⟩ = some (.slice aoH N capH) := by rw [hbD.cell (by simp)]; simp [go_sem]
      have hAD : Below w.heap.size w wD := (hAC.alloc hAC.size _).trans (hbD.mono (by have := hAC.size; simp; omega))
      have hAl : ∀ o, Below wD.heap.size wD (wD.alloc o) := fun o => (Below.refl _ _).alloc (Nat.le_refl _) o
      have h0' := fun o => keep_cell (hAl o) (Nat.le_refl _) h0
      have h1' := fun o => keep_cell (hAl o) (Nat.le_refl _) h1
      have hLK := fun W (hw : Below wD.heap.size wD W) => likeGraph_same P aoH aoW N capH capW F9 T9 G9 (by omega) W (hrH.below hw (Nat.le_refl _)) (hrW.below hw (Nat.le_refl _))
      clear h0 h1
      go_wp2_with fail
      refine (hLK _ (hAl _)).mono ?_
      rintro e wE ⟨rfl, hbE⟩
      have hBE : Below wD.heap.size wD wE := below_next (hAl _) (Nat.le_refl _) hbE
      have hAE := below_next hAD (Nat.le_refl _) hBE
      have e0 := keep_cell hbE (Nat.le_refl _) (h0' _)
      have e1 := keep_cell hbE (Nat.le_refl _) (h1' _)
      clear h0' h1' hLK hbE
      have hSH := implShow_any P aoH N capH F9 T9 G9 (by omega) wE (hV.below hAE).tab (hrH.below hBE (Nat.le_refl _))
      rw [hsh] at hSH
      go_wp2_with fail
      refine hSH.mono ?_
      rintro e wF ⟨rfl, hbF⟩
      go_wp2
      go_ret
      exact ⟨rfl, below_next hAE (Nat.le_refl _) hbF⟩

end Go.Proofs.YtcmeppjfjledfaaDoor
