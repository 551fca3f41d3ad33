/-
  The program's ReadGraph.
-/
import Derived.Test.YtmnohgcjdhokdaeDoorRdQ
import Derived.Test.YtmnohgcjdhokdaeDoorArcL
import Derived.Test.YtmnohgcjdhokdaeDoorNumsR
import Derived.Test.YtmnohgcjdhokdaeDoorArcR
import Derived.Test.YtmnohgcjdhokdaeDoorBox22
import Derived.Test.YtmnohgcjdhokdaeDoorOkImpl
set_option linter.unusedVariables false
set_option linter.unusedSimpArgs false
namespace Go.Proofs.YtmnohgcjdhokdaeDoor
open Go.RowKit
attribute [local go_sem ↓] Go.wp_at_zero Go.wp_at_succ

def nG (ns : List Int) : Nat := (ns.length - 1) / 3
def triG (ns : List Int) : Nat → Int := ar (at3 ns 1) (at3 ns 2) (at3 ns 3)
def gfin (T : Option (List Int)) : Option (List Int) := match T with | some ns => if graphB (gd ns 0) (nG ns) (at3 ns 1) (at3 ns 2) (at3 ns 3) = true then some ns else none | none => none
/-- A map that is answered, and whether it is one. -/
def GAns (w w' : World) (e : Ending) (r : Option (List Int)) : Prop := match r with
  | some ns => ∃ ao cap, e = .returned (.tuple #[.agg #[.int .i64 (gd ns 0), .slice ao (nG ns) cap], .bool true]) ∧ OwnS w' w.heap.size ao (nG ns) (triG ns)
  | none => e = .returned (.tuple #[.agg #[.int .i64 0, .slice none 0 0], .bool false])
theorem triG0 (ns : List Int) (k : Nat) : triG ns (k * 3) = gd ns (3 * k + 1) := by unfold triG; rw [ar0]; rfl
theorem triG1 (ns : List Int) (k : Nat) : triG ns (k * 3 + 1) = gd ns (3 * k + 1 + 1) := by unfold triG; rw [ar1]; rfl
theorem triG2 (ns : List Int) (k : Nat) : triG ns (k * 3 + 2) = gd ns (3 * k + 1 + 2) := by unfold triG; rw [ar2]; rfl
theorem graph_new (w : World) (v0 v1 : Value) : VHas (w.alloc (.cells #[v0, v1] 29)) w.heap.size 29 2 (c2 v0 v1) := ⟨#[v0, v1], Go.Deep.blk_alloc_new _ _, by simp, fun j hj => by
  have : j = 0 ∨ j = 1 := by omega
  rcases this with rfl | rfl <;> rfl⟩
/-- A box that is written and read again. -/
theorem box_set {W : World} {b : Nat} {v0 v1 : Value} {f : Nat → Value} (h : VHas W b 29 2 f) : ((W.setCell ⟨b, 0, none⟩ v0).setCell ⟨b, 1, none⟩ v1).cell? ⟨b, 0, none⟩ = some v0 ∧ ((W.setCell ⟨b, 0, none⟩ v0).setCell ⟨b, 1, none⟩ v1).cell? ⟨b, 1, none⟩ = some v1 := by
  have h2 := (h.set 0 v0).set 1 v1
  exact ⟨h2.cell (j := 0) (by omega), h2.cell (j := 1) (by omega)⟩
theorem box_below {w W : World} {b : Nat} {v0 v1 : Value} (h : Below w.heap.size w W) (hb : w.heap.size ≤ b) : Below w.heap.size w ((W.setCell ⟨b, 0, none⟩ v0).setCell ⟨b, 1, none⟩ v1) := (h.setCell (p := ⟨b, 0, none⟩) hb v0).setCell (p := ⟨b, 1, none⟩) hb v1
set_option maxHeartbeats 2000000 in
theorem implReadGraph_any (s : ByteArray) (hs : s.size ≤ 1048576) (m : Int) (w : World) (hV : Vars w) (hM : w.cell? ⟨1, 0, none⟩ = some (.int .i64 m)) :
    Calls Tryd.prog 11 #[.string s] w fun e w' => GAns w w' e (gfin (iRead s.data.toList)) ∧ Below w.heap.size w w' := by
  obtain ⟨r, HR⟩ : ∃ r, Hid (r = gfin (iRead s.data.toList)) := ⟨_, rfl⟩
  rw [← HR.out]
  go_enter Tryd.func11, Tryd.ntmps11
  have hba : Below w.heap.size w (w.alloc (.cells #[.int .i64 0, .slice none 0 0] 29)) := (Below.refl _ _).alloc (Nat.le_refl _) _
  have g0 : (w.alloc (.cells #[.int .i64 0, .slice none 0 0] 29)).cell? ⟨w.heap.size, 0, none⟩ = some (.int .i64 0) := by simp [go_sem]
  have g1 : (w.alloc (.cells #[.int .i64 0, .slice none 0 0] 29)).cell? ⟨w.heap.size, 1, none⟩ = some (.slice none 0 0) := by simp [go_sem]
  have gz : ∀ o, (w.alloc (.cells #[.int .i64 0, .slice none 0 0] 29)).frozen? ⟨w.heap.size, o, none⟩ = false := fun o => by simp [go_sem]
  have hVa := hV.below hba
  have hMa := keep_cell hba (Nat.le_refl _) hM
  go_wp2_with fail
  refine (splitN_any s hs m _ hMa).mono ?_
  rintro e w1 ⟨L, g, gc, rfl, HL, hT, hg, hLs, hb1⟩
  replace g0 := keep_cell hb1 (Nat.le_refl _) g0
  replace g1 := keep_cell hb1 (Nat.le_refl _) g1
  have hB1 := below_next hba (Nat.le_refl _) hb1
  have hV1 := hVa.below hb1
  have hIR : Hid (r = gfin (if 301 < L.length ∨ L.length % 3 ≠ 1 then none else allN L)) := by
    show _ = _
    rw [HR.out]
    unfold iRead allN
    simp only [← HL.out, List.length_map, show rdNum = num1 from funext rdNum_is]
  clear HR HL
  obtain ⟨n, hn⟩ : ∃ n, n = L.length := ⟨_, rfl⟩
  rw [← hn]
  have HN : Hid (n = L.length) := hn
  clear hn
  by_cases hbad : 301 < n ∨ n % 3 ≠ 1
  · have HE : Hid (r = none) := by show _ = _; rw [hIR.out, if_pos (by rw [← HN.out]; exact hbad)]; rfl
    clear hIR
    have vR1 : VHas w1 w.heap.size 29 2 (c2 (.int .i64 0) (.slice none 0 0)) := (graph_new w _ _).next hb1
    have rz := fun j => vR1.frozen j
    obtain ⟨q0, q1⟩ := box_set (v0 := .int .i64 0) (v1 := .slice none 0 0) vR1
    rcases Nat.lt_or_ge 301 n with h301 | h301
    · have h1 : (301 : Int) < (n : Int) := by omega
      clear hbad
      go_wp2
      exact bodyPost_ret (v := .tuple #[.agg #[.int .i64 0, .slice none 0 0], .bool false]) (by simp [results, Tryd.results11, go_sem, q0, q1]) rfl ⟨by unfold GAns; rw [HE.out], box_below hB1 (Nat.le_refl _)⟩
    · have h1 : ¬ (301 : Int) < (n : Int) := by omega
      have h3 : ((n : Int) % 3 != 1) = true := by rw [bne_iff_ne]; omega
      clear hbad
      go_wp2
      exact bodyPost_ret (v := .tuple #[.agg #[.int .i64 0, .slice none 0 0], .bool false]) (by simp [results, Tryd.results11, go_sem, q0, q1]) rfl ⟨by unfold GAns; rw [HE.out], box_below hB1 (Nat.le_refl _)⟩
  · have h301 : ¬ (301 : Int) < (n : Int) := by omega
    have hm3 : (n : Int) % 3 = 1 := by omega
    have HB : Hid (n ≤ 301 ∧ n % 3 = 1) := ⟨by omega, by omega⟩
    clear hbad
    go_wp2_with fail
    refine (readNumbers_any g gc L n HN.out (by omega) hLs _ hT hV1).mono ?_
    rintro e w2 ⟨hA, hb2⟩
    replace g0 := keep_cell hb2 (Nat.le_refl _) g0
    replace g1 := keep_cell hb2 (Nat.le_refl _) g1
    have hB2 := below_next hB1 (Nat.le_refl _) hb2
    cases hN : allN L with
    | none =>
      have he : e = .returned (.tuple #[.slice none 0 0, .bool false]) := by unfold LAns at hA; rw [hN] at hA; exact hA
      subst he
      have HE : Hid (r = none) := by show _ = _; rw [hIR.out, if_neg (by rw [← HN.out]; have := HB.out; omega), hN]; rfl
      have vR2 : VHas w2 w.heap.size 29 2 (c2 (.int .i64 0) (.slice none 0 0)) := ((graph_new w _ _).next hb1).next hb2
      have rz := fun j => vR2.frozen j
      obtain ⟨q0, q1⟩ := box_set (v0 := .int .i64 0) (v1 := .slice none 0 0) vR2
      clear hIR hA hm3
      go_wp2
      exact bodyPost_ret (v := .tuple #[.agg #[.int .i64 0, .slice none 0 0], .bool false]) (by simp [results, Tryd.results11, go_sem, q0, q1]) rfl ⟨by unfold GAns; rw [HE.out], box_below hB2 (Nat.le_refl _)⟩
    | some ns =>
      obtain ⟨b, rfl, hbl, hI⟩ : ∃ b, e = .returned (.tuple #[.slice (some ⟨b, 0, none⟩) n n, .bool true]) ∧ w1.heap.size ≤ b ∧ IHas w2 b n (gd ns) := by
        unfold LAns at hA; rw [hN] at hA; rw [HN.out]; exact hA
      have c0 := hI.cell (j := 0) (by have := HB.out; omega)
      have hn0 : (0 : Int) < (n : Int) := by have := HB.out; omega
      have HR : Hid (r = gfin (some ns)) := by show _ = _; rw [hIR.out, if_neg (by rw [← HN.out]; have := HB.out; omega), hN]
      have HL : Hid (ns.length = n) := by show _ = _; unfold allN at hN; rw [mapM_len hN, List.length_map]; exact HN.out.symm
      have vR : VHas w2 w.heap.size 29 2 (c2 (.int .i64 0) (.slice none 0 0)) := ((graph_new w _ _).next hb1).next hb2
      clear hA hIR hN
      go_wp2
      clear hm3 h301 c0 g0 g1
      have hs2 := hB2.size
      have hs1 : w.heap.size + 1 ≤ w1.heap.size := by have := hb1.size; simp at this; omega
      have hs21 := hb2.size
      have hbl2 : b < w2.heap.size := hI.lt
      have hba2 : Below w2.heap.size w2 (w2.alloc (.cells #[.int .i64 (gd ns 0), .slice none 0 0] 29)) := (Below.refl _ _).alloc (Nat.le_refl _) _
      have vG0 := graph_new w2 (.int .i64 (gd ns 0)) (.slice none 0 0)
      have vR0 := vR.next hba2
      have hI0 := hI.below hba2 hI.lt
      have hB0 := below_next hB2 (Nat.le_refl _) hba2
      have hz0 : w2.heap.size + 1 ≤ (w2.alloc (.cells #[.int .i64 (gd ns 0), .slice none 0 0] 29)).heap.size := by simp
      generalize (w2.alloc (.cells #[.int .i64 (gd ns 0), .slice none 0 0] 29)) = X0 at vG0 vR0 hI0 hB0 hz0 ⊢
      clear hI vR hba2
      go_loopw [8] (fun x wr => ∃ (m k gc : Nat) (go : Option Addr), Hid (m = 3 * k + 1) ∧ m ≤ n ∧ x = .int .i64 m ∧ VHas wr w2.heap.size 29 2 (c2 (.int .i64 (gd ns 0)) (.slice go k gc)) ∧ VHas wr w.heap.size 29 2 (c2 (.int .i64 0) (.slice none 0 0)) ∧ OwnA wr (w2.heap.size + 1) go k gc (triG ns) ∧ IHas wr b n (gd ns) ∧ w2.heap.size + 1 ≤ wr.heap.size ∧ Below w.heap.size w wr) (fun x _ => n - (intOf x).toNat)
      case atStart => exact ⟨1, 0, 0, none, rfl, by have := HB.out; omega, rfl, vG0, vR0, OwnA.nil _ _ _, hI0, hz0, hB0⟩
      case round =>
        clear vG0 vR0 hI0 hB0 hz0
        obtain ⟨m, k, gc2, go, HM, hm, rfl, vG, vR, hO, hI, hsz, hB⟩ := hrel
        by_cases hlt : m < n
        · have hlt0 : (m : Int) < (n : Int) := by omega
          have hm2 : m + 2 < n := by have := HM.out; have := HB.out; omega
          have hmM := HM.out
          have hn9 : n ≤ 2000000 := by have := HB.out; omega
          have hk9 : k ≤ 10000000 := by omega
          have e0 : triG ns (k * 3) = gd ns m := by rw [hmM]; exact triG0 ns k
          have e1 : triG ns (k * 3 + 1) = gd ns (m + 1) := by rw [hmM]; exact triG1 ns k
          have e2 : triG ns (k * 3 + 2) = gd ns (m + 2) := by rw [hmM]; exact triG2 ns k
          clear hmM
          go_wp2_with fail
          refine region_arc (bx := 7) (nb := 5) (ix := 8) (q := 39) (bb := w2.heap.size) (rb := w.heap.size) (B := w2.heap.size + 1) (W0 := w) (by kernel_rfl) (Nat.le_of_ble_eq_true rfl) (by omega) (by omega) (by omega) (fun _ _ _ _ _ h => h) rfl rfl rfl hm2 hn9 hI e0 e1 e2 vG vR hO hk9 (by omega) (by omega) (by omega) (by omega) (by omega) hsz hB (by omega) (by omega) ?_
          intro X9 g' gc' z n2 n1 nO nI nz nB
          simp only [afin, Act.put, List.setIfInBounds_toArray, List.set_cons_zero, List.set_cons_succ, Nat.reduceAdd]
          clear vG vR hO hI hsz hB e0 e1 e2
          go_wp2_with fail
          go_roundw
          case rel => exact ⟨m + 3, k + 1, gc', some ⟨g', 0, none⟩, by show _ = _; have := HM.out; omega, by omega, by go_num, n2, n1, nO, nI, nz, nB⟩
          case measure => simp [intOf]; omega
        · have hlt0 : ¬ (m : Int) < (n : Int) := by omega
          have hmn : m = n := by omega
          have hnG : nG ns = k := by unfold nG; rw [HL.out]; have := HM.out; omega
          have HK : Hid (nG ns = k) := hnG
          clear hnG
          have s0 : wr.cell? ⟨w2.heap.size, 0, none⟩ = some (.int .i64 (gd ns 0)) := vG.cell (j := 0) (by omega)
          have s1 : wr.cell? ⟨w2.heap.size, 1, none⟩ = some (.slice go k gc2) := vG.cell (j := 1) (by omega)
          have hk9 : k ≤ 1048576 := by have := HM.out; have := HB.out; omega
          go_wp2_with fail
          refine (implGraphOk_any (gd ns 0) go k gc2 (at3 ns 1) (at3 ns 2) (at3 ns 3) hk9 _ (hO.owns.row)).mono ?_
          rintro e w3 ⟨rfl, hb3⟩
          replace s0 := keep_cell hb3 (Nat.le_refl _) s0
          replace s1 := keep_cell hb3 (Nat.le_refl _) s1
          replace vR := vR.next hb3
          have hOS := (hO.next hb3).owns
          have hB3 := below_next hB (Nat.le_refl _) hb3
          have rz := fun j => vR.frozen j
          have r0 := vR.cell (j := 0) (by omega)
          have r1 := vR.cell (j := 1) (by omega)
          cases hok : graphB (gd ns 0) k (at3 ns 1) (at3 ns 2) (at3 ns 3)
          · have HE : Hid (r = none) := by show _ = _; rw [HR.out]; unfold gfin; simp only; rw [HK.out, hok]; rfl
            obtain ⟨q0, q1⟩ := box_set (v0 := .int .i64 0) (v1 := .slice none 0 0) vR
            clear HR
            go_wp2
            exact bodyPost_ret (v := .tuple #[.agg #[.int .i64 0, .slice none 0 0], .bool false]) (by simp [results, Tryd.results11, go_sem, q0, q1]) rfl ⟨by unfold GAns; rw [HE.out], box_below hB3 (Nat.le_refl _)⟩
          · have HE : Hid (r = some ns) := by show _ = _; rw [HR.out]; unfold gfin; simp only; rw [HK.out, hok]; rfl
            obtain ⟨q0, q1⟩ := box_set (v0 := .int .i64 (gd ns 0)) (v1 := .slice go k gc2) vR
            have hOF : OwnS ((w3.setCell ⟨w.heap.size, 0, none⟩ (.int .i64 (gd ns 0))).setCell ⟨w.heap.size, 1, none⟩ (.slice go k gc2)) w.heap.size go k (triG ns) := fun j hj => by
              obtain ⟨b', e1, e2, e3⟩ := hOS j hj
              exact ⟨b', e1, by omega, e3.of_block (ret_block _ _ (by omega))⟩
            clear HR
            go_wp2
            exact bodyPost_ret (v := .tuple #[.agg #[.int .i64 (gd ns 0), .slice go k gc2], .bool true]) (by simp [results, Tryd.results11, go_sem, q0, q1]) rfl ⟨by unfold GAns; rw [HE.out]; simp only; rw [HK.out]; exact ⟨_, _, rfl, hOF⟩, box_below hB3 (Nat.le_refl _)⟩
end Go.Proofs.YtmnohgcjdhokdaeDoor
