/-
  Helpers, merged: Map, DrawAp, DrawPl, StoB, FnBig, ShB, UnP, UnL, UnS, Nums, EqI, Steps, Room.
-/
import Derived.Test.YtokaechbmnbbiabGreatPack4
import Derived.Test.YtokaechbmnbbiabGreatPack1
import Derived.Maps.Own
import Derived.Maps.OwnOps
import Derived.Maps.OwnSet
import Derived.Maps.Views
import Derived.DeepKeys4
import Derived.Test.YtokaechbmnbbiabGreatPack5
import Derived.Laws.Tables
import Derived.Test.YtokaechbmnbbiabGreatPack2
import Derived.Deep.QuietTactic
import Derived.Test.YtokaechbmnbbiabGreatPack7
import Derived.Deep.AppendLies
import Derived.Test.YtokaechbmnbbiabGreatPack10
import Derived.Test.YtokaechbmnbbiabGreatPack9
import Derived.Laws.CopyOwn
import Derived.Laws.Rows
/-
  The map from an arc's ends to its number: what its keys read as, and what it holds after so many arcs.
-/
set_option linter.unusedVariables false
set_option linter.unusedSimpArgs false
namespace Go.Proofs.YtokaechbmnbbiabGreat
open Go.ChangeShapes Go.WideShapes Go.ChangeAt Go.RowKit Go.Maps

set_option maxRecDepth 100000 in
theorem Tryz.rowEnds : (113 : TypeId) < Tryz.prog.types.size := of_decide_eq_true (by kernel_rfl)
theorem Tryz.wideEnds : (match Tryz.prog.underlying 113 with | some (.array _ _) | some (.struct _) => true | _ => false) = true := by rw [Tryz.underlying113]
set_option maxRecDepth 100000 in
theorem Tryz.keyLaw : Keyed Tryz.prog 113 := Keyed.of_law (deep_law_laid Tryz.laidOut (m := 2) (by omega) Tryz.rowEnds (by kernel_rfl) Tryz.wideEnds)
theorem Tryz.keyType : Tryz.prog.keyType 113 = true := by kernel_rfl
theorem Tryz.cellsEnds : Tryz.prog.cellsOf 113 = 2 := by kernel_rfl
theorem Tryz.mapZero (w : World) : (zeroValue 3).run Tryz.prog w = .ok (.int .i64 0) w := by kernel_rfl
set_option maxRecDepth 100000 in
theorem Tryz.someTypes : ∃ m, Tryz.prog.types.size = m + 1 := ⟨_, (Nat.succ_pred_eq_of_pos (Nat.lt_of_le_of_lt (Nat.zero_le _) Tryz.rowEnds)).symm⟩

def kl (f t : Int) : Lit := .string (keyBytes [.int .i64 f, .int .i64 t])
set_option maxRecDepth 100000 in
theorem key_ends (f t : Int) (hf : (Lit.int .i64 f).wf = true) (ht : (Lit.int .i64 t).wf = true) : keyOf Tryz.prog 113 (.agg #[.int .i64 f, .int .i64 t]) = some (kl f t) := by
  exact key_two Tryz.underlying113 Tryz.keyType Tryz.cellsEnds Tryz.underlying2 Tryz.underlying2 rfl rfl Tryz.cellsInt Tryz.cellsInt (by decide) (by decide) Tryz.someTypes hf ht
theorem kl_inj {f t f' t' : Int} (hf : (Lit.int .i64 f).wf = true) (ht : (Lit.int .i64 t).wf = true) (hf' : (Lit.int .i64 f').wf = true) (ht' : (Lit.int .i64 t').wf = true) (h : kl f t = kl f' t') : f = f' ∧ t = t' := by
  have := Tryz.keyLaw.inj (key_ends f t hf ht) (by rw [h]; exact key_ends f' t' hf' ht')
  simpa using this
theorem kl_key (f t : Int) : WideAt.IsKeyLit (kl f t) := trivial

def nums (F T : Nat → Int) : Nat → DataW Unit
  | 0 => .map []
  | k + 1 => (nums F T k).put (kl (F k) (T k)) (.lit (.int .i64 (k : Int)))
theorem nums_isMap (F T : Nat → Int) : ∀ k, IsMap (nums F T k)
  | 0 => isMap_empty
  | k + 1 => (nums_isMap F T k).put _ _

def WfTo (F T : Nat → Int) (n : Nat) : Prop := ∀ k, k < n → (Lit.int .i64 (F k)).wf = true ∧ (Lit.int .i64 (T k)).wf = true

theorem nums_look (F T : Nat → Int) (a b : Int) (ha : (Lit.int .i64 a).wf = true) (hb : (Lit.int .i64 b).wf = true) : ∀ n, WfTo F T n →
    (Maps.has (nums F T n) (kl a b) = false ∧ ∀ k, k < n → ¬ (F k = a ∧ T k = b)) ∨
    ∃ k, k < n ∧ F k = a ∧ T k = b ∧ Maps.has (nums F T n) (kl a b) = true ∧ (nums F T n).atKey (kl a b) (.lit (.int .i64 0)) = .lit (.int .i64 (k : Int))
  | 0, _ => Or.inl ⟨rfl, fun k hk => by omega⟩
  | n + 1, hw => by
    by_cases h : F n = a ∧ T n = b
    · obtain ⟨rfl, rfl⟩ := h
      exact Or.inr ⟨n, by omega, rfl, rfl, has_put_same (nums_isMap F T n) (kl_key _ _) _, atKey_put_same (nums_isMap F T n) (kl_key _ _) _ _⟩
    · have hne : kl a b ≠ kl (F n) (T n) := fun e => by
        have := kl_inj ha hb (hw n (by omega)).1 (hw n (by omega)).2 e
        exact h ⟨this.1.symm, this.2.symm⟩
      rcases nums_look F T a b ha hb n (fun k hk => hw k (by omega)) with ⟨h1, h2⟩ | ⟨k, hk, h1, h2, h3, h4⟩
      · exact Or.inl ⟨by rw [nums, has_put_other hne]; exact h1, fun k hk => by
          by_cases e : k = n
          · subst e; exact h
          · exact h2 k (by omega)⟩
      · exact Or.inr ⟨k, by omega, h1, h2, by rw [nums, has_put_other hne]; exact h3, by rw [nums, atKey_put_other hne]; exact h4⟩

theorem make_map (n : Nat) (w : World) : (Instr.makeMap 96 (some (.int .i64 (n : Int)))).run Tryz.prog w = .ok (.map (some w.heap.size)) (w.alloc (.map #[] 0)) := by
  simp [Instr.makeMap, run_underlying Tryz.underlying96, asInt, asIntOf, newObj]
  rfl

end Go.Proofs.YtokaechbmnbbiabGreat

/-
  Arcs that are drawn: their rows, and that they lie apart from the cursor.
-/
set_option linter.unusedVariables false
set_option linter.unusedSimpArgs false
namespace Go.Proofs.YtokaechbmnbbiabGreat
open Go.RowKit Go.Maps Go.Deep Go.Joins

theorem AOwnE.wft {w : World} {base n cap : Nat} {ao : Option Addr} (h : AOwnE w base ao n cap) : ∃ F T G : Nat → Int, Row w ao n F T G ∧ WfTo F T n := by
  obtain ⟨F, T, G, h1, h2, _⟩ := h.rowW
  exact ⟨F, T, G, h1, h2⟩
theorem AOwnE.apart {w : World} {base n cap c : Nat} {ao : Option Addr} (h : AOwnE w base ao n cap) (hc : c < base) : ∃ F T G : Nat → Int, Row w ao n F T G ∧ WfTo F T n ∧ ∀ a, ao = some a → 0 < n → a.block ≠ c ∧ a.block < w.heap.size := by
  obtain ⟨F, T, G, h1, h2, h3⟩ := h.rowW
  refine ⟨F, T, G, h1, h2, fun a e hn => ?_⟩
  obtain ⟨g, e', hg⟩ := h3 hn
  rw [e] at e'
  cases e'
  obtain ⟨b, o, eb, c0, _⟩ := h1 0 hn
  rw [e] at eb
  cases eb
  have := lt_of_cell c0
  exact ⟨by show g ≠ c; omega, this⟩


end Go.Proofs.YtokaechbmnbbiabGreat

/-
  The document's draw of a place. What is drawn is told by existence alone.
-/
set_option linter.unusedVariables false
set_option linter.unusedSimpArgs false
namespace Go.Proofs.YtokaechbmnbbiabGreat
open Go.RowKit Go.Maps
attribute [local go_sem ↓] Go.wp_at_zero Go.wp_at_succ

theorem lit5W {W : World} {b : Nat} {a0 a1 a2 a3 a4 : Int} {t : TypeId} (h : W.heap[b]? = some (.cells #[.int .i64 a0, .int .i64 a1, .int .i64 a2, .int .i64 a3, .int .i64 a4] t (0, 0))) (h0 : (Lit.int .i64 a0).wf = true) (h1 : (Lit.int .i64 a1).wf = true) (h2 : (Lit.int .i64 a2).wf = true) (h3 : (Lit.int .i64 a3).wf = true) (h4 : (Lit.int .i64 a4).wf = true) {y : Nat} (hy : y < 5) : ∃ v, W.cell? ⟨b, y, none⟩ = some (.int .i64 v) ∧ (Lit.int .i64 v).wf = true := by
  have : y = 0 ∨ y = 1 ∨ y = 2 ∨ y = 3 ∨ y = 4 := by omega
  rcases this with rfl | rfl | rfl | rfl | rfl
  · exact ⟨a0, by simp [World.cell?, h], h0⟩
  · exact ⟨a1, by simp [World.cell?, h], h1⟩
  · exact ⟨a2, by simp [World.cell?, h], h2⟩
  · exact ⟨a3, by simp [World.cell?, h], h3⟩
  · exact ⟨a4, by simp [World.cell?, h], h4⟩
set_option maxHeartbeats 1000000 in
theorem l1DrawPlace_wf (base c : Nat) (ao : Option Addr) (n cap : Nat) (w : World) (hC : CurAt w base c ao n cap) :
    Calls Tryz.prog 62 #[.pointer (some ⟨c, 0, none⟩)] w fun e w' => ∃ x : Int, e = .returned (.int .i64 x) ∧ (Lit.int .i64 x).wf = true ∧ CurAt w' base c ao n cap ∧ w.grownBy w' (some c) := by
  have hcl := hC.lt
  go_enter Tryz.func62, Tryz.ntmps62
  go_wp2_with fail
  refine (l1Once_any base c ao n cap 20 (by omega) (by omega) _ hC).mono ?_
  rintro e w1 ⟨bx, rfl, hC1, hg1⟩
  have hs1 := hg1.size
  cases bx
  · go_wp2_with (go_at_call 64; refine (l1Below_any base c ao n cap 8 (by omega) (by omega) _ hC1).mono ?_; rintro e w2 ⟨x, rfl, hx, hC2, hg2⟩)
    go_ret
    exact ⟨_, rfl, wfA (by omega), hC2, hg1.trans hg2⟩
  · have hal := (Below.refl w1.heap.size w1).alloc (Nat.le_refl _) (.cells #[.int .i64 (-1), .int .i64 23, .int .i64 24, .int .i64 4611686018427387904, .int .i64 (-9223372036854775808)] 2)
    go_wp2_with fail
    refine (l1Below_any base c ao n cap 5 (by omega) (by omega) _ (hC1.next hal)).mono ?_
    rintro e w2 ⟨y, rfl, hy, hC2, hg2⟩
    obtain ⟨v, hv, hvw⟩ := lit5W ((hg2.block w1.heap.size (by simp) (by simp <;> omega)).trans (Go.Deep.blk_alloc_new _ _)) (wfA (by omega)) (wfA (by omega)) (wfA (by omega)) (wfA (by omega)) (wfA (by omega)) (show y < 5 by omega)
    have hy' : (y : Int) < 5 := by omega
    go_wp2
    go_ret
    exact ⟨_, rfl, hvw, hC2, (hg1.trans (World.grownBy_alloc _ _ _)).trans hg2⟩
end Go.Proofs.YtokaechbmnbbiabGreat

/-
  A struct of two cells stored into a box, in one step.
-/
set_option linter.unusedVariables false
set_option linter.unusedSimpArgs false
namespace Go.Proofs.YtokaechbmnbbiabGreat
open Go.RowKit Go.Maps Go.Deep Go.Joins
attribute [local go_sem ↓] Go.wp_at_zero Go.wp_at_succ

end Go.Proofs.YtokaechbmnbbiabGreat

/-
  What the laws over drawn inputs call: their helpers, and the bytes that came in.
-/
set_option linter.unusedVariables false
set_option linter.unusedSimpArgs false
namespace Go.Proofs.YtokaechbmnbbiabGreat
open Go.ChangeShapes Go.WideShapes Go.ChangeAt Go.RowKit Go.Deep Go.Joins
attribute [local go_sem ↓] Go.wp_at_zero Go.wp_at_succ

theorem big_any (ao : Option Addr) (n cap : Nat) (hn : n ≤ 9223372036854775807) (w : World) : Calls Tryz.prog 5 #[.slice ao n cap] w fun e w' => e = .returned (.bool (decide (4096 < n))) ∧ w' = w := by
  by_cases h : 4096 < n
  · have h' : 4096 < (n : Int) := by omega
    go_enter Tryz.func5, Tryz.ntmps5
    go_wp2
    go_ret
    exact ⟨ret_bool (by simp [h]), rfl⟩
  · have h' : ¬ 4096 < (n : Int) := by omega
    go_enter Tryz.func5, Tryz.ntmps5
    go_wp2
    go_ret
    exact ⟨ret_bool (by simp [h]), rfl⟩

set_option maxRecDepth 100000 in
theorem open_bytes {H : Type} {enc : TypeId × Value → H} {w : World} {base : Nat} {spare : Nat → Bool} {held : Bool} {fuel : Nat} {cs : List Value} {x : DataW H × List MemPlace}
    (h : DataW.trod enc Tryz.prog w base spare held fuel 22 cs = some x) :
    ∃ (ao : Option Addr) (n cap : Nat), cs = [.slice ao n cap] ∧ n ≤ maxLen ∧ ByRow w w.heap.size ao n := by
  rcases open_slice Tryz.underlying22 h with ⟨rfl, _⟩ | ⟨a, len, cap, m, n, D, Pl, rfl, hb, hl, hm, hmm, _, hx⟩
  · exact ⟨none, 0, 0, rfl, Nat.zero_le _, fun k hk => by omega⟩
  have hlm : len ≤ m := by rw [hmm]; split <;> omega
  have cells8 : Tryz.prog.cellsOf 5 = 1 := by kernel_rfl
  have each : ∀ i, i < len → ∃ q : Int, w.cell? (a.add i) = some (.int .u8 q) ∧ (Lit.int .u8 q).wf = true := by
    intro i hi
    obtain ⟨cs', h1, h2⟩ := hx i (by omega)
    rw [cells8] at h1
    obtain ⟨_, hlen, hcell⟩ := World.cells?_some h1
    match cs', hlen with
    | [v0], _ =>
      obtain ⟨q0, r0, _, f0⟩ := DataW.trod_int Tryz.underlying5 h2
      have e0 := hcell 0 (by omega)
      rw [add_add] at e0
      simp at r0
      subst r0
      exact ⟨q0, by simpa using e0, f0⟩
  refine ⟨some a, len, cap, rfl, by omega, fun k hk => ?_⟩
  obtain ⟨q, hq, hwf⟩ := each k hk
  obtain ⟨b, o, spot⟩ := a
  have hspot : spot = none := by
    obtain ⟨_, hq0, _⟩ := each 0 (by omega)
    have := World.cell?_spot hq0
    simpa [Addr.add] using this
  subst hspot
  rw [Addr.add_mid] at hq
  have h8 : 0 ≤ q ∧ q ≤ 255 := by
    have h1 : IntKind.min .u8 = 0 := by decide
    have h2 : IntKind.max .u8 = 255 := by decide
    simp only [Lit.wf, h1, h2, Bool.and_eq_true, decide_eq_true_eq] at hwf
    exact hwf
  exact ⟨b, o, q, rfl, lt_of_cell hq, hq, h8.1, h8.2⟩

theorem ByRow.up {w W : World} {ao : Option Addr} {n : Nat} (h : ByRow w w.heap.size ao n) (hb : Below w.heap.size w W) : ByRow W W.heap.size ao n := fun k hk => by
  obtain ⟨b, o, v, e, hlt, hc, hv⟩ := (h.below hb (Nat.le_refl _)) k hk
  exact ⟨b, o, v, e, Nat.lt_of_lt_of_le hlt hb.size, hc, hv⟩
theorem ans_row {W w' : World} {ao : Option Addr} {m : Nat} {D : Nat → Int} (h : 0 < m → ∃ g, ao = some ⟨g, 0, none⟩ ∧ W.heap.size ≤ g ∧ IHas w' g m D) : IRow w' ao m D := fun k hk => by
  obtain ⟨g, e, _, hI⟩ := h (by omega)
  subst e
  exact hI.row k hk

end Go.Proofs.YtokaechbmnbbiabGreat

/-
  A customized metric is right, plainly: no triangle makes an edge shorter.
-/
set_option linter.unusedVariables false
set_option linter.unusedSimpArgs false
namespace Go.Proofs.YtokaechbmnbbiabGreat

section
variable {k m : Nat} {L H : Nat → Int}
theorem runT_same {s : (Nat → Int) × (Nat → Int)} {j : Nat} : ∀ l : List Tr, (∀ t ∈ l, t.2.2 ≠ j) → (runT s l).1 j = s.1 j ∧ (runT s l).2 j = s.2 j := by
  intro l
  induction l generalizing s with
  | nil => intro _; exact ⟨rfl, rfl⟩
  | cons t l ih =>
    intro h
    have h0 := h t (by simp)
    have h1 := ih (s := stT s t) (fun x hx => h x (by simp [hx]))
    have e : runT s (t :: l) = runT (stT s t) l := rfl
    rw [e, h1.1, h1.2]
    refine ⟨?_, ?_⟩
    · show stU s t j = s.1 j
      unfold stU
      rw [if_neg (fun q => h0 q.symm)]
    · show (if j = t.2.2 then min (s.2 t.2.2) (dnT (stU s t) s.2 t) else s.2 j) = s.2 j
      rw [if_neg (fun q => h0 q.symm)]
theorem stT_le (s : (Nat → Int) × (Nat → Int)) (t : Tr) (j : Nat) : (stT s t).1 j ≤ s.1 j ∧ (stT s t).2 j ≤ s.2 j := by
  refine ⟨?_, ?_⟩
  · show stU s t j ≤ s.1 j
    unfold stU
    split
    · rename_i e; rw [e]; omega
    · exact Int.le_refl _
  · show (if j = t.2.2 then min (s.2 t.2.2) (dnT (stU s t) s.2 t) else s.2 j) ≤ s.2 j
    split
    · rename_i e; rw [e]; omega
    · exact Int.le_refl _
theorem runT_le {s : (Nat → Int) × (Nat → Int)} {j : Nat} : ∀ l : List Tr, (runT s l).1 j ≤ s.1 j ∧ (runT s l).2 j ≤ s.2 j := by
  intro l
  induction l generalizing s with
  | nil => exact ⟨Int.le_refl _, Int.le_refl _⟩
  | cons t l ih =>
    have h1 := ih (s := stT s t)
    have h2 := stT_le s t j
    have e : runT s (t :: l) = runT (stT s t) l := rfl
    rw [e]
    omega
def Sorted (L : Nat → Int) : List Tr → Prop
  | [] => True
  | t :: l => (∀ x ∈ l, L t.1 ≤ L x.1) ∧ Sorted L l
theorem sorted_append {L : Nat → Int} : ∀ l l' : List Tr, Sorted L l → Sorted L l' → (∀ x ∈ l, ∀ y ∈ l', L x.1 ≤ L y.1) → Sorted L (l ++ l')
  | [], l', _, h2, _ => h2
  | t :: l, l', h1, h2, h3 => ⟨fun x hx => by
      rcases List.mem_append.1 hx with q | q
      · exact h1.1 x q
      · exact h3 t (by simp) x q, sorted_append l l' h1.2 h2 (fun x hx y hy => h3 x (by simp [hx]) y hy)⟩
theorem rowT_fst {n i : Nat} : ∀ f q, ∀ t ∈ rowT n L H i f q, t.1 = i
  | 0, q, t, ht => by simp [rowT] at ht
  | f + 1, q, t, ht => by
    unfold rowT at ht
    split at ht
    · rcases List.mem_cons.1 ht with e | e
      · rw [e]
      · exact rowT_fst f (q + 1) t e
    · simp at ht
theorem rowT_sorted {n i : Nat} : ∀ f q, Sorted L (rowT n L H i f q)
  | 0, q => by simp [rowT, Sorted]
  | f + 1, q => by
    unfold rowT
    split
    · exact ⟨fun x hx => by rw [rowT_fst f (q + 1) x hx]; exact Int.le_refl _, rowT_sorted f (q + 1)⟩
    · trivial
theorem allT_fst {n : Nat} : ∀ i, ∀ t ∈ allT n L H i, t.1 < i
  | 0, t, ht => by simp [allT] at ht
  | i + 1, t, ht => by
    unfold allT at ht
    rcases List.mem_append.1 ht with e | e
    · have := allT_fst i t e; omega
    · rw [rowT_fst _ _ t e]; omega
theorem allT_sorted {p : Int} (he : edB p L H m = true) : ∀ i, i ≤ m → Sorted L (allT m L H i)
  | 0, _ => by simp [allT, Sorted]
  | i + 1, hi => by
    unfold allT
    refine sorted_append _ _ (allT_sorted he i (by omega)) (rowT_sorted _ _) (fun x hx y hy => ?_)
    have h1 := allT_fst i x hx
    rw [rowT_fst _ _ y hy]
    have := ed_rise m he i (by omega) x.1 h1
    omega
theorem runT_ok {s : (Nat → Int) × (Nat → Int)} (hE : ∀ i, i < m → 0 ≤ L i ∧ L i < H i ∧ H i < (k : Int)) : ∀ l : List Tr, (∀ t ∈ l, TOk m L H t) → Sorted L l → ∀ t ∈ l, okT (runT s l).1 (runT s l).2 t := by
  intro l
  induction l generalizing s with
  | nil => intro _ _ t ht; simp at ht
  | cons x l ih =>
    intro h1 h2 t ht
    have e : runT s (x :: l) = runT (stT s x) l := rfl
    rw [e]
    rcases List.mem_cons.1 ht with q | q
    · subst q
      obtain ⟨a1, a2, a3, a4, a5, a6, a7⟩ := h1 t (by simp)
      have fix : ∀ j, j < m → L j = L t.1 → (runT (stT s t) l).1 j = (stT s t).1 j ∧ (runT (stT s t) l).2 j = (stT s t).2 j := fun j hj hL => runT_same l (fun y hy e => by
        obtain ⟨b1, b2, b3, b4, b5, b6, b7⟩ := h1 y (by simp [hy])
        have c1 := h2.1 y hy
        have c2 := hE y.1 b1
        rw [← e] at hL
        omega)
      have g1 := fix t.1 a1 rfl
      have g2 := fix t.2.1 a2 a5
      have g3 := runT_le (s := stT s t) (j := t.2.2) l
      have n1 : t.1 ≠ t.2.2 := fun e => by have := hE t.1 a1; rw [← e] at a6; omega
      have n2 : t.2.1 ≠ t.2.2 := fun e => by have := hE t.1 a1; rw [← e] at a6; omega
      have u1 : (stT s t).1 t.2.1 = s.1 t.2.1 := by show stU s t t.2.1 = _; unfold stU; rw [if_neg n2]
      have u2 : (stT s t).1 t.1 = s.1 t.1 := by show stU s t t.1 = _; unfold stU; rw [if_neg n1]
      have v1 : (stT s t).2 t.1 = s.2 t.1 := by show (if t.1 = t.2.2 then min (s.2 t.2.2) (dnT (stU s t) s.2 t) else s.2 t.1) = _; rw [if_neg n1]
      have v2 : (stT s t).2 t.2.1 = s.2 t.2.1 := by show (if t.2.1 = t.2.2 then min (s.2 t.2.2) (dnT (stU s t) s.2 t) else s.2 t.2.1) = _; rw [if_neg n2]
      have u3 : (stT s t).1 t.2.2 ≤ upT s.1 s.2 t := by show stU s t t.2.2 ≤ _; unfold stU; rw [if_pos rfl]; omega
      have v3 : (stT s t).2 t.2.2 ≤ dnT (stU s t) s.2 t := by show (if t.2.2 = t.2.2 then min (s.2 t.2.2) (dnT (stU s t) s.2 t) else s.2 t.2.2) ≤ _; rw [if_pos rfl]; omega
      have w2 : stU s t t.1 = s.1 t.1 := u2
      unfold okT upT dnT
      unfold upT at u3
      unfold dnT at v3
      rw [w2] at v3
      rw [g1.1, g1.2, g2.1, g2.2, u1, u2, v1, v2]
      omega
    · exact ih (s := stT s x) (fun y hy => h1 y (by simp [hy])) h2.2 t q
end

end Go.Proofs.YtokaechbmnbbiabGreat

/-
  Plain: the way of an edge, as the document unpacks it and as the program's stack does.
-/
set_option linter.unusedVariables false
set_option linter.unusedSimpArgs false
namespace Go.Proofs.YtokaechbmnbbiabGreat

structure Net where
  hs : Nat → Nat → Bool
  D : Nat → Nat → Int
  U : Nat → Nat → Int
  O : Nat → Int
  lw : Int → Int → Int
def frR (lo hi : Nat) (up : Bool) : Nat := if up = true then lo else hi
def toR (lo hi : Nat) (up : Bool) : Nat := if up = true then hi else lo
def Net.wt (x : Net) (lo hi : Nat) (up : Bool) : Int := if up = true then x.U lo hi else x.D lo hi
def Net.isA (x : Net) (lo hi : Nat) (up : Bool) : Bool := decide (x.lw (x.O (frR lo hi up)) (x.O (toR lo hi up)) = x.wt lo hi up)
def addF (a b : Int) : Int := min 1000000000000 (a + b)
def Net.fit (x : Net) (lo hi : Nat) (up : Bool) (w : Nat) : Bool := (x.hs w (frR lo hi up) && x.hs w (toR lo hi up)) && decide (addF (x.D w (frR lo hi up)) (x.U w (toR lo hi up)) = x.wt lo hi up)
def Net.fst (x : Net) (lo hi : Nat) (up : Bool) : Option Nat := (List.range lo).find? (x.fit lo hi up)
theorem Net.fst_lt {x : Net} {lo hi w : Nat} {up : Bool} (h : x.fst lo hi up = some w) : w < lo := by
  have := List.mem_of_find?_eq_some h
  simpa using this
theorem Net.fst_fit {x : Net} {lo hi w : Nat} {up : Bool} (h : x.fst lo hi up = some w) : x.fit lo hi up w = true := List.find?_some h
def Net.half (x : Net) (lo hi : Nat) (up : Bool) : Option Nat := if x.isA lo hi up = true then none else x.fst lo hi up
theorem Net.half_lt {x : Net} {lo hi w : Nat} {up : Bool} (h : x.half lo hi up = some w) : w < lo := by
  unfold Net.half at h
  split at h
  · cases h
  · exact x.fst_lt h
theorem Net.half_fit {x : Net} {lo hi w : Nat} {up : Bool} (h : x.half lo hi up = some w) : x.fit lo hi up w = true := by
  unfold Net.half at h
  split at h
  · cases h
  · exact x.fst_fit h
def Net.wy (x : Net) (lo hi : Nat) (up : Bool) : List Int :=
  match h : x.half lo hi up with
  | some w => x.wy w (frR lo hi up) false ++ x.wy w (toR lo hi up) true
  | none => [x.O (toR lo hi up)]
termination_by lo
decreasing_by
  · exact x.half_lt h
  · exact x.half_lt h
theorem Net.wy_some {x : Net} {lo hi w : Nat} {up : Bool} (h : x.half lo hi up = some w) : x.wy lo hi up = x.wy w (frR lo hi up) false ++ x.wy w (toR lo hi up) true := by
  rw [Net.wy]
  split
  · next w' h' => rw [h] at h'; cases h'; rfl
  · next h' => rw [h] at h'; cases h'
theorem Net.wy_none {x : Net} {lo hi : Nat} {up : Bool} (h : x.half lo hi up = none) : x.wy lo hi up = [x.O (toR lo hi up)] := by
  rw [Net.wy]
  split
  · next w' h' => rw [h] at h'; cases h'
  · rfl
theorem Net.wy_len (x : Net) : ∀ (lo hi : Nat) (up : Bool), 1 ≤ (x.wy lo hi up).length ∧ (x.wy lo hi up).length ≤ 2 ^ lo := by
  intro lo
  induction lo using Nat.strongRecOn with
  | ind lo ih =>
    intro hi up
    cases h : x.half lo hi up with
    | none =>
      rw [Net.wy_none h]
      exact ⟨by simp, by simpa using Nat.one_le_two_pow⟩
    | some w =>
      rw [Net.wy_some h]
      have hw := x.half_lt h
      have h1 := ih w hw (frR lo hi up) false
      have h2 := ih w hw (toR lo hi up) true
      have h3 : 2 ^ (w + 1) ≤ 2 ^ lo := Nat.pow_le_pow_right (by omega) (by omega)
      rw [Nat.pow_succ] at h3
      simp only [List.length_append]
      omega
def Net.rest (x : Net) : List (Nat × Nat × Bool) → List Int
  | [] => []
  | s :: st => x.wy s.1 s.2.1 s.2.2 ++ x.rest st
def Net.todo (x : Net) : List (Nat × Nat × Bool) → Nat
  | [] => 0
  | s :: st => (2 * (x.wy s.1 s.2.1 s.2.2).length - 1) + x.todo st
theorem Net.rest_some {x : Net} {lo hi w : Nat} {up : Bool} {st : List (Nat × Nat × Bool)} (h : x.half lo hi up = some w) : x.rest ((lo, hi, up) :: st) = x.rest ((w, frR lo hi up, false) :: (w, toR lo hi up, true) :: st) := by
  simp [Net.rest, Net.wy_some h]
theorem Net.rest_none {x : Net} {lo hi : Nat} {up : Bool} {st : List (Nat × Nat × Bool)} (h : x.half lo hi up = none) : x.rest ((lo, hi, up) :: st) = x.O (toR lo hi up) :: x.rest st := by
  simp [Net.rest, Net.wy_none h]
theorem Net.todo_some {x : Net} {lo hi w : Nat} {up : Bool} {st : List (Nat × Nat × Bool)} (h : x.half lo hi up = some w) : x.todo ((w, frR lo hi up, false) :: (w, toR lo hi up, true) :: st) < x.todo ((lo, hi, up) :: st) := by
  have h1 := (x.wy_len w (frR lo hi up) false).1
  have h2 := (x.wy_len w (toR lo hi up) true).1
  simp only [Net.todo, Net.wy_some h, List.length_append]
  omega
theorem Net.todo_none {x : Net} {lo hi : Nat} {up : Bool} {st : List (Nat × Nat × Bool)} (h : x.half lo hi up = none) : x.todo st < x.todo ((lo, hi, up) :: st) := by
  simp only [Net.todo, Net.wy_none h, List.length_singleton]
  omega
theorem addF_lt {a b c : Int} (h : addF a b = c) (hc : c < 1000000000000) (ha : 0 ≤ a) (hb : 0 ≤ b) : a < 1000000000000 ∧ b < 1000000000000 := by
  unfold addF at h
  omega
theorem Net.fst_step {x : Net} {lo hi : Nat} {up : Bool} {w : Nat} (hw : w < lo) (hno : ∀ v, v < w → x.fit lo hi up v = false) (hy : x.fit lo hi up w = true) : x.fst lo hi up = some w := by
  unfold Net.fst
  rw [List.find?_eq_some_iff_getElem]
  refine ⟨hy, w, by simpa using hw, by simp, fun j hj => ?_⟩
  simp [hno j hj]
theorem Net.fst_end {x : Net} {lo hi : Nat} {up : Bool} (hno : ∀ v, v < lo → x.fit lo hi up v = false) : x.fst lo hi up = none := by
  unfold Net.fst
  rw [List.find?_eq_none]
  intro v hv
  simp only [List.mem_range] at hv
  simp [hno v hv]

end Go.Proofs.YtokaechbmnbbiabGreat

/-
  A list of numbers of the call's own, told as a list, that grows by many.
-/
set_option linter.unusedVariables false
set_option linter.unusedSimpArgs false
namespace Go.Proofs.YtokaechbmnbbiabGreat
open Go.RowKit Go.Deep

def lcells (l : List Int) : List Value := l.map (.int .i64 ·)
def LOwn (w : World) (base : Nat) (go : Option Addr) (cap : Nat) (l : List Int) : Prop := w.ownsRow base 2 1 (.slice go l.length cap) l.length (lcells l)
theorem lcells_icells (l : List Int) : lcells l = icells (fun j => l.getD j 0) l.length := by
  apply List.ext_getElem?
  intro j
  by_cases hj : j < l.length
  · rw [icells_at hj]
    simp [lcells, hj]
  · rw [List.getElem?_eq_none (by simp [lcells]; omega), List.getElem?_eq_none (by simp [icells]; omega)]
theorem LOwn.ownE {w : World} {base cap : Nat} {go : Option Addr} {l : List Int} (h : LOwn w base go cap l) : OwnE w base go l.length cap (fun j => l.getD j 0) := by
  unfold LOwn at h
  rw [lcells_icells] at h
  exact h
theorem LOwn.of_ownE {w : World} {base cap : Nat} {go : Option Addr} {l : List Int} (h : OwnE w base go l.length cap (fun j => l.getD j 0)) : LOwn w base go cap l := by
  unfold LOwn
  rw [lcells_icells]
  exact h
theorem LOwn.next {w w' : World} {base cap : Nat} {go : Option Addr} {l : List Int} (h : LOwn w base go cap l) (hb : Below w.heap.size w w') : LOwn w' base go cap l := .of_ownE (h.ownE.next hb)
theorem LOwn.at {w : World} {base cap x : Nat} {go : Option Addr} {l : List Int} (h : LOwn w base go cap l) (e : (Value.slice go l.length cap).ownBlock = some x) : base ≤ x ∧ x < w.heap.size := World.ownsRow.lt h x e
theorem LOwn.from {w : World} {base base' cap : Nat} {go : Option Addr} {l : List Int} (h : LOwn w base go cap l) (hb : base' ≤ base) : LOwn w base' go cap l := by
  obtain ⟨hl, h0 | ⟨g', cap', cur, hv, hb', rest⟩⟩ := h
  · exact ⟨hl, .inl h0⟩
  · exact ⟨hl, .inr ⟨g', cap', cur, hv, Nat.le_trans hb hb', rest⟩⟩
theorem LOwn.grown {w w' : World} {base cap : Nat} {go : Option Addr} {l : List Int} {row : Option Nat} (h : LOwn w base go cap l) (hg : w.grownBy w' row) (hne : ∀ x, (Value.slice go l.length cap).ownBlock = some x → row ≠ some x) : LOwn w' base go cap l := .of_ownE (h.ownE.grown hg hne)
theorem LOwn.cells {w : World} {base cap : Nat} {go : Option Addr} {l : List Int} (h : LOwn w base go cap l) (hl : 0 < l.length) : ∃ g, go = some ⟨g, 0, none⟩ ∧ base ≤ g ∧ g < w.heap.size ∧ ∀ j u, l[j]? = some u → w.cell? ⟨g, j, none⟩ = some (.int .i64 u) := by
  obtain ⟨g, e, hb, hh⟩ := h.ownE.has hl
  refine ⟨g, e, hb, hh.lt, fun j u hu => ?_⟩
  have hj : j < l.length := (List.getElem?_eq_some_iff.1 hu).1
  have := hh.cell hj
  rw [this]
  simp [List.getD_eq_getElem?_getD, hu]
theorem LOwn.cap {w : World} {base g cap : Nat} {l : List Int} (h : LOwn w base (some ⟨g, 0, none⟩) cap l) : l.length ≤ cap := by
  rcases h.2 with ⟨e, _⟩ | ⟨g', cap', cur, e, _, _, h2, _⟩
  · cases e
  · simp only [Value.slice.injEq, Option.some.injEq, Addr.mk.injEq, and_true, true_and] at e
    obtain ⟨rfl, rfl⟩ := e
    exact h2
theorem wp_appL {o : Oper} {a : Act} {w : World} {K : Act → World → Prop} {Q : Exit → Act → World → Prop} (s x : Operand)
    (ho : o.op = .call { callee := .builtin .append, args := #[s, x], argTypes := #[27, 27] }) (d : Nat) (hd : o.dst = some d) (base gc : Nat) (go : Option Addr) (l l2 : List Int) (hs : a.eval s = .slice go l.length gc) (hown : LOwn w base go gc l) (b i m c : Nat) (hm : l2.length = m) (hx : a.eval x = .slice (some ⟨b, i, none⟩) m c)
    (h0 : ∀ j u, l2[j]? = some u → w.cell? ⟨b, i + j, none⟩ = some (.int .i64 u)) (hk0 : 0 < m) (hk : l.length ≤ 1000000000) (hk2 : m ≤ 1000000000) (hbase : base ≤ w.heap.size)
    (h : ∀ g' gc' w', LOwn w' base (some ⟨g', 0, none⟩) gc' (l ++ l2) → w.grownBy w' (Value.slice go l.length gc).ownBlock → ((Value.slice go l.length gc).ownBlock = some g' ∨ g' = w.heap.size) → K (a.put (some d) (.slice (some ⟨g', 0, none⟩) (l.length + m) gc')) w') : o.wp Tryz.prog a w K Q := by
  obtain ⟨i0, hi0, hz0, hz1, hz2⟩ := info_parts Tryz.infoInt
  subst hm
  refine wp_append_lies w s x 27 ho base 2 i0 _ 1 8 Tryz.underlying27 hi0 hz0 hz1 hz2 rfl (by omega) _ l.length (lcells l) hs hown ⟨b, i, none⟩ l2.length c (lcells l2) hx (by simp [lcells]) ?_ ?_ hk0 (by unfold maxLen; omega) (by omega) hbase w.heap.size rfl ?_
  · intro j u hu
    simp only [lcells, List.getElem?_map, Option.map_eq_some_iff] at hu
    obtain ⟨v, hv, rfl⟩ := hu
    have : (⟨b, i, none⟩ : Addr).add j = ⟨b, i + j, none⟩ := by unfold Addr.add; split <;> simp_all
    rw [this]
    exact h0 j v hv
  · intro u hu
    simp [lcells] at hu
    obtain ⟨j, _, rfl⟩ := hu
    rfl
  · intro g' gc' w' hown' hgrow hat _
    have e : lcells l ++ lcells l2 = lcells (l ++ l2) := by simp [lcells]
    rw [e] at hown'
    rw [hd]
    exact h g' gc' w' (by unfold LOwn; rw [List.length_append]; exact hown') hgrow hat

end Go.Proofs.YtokaechbmnbbiabGreat

/-
  The document's l7Unpack.
-/
set_option linter.unusedVariables false
set_option linter.unusedSimpArgs false
namespace Go.Proofs.YtokaechbmnbbiabGreat
open Go.RowKit
attribute [local go_sem ↓] Go.wp_at_zero Go.wp_at_succ

def hsB (m : Nat) (L H : Nat → Int) (a b : Int) : Bool := decide (fnd L H a b m < m ∧ L (fnd L H a b m) = a ∧ H (fnd L H a b m) = b)
theorem hsB_iff {m : Nat} {L H : Nat → Int} {a b : Int} : hsB m L H a b = true ↔ Hs m L H a b := by
  unfold hsB
  rw [decide_eq_true_eq]
  exact ⟨fun h => ⟨_, h⟩, fun h => fnd_at m h⟩
def netOf (n : Nat) (F T G P : Nat → Int) (m : Nat) (L H U V : Nat → Int) : Net :=
  { hs := fun a b => hsB m L H a b, D := fun a b => V (fnd L H a b m), U := fun a b => U (fnd L H a b m), O := P, lw := fun a b => lastW F T G a b n }
theorem l4Find_net {p : Int} {L H : Nat → Int} {m : Nat} (hE : edB p L H m = true) (eo : Option Addr) (ecap : Nat) (a b : Int) (hm : m ≤ 1048576) (w : World) (hr : ERow w eo m L H) :
    Calls Tryz.prog 54 #[.slice eo m ecap, .int .i64 a, .int .i64 b] w fun e w' => ∃ r : Int, e = .returned (.int .i64 r) ∧ (hsB m L H a b = true → r = (fnd L H a b m : Int) ∧ fnd L H a b m < m) ∧ (hsB m L H a b = false → r < 0) ∧ Below w.heap.size w w' := by
  cases h : hsB m L H a b with
  | true =>
    have hf := fnd_at m (hsB_iff.1 h)
    exact (l4Find_is eo m ecap L H a b (fnd L H a b m) hf.1 hf.2.1 hf.2.2 (fun j hj h1 h2 => (fnd_is hE hj h1 h2).symm) hm w hr).mono fun e w' ⟨h1, h2⟩ => ⟨_, h1, fun _ => ⟨rfl, hf.1⟩, fun h => (by cases h), h2⟩
  | false =>
    exact (l4Find_any eo m ecap L H a b hm w hr).mono fun e w' ⟨r, h1, h2, h3⟩ => ⟨r, h1, fun h => (by cases h), fun _ => h2.2 (fun hs => by rw [hsB_iff.2 hs] at h; cases h), h3⟩
structure NRows (w : World) (ao : Option Addr) (n : Nat) (F T G : Nat → Int) (po : Option Addr) (k : Nat) (P : Nat → Int) (eo : Option Addr) (m : Nat) (L H : Nat → Int) (uo : Option Addr) (U : Nat → Int) (vo : Option Addr) (V : Nat → Int) : Prop where
  arcs : Row w ao n F T G
  ord : IRow w po k P
  eds : ERow w eo m L H
  up : IRow w uo m U
  dn : IRow w vo m V
theorem NRows.below {w w' : World} {B : Nat} {ao : Option Addr} {n : Nat} {F T G : Nat → Int} {po : Option Addr} {k : Nat} {P : Nat → Int} {eo : Option Addr} {m : Nat} {L H : Nat → Int} {uo : Option Addr} {U : Nat → Int} {vo : Option Addr} {V : Nat → Int} (h : NRows w ao n F T G po k P eo m L H uo U vo V) (hb : Below B w w') (hB : w.heap.size ≤ B) : NRows w' ao n F T G po k P eo m L H uo U vo V :=
  ⟨h.arcs.below hb hB, h.ord.below hb hB, h.eds.below hb hB, h.up.below hb hB, h.dn.below hb hB⟩

theorem lown_lit2 (w : World) {base : Nat} (a b : Int) (hb : base ≤ w.heap.size) : LOwn (w.alloc (.cells #[.int .i64 a, .int .i64 b] 2)) base (some ⟨w.heap.size, 0, none⟩) 2 [a, b] := by
  have := World.ownsRow_lit (base := base) (e := 2) (size := 1) w #[.int .i64 a, .int .i64 b] 2 hb (by unfold maxLen; omega) rfl
  simpa [LOwn, lcells] using this
structure U3 (w W : World) (p : Int) (ao : Option Addr) (n cap : Nat) (po : Option Addr) (k pcap : Nat) (eo : Option Addr) (m ecap : Nat) (uo : Option Addr) (ucap : Nat) (vo : Option Addr) (vcap : Nat) : Prop where
  bel : Below w.heap.size w W
  g0 : W.cell? ⟨w.heap.size, 0, none⟩ = some (.int .i64 p)
  g1 : W.cell? ⟨w.heap.size, 1, none⟩ = some (.slice ao n cap)
  h0 : W.cell? ⟨w.heap.size + 1, 0, none⟩ = some (.slice po k pcap)
  h1 : W.cell? ⟨w.heap.size + 1, 1, none⟩ = some (.slice eo m ecap)
  m0 : W.cell? ⟨w.heap.size + 2, 0, none⟩ = some (.slice uo m ucap)
  m1 : W.cell? ⟨w.heap.size + 2, 1, none⟩ = some (.slice vo m vcap)
  sz : w.heap.size + 3 ≤ W.heap.size
theorem u3_new (w : World) {p : Int} {ao : Option Addr} {n cap : Nat} {po : Option Addr} {k pcap : Nat} {eo : Option Addr} {m ecap : Nat} {uo : Option Addr} {ucap : Nat} {vo : Option Addr} {vcap : Nat} : U3 w (((w.alloc (.cells #[.int .i64 p, .slice ao n cap] 26)).alloc (.cells #[.slice po k pcap, .slice eo m ecap] 30)).alloc (.cells #[.slice uo m ucap, .slice vo m vcap] 34)) p ao n cap po k pcap eo m ecap uo ucap vo vcap :=
  ⟨(((Below.refl _ _).alloc (Nat.le_refl _) _).alloc (by simp) _).alloc (by simp; omega) _, by simp [go_sem], by simp [go_sem], by simp [go_sem], by simp [go_sem], by simp [go_sem], by simp [go_sem], by simp⟩
theorem U3.next {w W W' : World} {p : Int} {ao : Option Addr} {n cap : Nat} {po : Option Addr} {k pcap : Nat} {eo : Option Addr} {m ecap : Nat} {uo : Option Addr} {ucap : Nat} {vo : Option Addr} {vcap : Nat} (h : U3 w W p ao n cap po k pcap eo m ecap uo ucap vo vcap) (hb : Below W.heap.size W W') : U3 w W' p ao n cap po k pcap eo m ecap uo ucap vo vcap :=
  ⟨below_next h.bel (Nat.le_refl _) hb, keep_cell hb (Nat.le_refl _) h.g0, keep_cell hb (Nat.le_refl _) h.g1, keep_cell hb (Nat.le_refl _) h.h0, keep_cell hb (Nat.le_refl _) h.h1, keep_cell hb (Nat.le_refl _) h.m0, keep_cell hb (Nat.le_refl _) h.m1, Nat.le_trans h.sz hb.size⟩

end Go.Proofs.YtokaechbmnbbiabGreat

/-
  The program's map of arc numbers, walked: it holds the number of each arc at its ends.
-/
set_option linter.unusedVariables false
set_option linter.unusedSimpArgs false
namespace Go.Proofs.YtokaechbmnbbiabGreat
open Go.RowKit Go.Maps

set_option maxHeartbeats 1000000 in
theorem arcNumbers_any (p : Int) (ao : Option Addr) (n cap : Nat) (F T G : Nat → Int) (hn : n ≤ 1048576) (hwf : WfTo F T n) (w : World) (hr : Row w ao n F T G) :
    Calls Tryz.prog 79 #[.agg #[.int .i64 p, .slice ao n cap]] w fun e w' => e = .returned (.map (some (w.heap.size + 1))) ∧ w'.ownsMap Tryz.prog 113 (plainElem Tryz.prog 3) (w.heap.size + 1) n (nums F T n) ∧ Below w.heap.size w w' := by
  have hmk := make_map n
  go_enter Tryz.func79, Tryz.ntmps79
  go_wp2
  clear hmk
  go_loopw [13] (fun i wr => ∃ k : Nat, k ≤ n ∧ i = .int .i64 k ∧ wr.ownsMap Tryz.prog 113 (plainElem Tryz.prog 3) (w.heap.size + 1) k (nums F T k) ∧ Below (w.heap.size + 1) (w.alloc (.cells #[.int .i64 p, .slice ao n cap] 26)) wr) (fun i _ => n - (intOf i).toNat)
  case atStart => exact ⟨0, Nat.zero_le _, rfl, by simpa [nums] using World.ownsMap_made (w.alloc (.cells #[.int .i64 p, .slice ao n cap] 26)) Tryz.prog 113 (plainElem (H := Unit) Tryz.prog 3), (Below.refl _ _).alloc (by simp) _⟩
  case round =>
    obtain ⟨k, hk, rfl, hown, hbel⟩ := hrel
    have hsz : w.heap.size + 1 < wr.heap.size := hown.lt
    by_cases hlt : k < n
    rotate_left
    · have hkn : k = n := by omega
      subst hkn
      go_wp2
      go_ret
      exact ⟨rfl, hown, unbox hbel (by omega)⟩
    obtain ⟨b, o, hao, c0, c1, c2⟩ := ((hr.alloc _).below hbel (by simp)) k hlt
    subst hao
    have hkey := key_ends (F k) (T k) (hwf k hlt).1 (hwf k hlt).2
    go_wp2_with (first | (go_at_call 96; refine (endsOf_any _ _ _ _).mono ?_; rintro e w1 ⟨rfl, hb1⟩; have hown1 := ownsMap_below (hown.alloc _) hb1) | (at_mapUpdate; refine wpList_mapUpdate_own _ rfl _ _ _ 96 rfl 113 3 Tryz.keyLaw Tryz.underlying96 _ (w.heap.size + 1) k _ rfl hown1 (by unfold maxLen; omega) _ _ _ rfl rfl hkey _ [] (plainElem_int Tryz.underlying3 (WalkArith.wf_i64 (by omega))) ?_; intro w2 hown2 hgrow2))
    go_wp2
    go_roundw
    case rel => exact ⟨k + 1, by omega, by go_num, hown2, (below_next (hbel.alloc (by omega) _) (by simp) hb1).grown hgrow2 (by have := hb1.size; simp at this; omega) (fun j hj => by cases hj; exact Nat.le_refl _)⟩
    case measure => simp [intOf]; omega

end Go.Proofs.YtokaechbmnbbiabGreat

/-
  Two lists of numbers held against each other, the document's way and the program's: of metrics.
-/
set_option linter.unusedVariables false
set_option linter.unusedSimpArgs false
namespace Go.Proofs.YtokaechbmnbbiabGreat
open Go.RowKit Go.Deep Go.Joins
attribute [local go_sem ↓] Go.wp_at_zero Go.wp_at_succ

def SameI (n m : Nat) (f g : Nat → Int) : Prop := n = m ∧ ∀ i, i < n → f i = g i
set_option maxHeartbeats 1000000 in
theorem equalI_any (ao ao' : Option Addr) (n m cap cap' : Nat) (f g : Nat → Int) (hn : n ≤ 1048576) (hm : m ≤ 1048576) (w : World) (hr : IRow w ao n f) (hr' : IRow w ao' m g) :
    Calls Tryz.prog 108 #[.slice ao n cap, .slice ao' m cap'] w fun e w' => BAns e (SameI n m f g) ∧ Below w.heap.size w w' := by
  by_cases hnm : n = m
  rotate_left
  · have HN : Hid (¬ SameI n m f g) := fun h => hnm h.1
    have hnm' : ¬ (n : Int) = (m : Int) := by omega
    go_enter Tryz.func108, Tryz.ntmps108
    go_wp2
    go_ret
    exact ⟨bans_no HN.out, Below.refl _ _⟩
  subst hnm
  go_enter Tryz.func108, Tryz.ntmps108
  go_wp2
  go_loopw [13] (fun x wr => ∃ k : Nat, k ≤ n ∧ x = .int .i64 k ∧ (∀ i, i < k → f i = g i) ∧ Below w.heap.size w wr) (fun x _ => n - (intOf x).toNat)
  case atStart => exact ⟨0, Nat.zero_le _, rfl, fun i hi => by omega, Below.refl _ _⟩
  case round =>
    obtain ⟨k, hk, rfl, hall, hbel⟩ := hrel
    have HA : Hid (∀ i, i < k → f i = g i) := hall
    clear hall
    by_cases hlt : k < n
    rotate_left
    · have hkn : k = n := by omega
      subst hkn
      go_wp2
      go_ret
      exact ⟨bans_yes ⟨rfl, HA.out⟩, hbel⟩
    obtain ⟨b, o, hao, c0⟩ := (hr.below hbel (Nat.le_refl _)) k hlt
    subst hao
    obtain ⟨b', o', hao', d0⟩ := (hr'.below hbel (Nat.le_refl _)) k hlt
    subst hao'
    have hk1 : (0 : Int) ≤ (k : Int) := by omega
    have hk2 : (k : Int) < (n : Int) := by omega
    by_cases he : f k = g k
    · have HE : Hid (f k = g k) := he
      rw [← he] at d0
      clear he
      go_wp2
      (try go_quiet (fail))
      go_wp2
      go_roundw
      case rel => exact ⟨k + 1, by omega, by go_num, fun i hi => by
        by_cases x : i = k
        · subst x; exact HE.out
        · exact HA.out i (by omega), by first | exact below_drewN hbel _ | exact hbel⟩
      case measure => simp [intOf]; omega
    · have HE : Hid (¬ SameI n n f g) := fun h => he (h.2 k hlt)
      go_wp2
      (try go_quiet (fail))
      go_wp2
      go_ret
      exact ⟨bans_no HE.out, by first | exact below_drewN hbel _ | exact hbel⟩

set_option maxHeartbeats 2000000 in
theorem sameMetric_any (ao : Option Addr) (n acap : Nat) (f : Nat → Int) (bo : Option Addr) (m bcap : Nat) (g : Nat → Int) (co : Option Addr) (u ccap : Nat) (f' : Nat → Int) (dO : Option Addr) (v dcap : Nat) (g' : Nat → Int) (hn : n ≤ 1048576) (hm : m ≤ 1048576) (hu : u ≤ 1048576) (hv : v ≤ 1048576) (w : World) (ha : IRow w ao n f) (hb : IRow w bo m g) (hc : IRow w co u f') (hd : IRow w dO v g') :
    Calls Tryz.prog 58 #[.agg #[.slice ao n acap, .slice bo m bcap], .agg #[.slice co u ccap, .slice dO v dcap]] w fun e w' => BAns e (SameI n u f f' ∧ SameI m v g g') ∧ Below w.heap.size w w' := by
  have hB0 : Below w.heap.size w ((w.alloc (.cells #[.slice ao n acap, .slice bo m bcap] 34)).alloc (.cells #[.slice co u ccap, .slice dO v dcap] 34)) := ((Below.refl _ w).alloc (Nat.le_refl _) _).alloc (by simp) _
  have q1 : ((w.alloc (.cells #[.slice ao n acap, .slice bo m bcap] 34)).alloc (.cells #[.slice co u ccap, .slice dO v dcap] 34)).cell? ⟨w.heap.size, 1, none⟩ = some (.slice bo m bcap) := by simp [go_sem]
  have q3 : ((w.alloc (.cells #[.slice ao n acap, .slice bo m bcap] 34)).alloc (.cells #[.slice co u ccap, .slice dO v dcap] 34)).cell? ⟨w.heap.size + 1, 1, none⟩ = some (.slice dO v dcap) := by simp [go_sem]
  go_enter Tryz.func58, Tryz.ntmps58
  go_wp2_with fail
  refine (equalI_any ao co n u acap ccap f f' hn hu _ (ha.below hB0 (Nat.le_refl _)) (hc.below hB0 (Nat.le_refl _))).mono ?_
  rintro e w1 ⟨⟨x, rfl, hx⟩, hb1⟩
  replace q1 := keep_cell hb1 (Nat.le_refl _) q1
  replace q3 := keep_cell hb1 (Nat.le_refl _) q3
  have hB1 := below_next hB0 (Nat.le_refl _) hb1
  clear hb1 hB0
  cases x
  · have HN : Hid (¬ (SameI n u f f' ∧ SameI m v g g')) := fun y => by have := hx.2 y.1; cases this
    clear hx
    go_wp2
    go_ret
    exact ⟨bans_no HN.out, hB1⟩
  have HY : Hid (SameI n u f f') := hx.1 rfl
  clear hx
  go_wp2_with fail
  refine (equalI_any bo dO m v bcap dcap g g' hm hv _ (hb.below hB1 (Nat.le_refl _)) (hd.below hB1 (Nat.le_refl _))).mono ?_
  rintro e w2 ⟨⟨x, rfl, hx⟩, hb2⟩
  have hB2 := below_next hB1 (Nat.le_refl _) hb2
  clear hb2 hB1
  go_wp2
  go_ret
  exact ⟨⟨x, rfl, hx.trans ⟨fun h => ⟨HY.out, h⟩, fun h => h.2⟩⟩, hB2⟩

end Go.Proofs.YtokaechbmnbbiabGreat

/-
  A region that draws its order, taken by hand: two operations that are ready; an operation that yields, makes or stores.
-/
set_option linter.unusedVariables false
set_option linter.unusedSimpArgs false
namespace Go.Proofs.YtokaechbmnbbiabGreat
open Go

theorem wp_of_run {P : Program} {o : Oper} {a : Act} {w : World} {K : Act → World → Prop} {Q : Exit → Act → World → Prop} {v : Value} (h : (execOp a.eval o).run P w = .ok (.value v) w) (hK : K (a.put o.dst v) w) : o.wp P a w K Q := by
  unfold Oper.wp
  rw [h]
  exact hK
theorem wp_of_skip {P : Program} {o : Oper} {a : Act} {w w' : World} {K : Act → World → Prop} {Q : Exit → Act → World → Prop} (h : (execOp a.eval o).run P w = .ok .skip w') (hK : K (a.put o.dst undef) w') : o.wp P a w K Q := by
  unfold Oper.wp
  rw [h]
  exact hK
theorem step2H {P : Program} {ops : Array Oper} {Q : Exit → Act → World → Prop} {md : Region.Mode} {S : World → Prop} (i j : Nat) (oi oj : Oper) {fuel : Nat} {listed : Array Bool} {a : Act} {w : World} (hi : ops[i]? = some oi) (hj : ops[j]? = some oj) (hr : Region.ready md ops listed = [i, j])
    (hwi : Region.wanted oi (yielded ops a.tmps) = true) (hwj : Region.wanted oj (yielded ops a.tmps) = true)
    (h1 : Oper.wp P oi a w (fun a' w' => S w' ∧ wpAnyH P md ops Q S fuel (listed.setIfInBounds i true) a' w') Q) (h2 : Oper.wp P oj a w (fun a' w' => S w' ∧ wpAnyH P md ops Q S fuel (listed.setIfInBounds j true) a' w') Q) : wpAnyH P md ops Q S (fuel + 1) listed a w :=
  wpAnyH_ready hr (by simp) (AllReadyH.cons hi (fun K hK => by rw [if_pos hwi]; exact Oper.wp_mono (fun a' w' h' => hK.out _ _ h'.1 (fun _ => h'.2)) h1) (AllReadyH.cons hj (fun K hK => by rw [if_pos hwj]; exact Oper.wp_mono (fun a' w' h' => hK.out _ _ h'.1 (fun _ => h'.2)) h2) AllReadyH.nil))

end Go.Proofs.YtokaechbmnbbiabGreat

/-
  The program's room where weights are worked out: made, cleared, weighed, handed out.
-/
set_option linter.unusedVariables false
set_option linter.unusedSimpArgs false
namespace Go.Proofs.YtokaechbmnbbiabGreat
open Go.RowKit Go.Deep Go.Joins Go.Maps
attribute [local go_sem ↓] Go.wp_at_zero Go.wp_at_succ

theorem alloc_b (X : World) (o : Obj) : Below X.heap.size X (X.alloc o) := (Below.refl _ _).alloc (Nat.le_refl _) o
theorem hid_alloc {w X : World} (h : Hid (Below w.heap.size w X)) (o : Obj) : Hid (Below w.heap.size w (X.alloc o)) := h.out.alloc h.out.size o
theorem hid_next {w X Y : World} (h : Hid (Below w.heap.size w X)) (hb : Below X.heap.size X Y) : Hid (Below w.heap.size w Y) := below_next h.out (Nat.le_refl _) hb

theorem IHas.al {X : World} {b n : Nat} {f : Nat → Int} (h : IHas X b n f) (o : Obj) : IHas (X.alloc o) b n f := h.below (alloc_b X o) h.lt
theorem IHas.nx {X Y : World} {b n : Nat} {f : Nat → Int} (h : IHas X b n f) (hb : Below X.heap.size X Y) : IHas Y b n f := h.below hb h.lt
theorem made_at (A : World) (b m : Nat) (h : b = A.heap.size) : IHas (A.alloc (.cells (madeCells #[.int .i64 0] m) 2)) b m (fun _ => 0) := by
  subst h; exact made_ints A m
abbrev OMap (W : World) (b m : Nat) (L H : Nat → Int) : Prop := W.ownsMap Tryz.prog 62 (plainElem (H := Unit) Tryz.prog 3) b m (enums L H m)
theorem omap_nx {X Y : World} {b m : Nat} {L H : Nat → Int} (h : OMap X b m L H) (hb : Below X.heap.size X Y) : OMap Y b m L H := ownsMap_block h (hb.block b (World.ownsMap.lt h))
theorem omap_al {X : World} {b m : Nat} {L H : Nat → Int} (h : OMap X b m L H) (o : Obj) : OMap (X.alloc o) b m L H := omap_nx h (alloc_b X o)

def rmc (eo : Option Addr) (m ecap g k rcap bm bU bV : Nat) : Array Value := #[.slice eo m ecap, .slice (some ⟨g, 0, none⟩) k rcap, .map (some bm), .slice (some ⟨bU, 0, none⟩) m m, .slice (some ⟨bV, 0, none⟩) m m]
structure Room (w : World) (k : Nat) (P : Nat → Int) (eo : Option Addr) (m ecap : Nat) (L H : Nat → Int) (b g rcap bm bU bV : Nat) (U V : Nat → Int) (W : World) : Prop where
  bel : Below w.heap.size w W
  box : W.heap[b]? = some (.cells (rmc eo m ecap g k rcap bm bU bV) 86 (0, 0))
  rks : IHas W g k (rk P (-1) k)
  nos : OMap W bm m L H
  up : IHas W bU m U
  dn : IHas W bV m V
  ge : w.heap.size ≤ b ∧ w.heap.size ≤ g ∧ w.heap.size ≤ bm ∧ w.heap.size ≤ bU ∧ w.heap.size ≤ bV
  ne : bU ≠ bV ∧ g ≠ bU ∧ g ≠ bV ∧ b ≠ bU ∧ b ≠ bV ∧ bm ≠ bU ∧ bm ≠ bV
section
variable {w : World} {k : Nat} {P : Nat → Int} {eo : Option Addr} {m ecap : Nat} {L H : Nat → Int} {b g rcap bm bU bV : Nat} {U V : Nat → Int} {W W' : World}
theorem Room.next (h : Room w k P eo m ecap L H b g rcap bm bU bV U V W) (hb : Below W.heap.size W W') : Room w k P eo m ecap L H b g rcap bm bU bV U V W' :=
  ⟨below_next h.bel (Nat.le_refl _) hb, (hb.block b (Array.getElem?_eq_some_iff.1 h.box).1).trans h.box, h.rks.nx hb, omap_nx h.nos hb, h.up.nx hb, h.dn.nx hb, h.ge, h.ne⟩
theorem Room.cell (h : Room w k P eo m ecap L H b g rcap bm bU bV U V W) {j : Nat} {v : Value} (hv : (rmc eo m ecap g k rcap bm bU bV)[j]? = some v) : W.cell? ⟨b, j, none⟩ = some v := by
  rw [cell_of_row W b j _ _ _ h.box]; exact hv
theorem Room.turnU (h : Room w k P eo m ecap L H b g rcap bm bU bV U V W) {U' : Nat → Int} (hg : W.grownBy W' (some bU)) (hU : IHas W' bU m U') : Room w k P eo m ecap L H b g rcap bm bU bV U' V W' := by
  obtain ⟨n1, n2, n3, n4, n5, n6, n7⟩ := h.ne
  exact ⟨below_far (B := w.heap.size) h.bel hg (fun x e => by cases e; exact h.ge.2.2.2.1) (Nat.le_refl _), (hg.block b (Array.getElem?_eq_some_iff.1 h.box).1 (by simp; exact n4)).trans h.box, h.rks.grown hg (by simp; exact n2), World.ownsMap.kept h.nos hg (by simp; exact n6), hU, h.dn.grown hg (by simp; exact fun e => n1 e.symm), h.ge, h.ne⟩
theorem Room.turnD (h : Room w k P eo m ecap L H b g rcap bm bU bV U V W) {V' : Nat → Int} (hg : W.grownBy W' (some bV)) (hV : IHas W' bV m V') : Room w k P eo m ecap L H b g rcap bm bU bV U V' W' := by
  obtain ⟨n1, n2, n3, n4, n5, n6, n7⟩ := h.ne
  exact ⟨below_far (B := w.heap.size) h.bel hg (fun x e => by cases e; exact h.ge.2.2.2.2) (Nat.le_refl _), (hg.block b (Array.getElem?_eq_some_iff.1 h.box).1 (by simp; exact n5)).trans h.box, h.rks.grown hg (by simp; exact n3), World.ownsMap.kept h.nos hg (by simp; exact n7), h.up.grown hg (by simp; exact n1), hV, h.ge, h.ne⟩
theorem Room.congr (h : Room w k P eo m ecap L H b g rcap bm bU bV U V W) {U' V' : Nat → Int} (h1 : ∀ j, j < m → U j = U' j) (h2 : ∀ j, j < m → V j = V' j) : Room w k P eo m ecap L H b g rcap bm bU bV U' V' W :=
  ⟨h.bel, h.box, h.rks, h.nos, h.up.congr h1, h.dn.congr h2, h.ge, h.ne⟩
end
theorem box_at (X : World) (b : Nat) (c : Array Value) (h : b = X.heap.size) : (X.alloc (.cells c 86)).heap[b]? = some (.cells c 86 (0, 0)) := by
  subst h; exact heap_alloc_new X _

set_option maxRecDepth 100000 in
set_option maxHeartbeats 8000000 in
theorem newWorkroom_any (po : Option Addr) (k pcap : Nat) (P : Nat → Int) (eo : Option Addr) (m ecap : Nat) (L H : Nat → Int) (hk : k ≤ 1048576) (hm : m ≤ 1048576) (hok : okR k P = true) (hwf : EWf L H m) (w : World) (hp : IRow w po k P) (he : ERow w eo m L H) :
    Calls Tryz.prog 29 #[.agg #[.slice po k pcap, .slice eo m ecap]] w fun e w' => ∃ b g rcap bm bU bV, e = .returned (.pointer (some ⟨b, 0, none⟩)) ∧ Room w k P eo m ecap L H b g rcap bm bU bV (fun _ => 0) (fun _ => 0) w' := by
  have hmk := make_ints m hm
  have hL : lenR k P = k := by unfold lenR; rw [if_pos hok]
  have hk0 : 0 < k := by simp [okR] at hok; omega
  have HRK := fun ao' W hr' => implRanks_any ao' k pcap P hk W hr'
  rw [hL] at HRK
  have HRK' : Hid (∀ ao' W, IRow W ao' k P → Calls Tryz.prog 67 #[.slice ao' k pcap] W fun e w' => Ans W w' e k (rk P (-1) k)) := HRK
  clear HRK hL hok
  go_enter Tryz.func29, Tryz.ntmps29
  go_wp2_with fail
  have hB0 : Hid (Below w.heap.size w (w.alloc (.cells #[.slice po k pcap, .slice eo m ecap] 30)).drew) := ((Below.refl _ _).alloc (Nat.le_refl _) _).drew
  have y0 : (w.alloc (.cells #[.slice po k pcap, .slice eo m ecap] 30)).drew.cell? ⟨w.heap.size, 0, none⟩ = some (.slice po k pcap) := by simp [go_sem]
  have y1 : (w.alloc (.cells #[.slice po k pcap, .slice eo m ecap] 30)).drew.cell? ⟨w.heap.size, 1, none⟩ = some (.slice eo m ecap) := by simp [go_sem]
  go_region_held3 (fun w' => w'.cell? ⟨w.heap.size, 0, none⟩ = some (.slice po k pcap) ∧ w'.cell? ⟨w.heap.size, 1, none⟩ = some (.slice eo m ecap) ∧ Hid (Below w.heap.size w w'))
    (first | (go_split_ands; exact ⟨keep_cell hbN (Nat.le_refl _) (by assumption), keep_cell hbN (Nat.le_refl _) (by assumption), hid_next (by assumption) hbN⟩) | (go_split_ands; exact ⟨keep_cell hbR (Nat.le_refl _) (by assumption), keep_cell hbR (Nat.le_refl _) (by assumption), hid_next (by assumption) hbR⟩) | (go_split_ands; exact ⟨keep_cell (alloc_b _ _) (Nat.le_refl _) (by assumption), keep_cell (alloc_b _ _) (Nat.le_refl _) (by assumption), hid_alloc (by assumption) _⟩) | (refine ⟨?_, ?_, ?_⟩ <;> assumption))
    (first | (go_at_call 67; go_split_ands; refine (HRK'.out po _ (hp.below (Hid.out (by assumption)) (Nat.le_refl _))).mono ?_; rintro e wR ⟨aoR, capR, rfl, hR, hbR⟩; obtain ⟨gR, rfl, hgR, iR⟩ := hR hk0; have hgl := iR.lt; clear hR) | (go_at_call 82; go_split_ands; refine (edgeNumbers_any eo m ecap L H hm hwf _ (he.below (Hid.out (by assumption)) (Nat.le_refl _))).mono ?_; rintro e wN ⟨rfl, hN, hbN⟩))
  all_goals
    go_split_ands
    go_wp2
    go_ret
    have hsR := hbR.size
    have hsN := hbN.size
    have hnl := World.ownsMap.lt hN
    simp only [World.size_alloc, World.size_drew] at hsR hsN hgR hnl hN
    refine ⟨_, gR, capR, _, _, _, rfl, ⟨Hid.out (by assumption), box_at _ _ _ (by simp), ?_, ?_, ?_, ?_, ?_, ?_⟩⟩
    · repeat (first | exact iR | refine IHas.al ?_ _ | refine IHas.nx ?_ hbN)
    · repeat (first | exact hN | refine omap_al ?_ _)
    · repeat (first | (refine made_at _ _ _ ?_; simp; done) | (refine made_at _ _ _ ?_; rfl) | refine IHas.al ?_ _ | refine IHas.nx ?_ hbN | refine IHas.nx ?_ hbR)
    · repeat (first | (refine made_at _ _ _ ?_; simp; done) | (refine made_at _ _ _ ?_; rfl) | refine IHas.al ?_ _ | refine IHas.nx ?_ hbN | refine IHas.nx ?_ hbR)
    · (try simp only [World.size_alloc, World.size_drew]); omega
    · (try simp only [World.size_alloc, World.size_drew]); omega

end Go.Proofs.YtokaechbmnbbiabGreat
