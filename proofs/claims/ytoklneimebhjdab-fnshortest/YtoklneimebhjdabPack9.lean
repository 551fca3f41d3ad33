/-
  Helpers, merged: EdMap, CusE, Add, FnBase, Clm, ClmP, MetF, WtOk.
-/
import Derived.Test.YtoklneimebhjdabPack2
import Derived.Test.YtoklneimebhjdabPack4
import Derived.Maps.Own
import Derived.Maps.OwnOps
import Derived.Maps.OwnSet
import Derived.Maps.Views
import Derived.DeepKeys4
import Derived.Test.YtoklneimebhjdabPack6
import Derived.Test.YtoklneimebhjdabPack3
import Derived.Test.YtoklneimebhjdabPack8
import Derived.Test.YtoklneimebhjdabPack1
import Derived.Deep.QuietTactic
import Derived.Test.YtoklneimebhjdabPack5
import Derived.Deep.RegionHeld3
/-
  The map from an edge to its number: what its keys read as, and what it holds after so many edges; the walk that fills it.
-/
set_option linter.unusedVariables false
set_option linter.unusedSimpArgs false
namespace Go.Proofs.Ytoklneimebhjdab
open Go.ChangeShapes Go.WideShapes Go.ChangeAt Go.RowKit Go.Maps

set_option maxRecDepth 100000 in
theorem Try.rowEdge : (38 : TypeId) < Try.prog.types.size := of_decide_eq_true (by kernel_rfl)
theorem Try.wideEdge : (match Try.prog.underlying 38 with | some (.array _ _) | some (.struct _) => true | _ => false) = true := by rw [Try.underlying38]
set_option maxRecDepth 100000 in
theorem Try.keyLawE : Keyed Try.prog 38 := Keyed.of_law (deep_law_laid Try.laidOut (m := 2) (by omega) Try.rowEdge (by kernel_rfl) Try.wideEdge)
theorem Try.keyTypeE : Try.prog.keyType 38 = true := by kernel_rfl
theorem Try.cellsEdge : Try.prog.cellsOf 38 = 2 := by kernel_rfl
theorem Try.mapZeroE (w : World) : (zeroValue 3).run Try.prog w = .ok (.int .i64 0) w := by kernel_rfl
set_option maxRecDepth 100000 in
theorem Try.someTypesE : ∃ m, Try.prog.types.size = m + 1 := ⟨_, (Nat.succ_pred_eq_of_pos (Nat.lt_of_le_of_lt (Nat.zero_le _) Try.rowEdge)).symm⟩

def ekl (f t : Int) : Lit := .string (keyBytes [.int .i64 f, .int .i64 t])
set_option maxRecDepth 100000 in
theorem key_edge (f t : Int) (hf : (Lit.int .i64 f).wf = true) (ht : (Lit.int .i64 t).wf = true) : keyOf Try.prog 38 (.agg #[.int .i64 f, .int .i64 t]) = some (ekl f t) := by
  exact key_two Try.underlying38 Try.keyTypeE Try.cellsEdge Try.underlying2 Try.underlying2 rfl rfl Try.cellsInt Try.cellsInt (by decide) (by decide) Try.someTypesE hf ht
theorem ekl_inj {f t f' t' : Int} (hf : (Lit.int .i64 f).wf = true) (ht : (Lit.int .i64 t).wf = true) (hf' : (Lit.int .i64 f').wf = true) (ht' : (Lit.int .i64 t').wf = true) (h : ekl f t = ekl f' t') : f = f' ∧ t = t' := by
  have := Try.keyLawE.inj (key_edge f t hf ht) (by rw [h]; exact key_edge f' t' hf' ht')
  simpa using this
theorem ekl_key (f t : Int) : WideAt.IsKeyLit (ekl f t) := trivial

/-- What the map holds after k edges. -/
def enums (F T : Nat → Int) : Nat → DataW Unit
  | 0 => .map []
  | k + 1 => (enums F T k).put (ekl (F k) (T k)) (.lit (.int .i64 (k : Int)))
theorem enums_isMap (F T : Nat → Int) : ∀ k, IsMap (enums F T k)
  | 0 => isMap_empty
  | k + 1 => (enums_isMap F T k).put _ _

def EWf (F T : Nat → Int) (n : Nat) : Prop := ∀ k, k < n → (Lit.int .i64 (F k)).wf = true ∧ (Lit.int .i64 (T k)).wf = true

/-- A look-up in it: there is none, and then the key is not there; or it is there with its last number. -/
theorem enums_look (F T : Nat → Int) (a b : Int) (ha : (Lit.int .i64 a).wf = true) (hb : (Lit.int .i64 b).wf = true) : ∀ n, EWf F T n →
    (Maps.has (enums F T n) (ekl a b) = false ∧ ∀ k, k < n → ¬ (F k = a ∧ T k = b)) ∨
    ∃ k, k < n ∧ F k = a ∧ T k = b ∧ Maps.has (enums F T n) (ekl a b) = true ∧ (enums F T n).atKey (ekl a b) (.lit (.int .i64 0)) = .lit (.int .i64 (k : Int))
  | 0, _ => Or.inl ⟨rfl, fun k hk => by omega⟩
  | n + 1, hw => by
    by_cases h : F n = a ∧ T n = b
    · obtain ⟨rfl, rfl⟩ := h
      exact Or.inr ⟨n, by omega, rfl, rfl, has_put_same (enums_isMap F T n) (ekl_key _ _) _, atKey_put_same (enums_isMap F T n) (ekl_key _ _) _ _⟩
    · have hne : ekl a b ≠ ekl (F n) (T n) := fun e => by
        have := ekl_inj ha hb (hw n (by omega)).1 (hw n (by omega)).2 e
        exact h ⟨this.1.symm, this.2.symm⟩
      rcases enums_look F T a b ha hb n (fun k hk => hw k (by omega)) with ⟨h1, h2⟩ | ⟨k, hk, h1, h2, h3, h4⟩
      · exact Or.inl ⟨by rw [enums, has_put_other hne]; exact h1, fun k hk => by
          by_cases e : k = n
          · subst e; exact h
          · exact h2 k (by omega)⟩
      · exact Or.inr ⟨k, by omega, h1, h2, by rw [enums, has_put_other hne]; exact h3, by rw [enums, atKey_put_other hne]; exact h4⟩

theorem make_emap (n : Nat) (w : World) : (Instr.makeMap 84 (some (.int .i64 (n : Int)))).run Try.prog w = .ok (.map (some w.heap.size)) (w.alloc (.map #[] 0)) := by
  simp [Instr.makeMap, run_underlying Try.underlying84, asInt, asIntOf, newObj]
  rfl

set_option maxHeartbeats 1000000 in
theorem edgeNumbers_any (ao : Option Addr) (n cap : Nat) (L H : Nat → Int) (hn : n ≤ 1048576) (hwf : EWf L H n) (w : World) (hr : ERow w ao n L H) :
    Calls Try.prog 92 #[.slice ao n cap] w fun e w' => e = .returned (.map (some w.heap.size)) ∧ w'.ownsMap Try.prog 38 (plainElem Try.prog 3) w.heap.size n (enums L H n) ∧ Below w.heap.size w w' := by
  have hmk := make_emap n
  go_enter Try.func92, Try.ntmps92
  go_wp2
  clear hmk
  go_loopw [11] (fun i wr => ∃ k : Nat, k ≤ n ∧ i = .int .i64 k ∧ wr.ownsMap Try.prog 38 (plainElem Try.prog 3) w.heap.size k (enums L H k) ∧ Below w.heap.size w wr) (fun i _ => n - (intOf i).toNat)
  case atStart => exact ⟨0, Nat.zero_le _, rfl, by simpa [enums] using World.ownsMap_made w Try.prog 38 (plainElem (H := Unit) Try.prog 3), (Below.refl _ _).alloc (by simp) _⟩
  case round =>
    obtain ⟨k, hk, rfl, hown, hbel⟩ := hrel
    have hlt0 : w.heap.size < wr.heap.size := hown.lt
    by_cases hlt : k < n
    rotate_left
    · have hkn : k = n := by omega
      subst hkn
      go_wp2
      go_ret
      exact ⟨rfl, hown, hbel⟩
    obtain ⟨b, o, hao, c0, c1⟩ := (hr.below hbel (Nat.le_refl _)) k hlt
    subst hao
    have hkey := key_edge (L k) (H k) (hwf k hlt).1 (hwf k hlt).2
    have hown1 := hown.alloc (.cells #[.int .i64 (L k), .int .i64 (H k)] 38)
    have hbel1 := hbel.alloc (o := .cells #[.int .i64 (L k), .int .i64 (H k)] 38) hbel.size
    go_wp2_with (at_mapUpdate; refine wpList_mapUpdate_own _ rfl _ _ _ 84 rfl 38 3 Try.keyLawE Try.underlying84 _ w.heap.size k _ rfl hown1 (by unfold maxLen; omega) _ _ _ rfl rfl hkey _ [] (plainElem_int Try.underlying3 (WalkArith.wf_i64 (by omega))) ?_; intro w2 hown2 hgrow2)
    go_wp2
    go_roundw
    case rel => exact ⟨k + 1, by omega, by go_num, hown2, hbel1.grown hgrow2 (by simp; omega) (fun j hj => by cases hj; exact Nat.le_refl _)⟩
    case measure => simp [intOf]; omega

end Go.Proofs.Ytoklneimebhjdab

/-
  What a right hierarchy says of a map, its order and its edges: the plain part.
-/
set_option linter.unusedVariables false
set_option linter.unusedSimpArgs false
namespace Go.Proofs.Ytoklneimebhjdab
open Go.RowKit Go.Maps

theorem cenv_of {p : Int} {n : Nat} {F T G : Nat → Int} {k : Nat} {P : Nat → Int} (h : ordB p n F T G k P = true) :
    CEnv k n (lstF p n F T P).length F T G P (Lf (lstF p n F T P)) (Hf (lstF p n F T P)) := by
  obtain ⟨hkp, hg, ⟨k1, k24⟩, he⟩ := ordB_parts h
  subst hkp
  obtain ⟨_, hn, hF, hT, hFT⟩ := ok_arcs hg
  have hl : lstF (k : Int) n F T P = allS (nbA F T n) P k k := by simp [lstF]
  have hlen : (lstF (k : Int) n F T P).length ≤ 1000 := by
    have := lenF_le (k : Int) n F T G k P
    unfold lenF at this
    rw [if_pos h] at this
    exact this
  rw [hl] at hlen ⊢
  have hch := fill_ok (B := nbA F T n) (P := P) k1 k24 he
  have hed : edB (k : Int) (Lf (allS (nbA F T n) P k k)) (Hf (allS (nbA F T n) P k k)) (allS (nbA F T n) P k k).length = true := by
    have := hch.1
    simp [edgesB] at this
    exact this.2
  have hinj : ∀ i j, i < k → j < k → P i = P j → i = j := fun i j hi hj e => by
    by_cases hij : i = j
    · exact hij
    · exact absurd (by rw [e]) (place_ne he hi hj hij)
  refine ⟨k1, k24, hn, hlen, he, hch, hed, fun j hj => edgeB_in (edB_at _ hed j hj), hinj, fun t ht => ?_, fun t ht => ?_⟩
  · have := (arcsB_each n (graphB_arcs hg).2 t ht).1
    simp [arcB, inB] at this
    omega
  · obtain ⟨f0, f1⟩ := hF t ht
    obtain ⟨t0, t1⟩ := hT t ht
    obtain ⟨x, hx, ex, rx⟩ := rk_of he (-1) (q := (F t).toNat) (by omega)
    obtain ⟨y, hy, ey, ry⟩ := rk_of he (-1) (q := (T t).toNat) (by omega)
    have ex' : P x = F t := by rw [ex]; omega
    have ey' : P y = T t := by rw [ey]; omega
    have hxy : x ≠ y := fun e => hFT t ht (by rw [← ex', ← ey', e])
    have hmem := fill_arc he (fair_nbA n (fun q hq => by have a1 := hF q hq; have a2 := hT q hq; have a3 := hFT q hq; omega)) ht ⟨f0, f1⟩ ⟨t0, t1⟩ (hFT t ht) hx hy ex' ey'
    obtain ⟨e, hel, hee⟩ := List.getElem_of_mem hmem
    have hL : Lf (allS (nbA F T n) P k k) e = min (x : Int) y := by
      unfold Lf; rw [getD_at hel, hee]
    have hH : Hf (allS (nbA F T n) P k k) e = max (x : Int) y := by
      unfold Hf; rw [getD_at hel, hee]
    refine ⟨x, y, e, hx, hy, hel, ⟨ex', f0, f1⟩, ⟨ey', t0, t1⟩, ⟨rx, ry⟩, ?_⟩
    rw [hL, hH]
    by_cases hlt : x < y
    · left; omega
    · right; omega

/-- What Customize answers. -/
def cusT (p : Int) (n : Nat) (F T G P : Nat → Int) : (Nat → Int) × (Nat → Int) :=
  runT (w0U n F T G P (Lf (lstF p n F T P)) (Hf (lstF p n F T P)), w0D n F T G P (Lf (lstF p n F T P)) (Hf (lstF p n F T P))) (allT (lstF p n F T P).length (Lf (lstF p n F T P)) (Hf (lstF p n F T P)) (lstF p n F T P).length)
open Classical in
noncomputable def lenM (p : Int) (n : Nat) (F T G : Nat → Int) (k : Nat) (P : Nat → Int) (m : Nat) (L H : Nat → Int) : Nat := if HOk p n F T G k P m L H then m else 0
theorem lenM_yes {p : Int} {n : Nat} {F T G : Nat → Int} {k : Nat} {P : Nat → Int} {m : Nat} {L H : Nat → Int} (h : HOk p n F T G k P m L H) : lenM p n F T G k P m L H = m := by unfold lenM; rw [if_pos h]
theorem lenM_no {p : Int} {n : Nat} {F T G : Nat → Int} {k : Nat} {P : Nat → Int} {m : Nat} {L H : Nat → Int} (h : ¬ HOk p n F T G k P m L H) : lenM p n F T G k P m L H = 0 := by unfold lenM; rw [if_neg h]
theorem hok_len {p : Int} {n : Nat} {F T G : Nat → Int} {k : Nat} {P : Nat → Int} {m : Nat} {L H : Nat → Int} (h : HOk p n F T G k P m L H) : m = (lstF p n F T P).length ∧ (∀ i, i < m → L i = Lf (lstF p n F T P) i ∧ H i = Hf (lstF p n F T P) i) := by
  obtain ⟨h1, h2, h3⟩ := h
  unfold lenF at h2
  rw [if_pos h1] at h2
  exact ⟨h2, h3⟩
theorem lenM_le (p : Int) (n : Nat) (F T G : Nat → Int) (k : Nat) (P : Nat → Int) (m : Nat) (L H : Nat → Int) : lenM p n F T G k P m L H ≤ 1000 := by
  by_cases h : HOk p n F T G k P m L H
  · rw [lenM_yes h, (hok_len h).1]
    exact (cenv_of h.1).m1000
  · rw [lenM_no h]; omega
theorem CEnv.wf {k n m : Nat} {F T G P L H : Nat → Int} (h : CEnv k n m F T G P L H) : EWf L H m := fun j hj => by
  have := h.ei j hj
  have := h.k24
  exact ⟨WalkArith.wf_i64 (by omega), WalkArith.wf_i64 (by omega)⟩

end Go.Proofs.Ytoklneimebhjdab

/-
  Sums that end at Far: the document's and the program's.
-/
set_option linter.unusedVariables false
set_option linter.unusedSimpArgs false
namespace Go.Proofs.Ytoklneimebhjdab
open Go.RowKit
attribute [local go_sem ↓] Go.wp_at_zero Go.wp_at_succ

theorem l1Min_any (a b : Int) (w : World) : Calls Try.prog 84 #[.int .i64 a, .int .i64 b] w fun e w' => e = .returned (.int .i64 (min a b)) ∧ w' = w := by
  by_cases h : a < b
  · go_enter Try.func84, Try.ntmps84
    go_wp2
    go_ret
    exact ⟨ret_i64 (by omega), rfl⟩
  · go_enter Try.func84, Try.ntmps84
    go_wp2
    go_ret
    exact ⟨ret_i64 (by omega), rfl⟩

theorem l1Add_any (a b : Int) (ha : 0 ≤ a) (ha' : a ≤ 1000000000000) (hb : 0 ≤ b) (hb' : b ≤ 1000000000000) (w : World) : Calls Try.prog 82 #[.int .i64 a, .int .i64 b] w fun e w' => e = .returned (.int .i64 (min 1000000000000 (a + b))) ∧ w' = w := by
  go_enter Try.func82, Try.ntmps82
  go_wp2_with (go_at_call 84; refine (l1Min_any _ _ _).mono ?_; rintro e w1 ⟨rfl, rfl⟩)
  go_ret
  exact ⟨rfl, rfl⟩

theorem plus_any (a b : Int) (ha : 0 ≤ a) (ha' : a ≤ 1000000000000) (hb : 0 ≤ b) (hb' : b ≤ 1000000000000) (w : World) : Calls Try.prog 72 #[.int .i64 a, .int .i64 b] w fun e w' => e = .returned (.int .i64 (min 1000000000000 (a + b))) ∧ w' = w := by
  go_enter Try.func72, Try.ntmps72
  go_wp2 <;>
  · go_ret
    exact ⟨ret_i64 (by omega), rfl⟩

end Go.Proofs.Ytoklneimebhjdab

/-
  What the laws over drawn inputs call: their helpers, and the bytes that came in.
-/
set_option linter.unusedVariables false
set_option linter.unusedSimpArgs false
namespace Go.Proofs.Ytoklneimebhjdab
open Go.ChangeShapes Go.WideShapes Go.ChangeAt Go.RowKit Go.Deep Go.Joins
attribute [local go_sem ↓] Go.wp_at_zero Go.wp_at_succ

theorem big_any (ao : Option Addr) (n cap : Nat) (hn : n ≤ 9223372036854775807) (w : World) : Calls Try.prog 7 #[.slice ao n cap] w fun e w' => e = .returned (.bool (decide (4096 < n))) ∧ w' = w := by
  by_cases h : 4096 < n
  · have h' : 4096 < (n : Int) := by omega
    go_enter Try.func7, Try.ntmps7
    go_wp2
    go_ret
    exact ⟨ret_bool (by simp [h]), rfl⟩
  · have h' : ¬ 4096 < (n : Int) := by omega
    go_enter Try.func7, Try.ntmps7
    go_wp2
    go_ret
    exact ⟨ret_bool (by simp [h]), rfl⟩

set_option maxHeartbeats 800000 in
theorem likeInts_same (ao ao' : Option Addr) (n cap cap' : Nat) (f : Nat → Int) (hn : n ≤ 1048576) (w : World) (hr : IRow w ao n f) (hr' : IRow w ao' n f) :
    Calls Try.prog 10 #[.slice ao n cap, .slice ao' n cap'] w fun e w' => e = .returned (.bool true) ∧ Below w.heap.size w w' := by
  go_enter Try.func10, Try.ntmps10
  go_wp2
  go_loopw [5] (fun i wr => ∃ k : Nat, k ≤ n ∧ i = .int .i64 k ∧ Below w.heap.size w wr) (fun i _ => n - (intOf i).toNat)
  case atStart => exact ⟨0, Nat.zero_le _, rfl, Below.refl _ _⟩
  case round =>
    obtain ⟨k, hk, rfl, hbel⟩ := hrel
    by_cases hlt : k < n
    rotate_left
    · have hkn : k = n := by omega
      subst hkn
      go_wp2
      go_ret
      exact ⟨rfl, hbel⟩
    obtain ⟨b, o, hao, c0⟩ := (hr.below hbel (Nat.le_refl _)) k hlt
    obtain ⟨b', o', hao', d0⟩ := (hr'.below hbel (Nat.le_refl _)) k hlt
    subst hao
    subst hao'
    have hk1 : (0 : Int) ≤ (k : Int) := by omega
    have hk2 : (k : Int) < (n : Int) := by omega
    go_wp2
    go_quiet (fail)
    go_wp2
    go_roundw
    case rel => exact ⟨k + 1, by omega, by go_num, below_drewN hbel _⟩
    case measure => simp [intOf]; omega

set_option maxRecDepth 100000 in
theorem open_bytes {H : Type} {enc : TypeId × Value → H} {w : World} {base : Nat} {spare : Nat → Bool} {held : Bool} {fuel : Nat} {cs : List Value} {x : DataW H × List MemPlace}
    (h : DataW.trod enc Try.prog w base spare held fuel 22 cs = some x) :
    ∃ (ao : Option Addr) (n cap : Nat), cs = [.slice ao n cap] ∧ n ≤ maxLen ∧ ByRow w w.heap.size ao n := by
  rcases open_slice Try.underlying22 h with ⟨rfl, _⟩ | ⟨a, len, cap, m, n, D, Pl, rfl, hb, hl, hm, hmm, _, hx⟩
  · exact ⟨none, 0, 0, rfl, Nat.zero_le _, fun k hk => by omega⟩
  have hlm : len ≤ m := by rw [hmm]; split <;> omega
  have cells8 : Try.prog.cellsOf 5 = 1 := by kernel_rfl
  have each : ∀ i, i < len → ∃ q : Int, w.cell? (a.add i) = some (.int .u8 q) ∧ (Lit.int .u8 q).wf = true := by
    intro i hi
    obtain ⟨cs', h1, h2⟩ := hx i (by omega)
    rw [cells8] at h1
    obtain ⟨_, hlen, hcell⟩ := World.cells?_some h1
    match cs', hlen with
    | [v0], _ =>
      obtain ⟨q0, r0, _, f0⟩ := DataW.trod_int Try.underlying5 h2
      have e0 := hcell 0 (by omega)
      rw [add_add] at e0
      simp at r0
      subst r0
      exact ⟨q0, by simpa using e0, f0⟩
  refine ⟨some a, len, cap, rfl, by omega, fun k hk => ?_⟩
  obtain ⟨q, hq, hwf⟩ := each k hk
  obtain ⟨b, o, spot⟩ := a
  have hspot : spot = none := by
    obtain ⟨_, hq0, _⟩ := each 0 (by omega)
    have := World.cell?_spot hq0
    simpa [Addr.add] using this
  subst hspot
  rw [Addr.add_mid] at hq
  have h8 : 0 ≤ q ∧ q ≤ 255 := by
    have h1 : IntKind.min .u8 = 0 := by decide
    have h2 : IntKind.max .u8 = 255 := by decide
    simp only [Lit.wf, h1, h2, Bool.and_eq_true, decide_eq_true_eq] at hwf
    exact hwf
  exact ⟨b, o, q, rfl, lt_of_cell hq, hq, h8.1, h8.2⟩

theorem ByRow.up {w W : World} {ao : Option Addr} {n : Nat} (h : ByRow w w.heap.size ao n) (hb : Below w.heap.size w W) : ByRow W W.heap.size ao n := fun k hk => by
  obtain ⟨b, o, v, e, hlt, hc, hv⟩ := (h.below hb (Nat.le_refl _)) k hk
  exact ⟨b, o, v, e, Nat.lt_of_lt_of_le hlt hb.size, hc, hv⟩
theorem ans_row {W w' : World} {ao : Option Addr} {m : Nat} {D : Nat → Int} (h : 0 < m → ∃ g, ao = some ⟨g, 0, none⟩ ∧ W.heap.size ≤ g ∧ IHas w' g m D) : IRow w' ao m D := fun k hk => by
  obtain ⟨g, e, _, hI⟩ := h (by omega)
  subst e
  exact hI.row k hk

end Go.Proofs.Ytoklneimebhjdab

/-
  Sums along edges upward, with no program in sight, and the rank where two of them meet.
-/
set_option linter.unusedVariables false
set_option linter.unusedSimpArgs false
namespace Go.Proofs.Ytoklneimebhjdab

/-- The sums from rank s behind i edges. -/
def cl (L H W : Nat → Int) (s : Nat) : Nat → (Nat → Int)
  | 0 => fun r => if r = s then 0 else 1000000000000
  | i + 1 => fun r => if r = (H i).toNat then min (cl L H W s i (H i).toNat) (min 1000000000000 (cl L H W s i (L i).toNat + W i)) else cl L H W s i r
theorem cl_in {m : Nat} {L H W : Nat → Int} (s : Nat) (hW : InF m W) : ∀ i, i ≤ m → ∀ r, 0 ≤ cl L H W s i r ∧ cl L H W s i r ≤ 1000000000000
  | 0, _, r => by unfold cl; split <;> omega
  | i + 1, hi, r => by
    have h1 := cl_in (L := L) (H := H) s hW i (by omega) (H i).toNat
    have h2 := cl_in (L := L) (H := H) s hW i (by omega) (L i).toNat
    have h3 := cl_in (L := L) (H := H) s hW i (by omega) r
    have h4 := hW i (by omega)
    unfold cl
    split <;> omega
theorem cl_far {k m : Nat} {L H W : Nat → Int} {s : Nat} (hs : s < k) (hH : ∀ i, i < m → 0 ≤ H i ∧ H i < (k : Int)) : ∀ i, i ≤ m → ∀ r, k ≤ r → cl L H W s i r = 1000000000000
  | 0, _, r, hr => by unfold cl; rw [if_neg (by omega)]
  | i + 1, hi, r, hr => by
    have h1 := hH i (by omega)
    unfold cl
    rw [if_neg (by omega)]
    exact cl_far hs hH i (by omega) r hr

/-- The rank of the least sum, and that sum. -/
def mt (A B : Nat → Int) : Nat → Int × Int
  | 0 => (-1, 1000000000000)
  | i + 1 => if min 1000000000000 (A i + B i) < (mt A B i).2 then ((i : Int), min 1000000000000 (A i + B i)) else mt A B i
theorem mt_yes {A B : Nat → Int} {i : Nat} {a b : Int} (h : mt A B i = (a, b)) (hl : min 1000000000000 (A i + B i) < b) : mt A B (i + 1) = ((i : Int), min 1000000000000 (A i + B i)) := by
  unfold mt; rw [h]; simp only; rw [if_pos hl]
theorem mt_no {A B : Nat → Int} {i : Nat} {a b : Int} (h : mt A B i = (a, b)) (hl : ¬ min 1000000000000 (A i + B i) < b) : mt A B (i + 1) = (a, b) := by
  unfold mt; rw [h]; simp only; rw [if_neg hl]
theorem mt_le (A B : Nat → Int) : ∀ i, (mt A B i).2 ≤ 1000000000000
  | 0 => by unfold mt; simp
  | i + 1 => by
    have := mt_le A B i
    unfold mt
    split
    · simp only; omega
    · exact this
theorem mt_far {A B : Nat → Int} {k : Nat} (hA : ∀ r, k ≤ r → A r = 1000000000000) (hB : ∀ r, 0 ≤ B r) : ∀ j, mt A B (k + j) = mt A B k
  | 0 => rfl
  | j + 1 => by
    have h := mt_far hA hB j
    have h1 := mt_le A B (k + j)
    have h2 := hA (k + j) (by omega)
    have h3 := hB (k + j)
    rw [← h, ← Nat.add_assoc]
    show (if _ then _ else _) = _
    rw [if_neg (by omega)]
theorem mt_ge {A B : Nat → Int} (hA : ∀ r, 0 ≤ A r) (hB : ∀ r, 0 ≤ B r) : ∀ i, 0 ≤ (mt A B i).2
  | 0 => by unfold mt; simp
  | i + 1 => by
    have := mt_ge hA hB i
    have h1 := hA i
    have h2 := hB i
    unfold mt
    split
    · simp only; omega
    · exact this

/-- What a climb asks of a hierarchy and a metric. -/
def TOld (k m : Nat) (L H : Nat → Int) (u : Nat) (U : Nat → Int) (v : Nat) (V : Nat → Int) : Prop := edgesB (k : Int) m L H = true ∧ u = m ∧ v = m ∧ InF m U ∧ InF m V
theorem told_k {k m : Nat} {L H : Nat → Int} {u : Nat} {U : Nat → Int} {v : Nat} {V : Nat → Int} (h : TOld k m L H u U v V) : 1 ≤ k ∧ k ≤ 24 := by
  have := h.1
  simp [edgesB, inB] at this
  omega
theorem told_e {k m : Nat} {L H : Nat → Int} {u : Nat} {U : Nat → Int} {v : Nat} {V : Nat → Int} (h : TOld k m L H u U v V) : ∀ i, i < m → 0 ≤ L i ∧ L i < H i ∧ H i < (k : Int) := fun i hi => by
  have := h.1
  simp [edgesB] at this
  exact edgeB_in (edB_at m this.2 i hi)
/-- The rank lies among the places. -/
def RIn (k : Nat) (r : Int) : Prop := 0 ≤ r ∧ r < (k : Int)
open Classical in
noncomputable def lenC (k m : Nat) (L H : Nat → Int) (u : Nat) (U : Nat → Int) (v : Nat) (V : Nat → Int) (r : Int) : Nat := if TOld k m L H u U v V ∧ RIn k r then k else 0
theorem lenC_yes {k m : Nat} {L H : Nat → Int} {u : Nat} {U : Nat → Int} {v : Nat} {V : Nat → Int} {r : Int} (h : TOld k m L H u U v V) (hr : RIn k r) : lenC k m L H u U v V r = k := by unfold lenC; rw [if_pos ⟨h, hr⟩]
theorem lenC_no {k m : Nat} {L H : Nat → Int} {u : Nat} {U : Nat → Int} {v : Nat} {V : Nat → Int} {r : Int} (h : ¬ (TOld k m L H u U v V ∧ RIn k r)) : lenC k m L H u U v V r = 0 := by unfold lenC; rw [if_neg h]
theorem lenC_le (k m : Nat) (L H : Nat → Int) (u : Nat) (U : Nat → Int) (v : Nat) (V : Nat → Int) (r : Int) : lenC k m L H u U v V r ≤ 24 := by
  by_cases h : TOld k m L H u U v V ∧ RIn k r
  · rw [lenC_yes h.1 h.2]; exact (told_k h.1).2
  · rw [lenC_no h]; omega
/-- The weights of a climb. -/
def wts (U V : Nat → Int) (b : Bool) : Nat → Int := if b then V else U
theorem wts_in {m : Nat} {U V : Nat → Int} (hU : InF m U) (hV : InF m V) (b : Bool) : InF m (wts U V b) := by cases b <;> assumption

open Classical in
/-- What Meeting and its search answer. -/
noncomputable def mtg (k m : Nat) (L H : Nat → Int) (u : Nat) (U : Nat → Int) (v : Nat) (V : Nat → Int) (a b : Int) : Int × Int :=
  if TOld k m L H u U v V ∧ RIn k a ∧ RIn k b then mt (cl L H U a.toNat m) (cl L H V b.toNat m) k else (-1, 1000000000000)
theorem mtg_yes {k m : Nat} {L H : Nat → Int} {u : Nat} {U : Nat → Int} {v : Nat} {V : Nat → Int} {a b : Int} (h : TOld k m L H u U v V) (ha : RIn k a) (hb : RIn k b) : mtg k m L H u U v V a b = mt (cl L H U a.toNat m) (cl L H V b.toNat m) k := by unfold mtg; rw [if_pos ⟨h, ha, hb⟩]
theorem mtg_no {k m : Nat} {L H : Nat → Int} {u : Nat} {U : Nat → Int} {v : Nat} {V : Nat → Int} {a b : Int} (h : ¬ (TOld k m L H u U v V ∧ RIn k a ∧ RIn k b)) : mtg k m L H u U v V a b = (-1, 1000000000000) := by unfold mtg; rw [if_neg h]

end Go.Proofs.Ytoklneimebhjdab

/-
  A climb is nought at its beginning and Far below it: the plain part.
-/
set_option linter.unusedVariables false
set_option linter.unusedSimpArgs false
namespace Go.Proofs.Ytoklneimebhjdab

theorem cl_low {k m : Nat} {L H W : Nat → Int} {s : Nat} (hE : ∀ i, i < m → 0 ≤ L i ∧ L i < H i ∧ H i < (k : Int)) (hW : InF m W) : ∀ i, i ≤ m → ∀ r, r < s → cl L H W s i r = 1000000000000
  | 0, _, r, hr => by unfold cl; rw [if_neg (by omega)]
  | i + 1, hi, r, hr => by
    have h1 := hE i (by omega)
    have h2 := hW i (by omega)
    unfold cl
    split
    · rename_i e
      rw [cl_low hE hW i (by omega) _ (by omega), cl_low hE hW i (by omega) _ (by omega)]
      omega
    · exact cl_low hE hW i (by omega) r hr
theorem cl_zero {k m : Nat} {L H W : Nat → Int} {s : Nat} (hE : ∀ i, i < m → 0 ≤ L i ∧ L i < H i ∧ H i < (k : Int)) (hW : InF m W) : ∀ i, i ≤ m → cl L H W s i s = 0
  | 0, _ => by unfold cl; rw [if_pos rfl]
  | i + 1, hi => by
    have h1 := hE i (by omega)
    have h2 := hW i (by omega)
    unfold cl
    split
    · rename_i e
      rw [← e, cl_zero hE hW i (by omega), cl_low hE hW i (by omega) _ (by omega)]
      omega
    · exact cl_zero hE hW i (by omega)
/-- What the law asks of a climb. -/
theorem climb_says {k m : Nat} {L H : Nat → Int} {u : Nat} {U : Nat → Int} {v : Nat} {V : Nat → Int} {r : Int} {b : Bool} {i : Nat} (hi : i < lenC k m L H u U v V r) :
    ((i : Int) < r → cl L H (wts U V b) r.toNat m i = 1000000000000) ∧ ((i : Int) = r → cl L H (wts U V b) r.toNat m i = 0) ∧ 0 ≤ cl L H (wts U V b) r.toNat m i ∧ cl L H (wts U V b) r.toNat m i ≤ 1000000000000 := by
  by_cases h : TOld k m L H u U v V ∧ RIn k r
  rotate_left
  · rw [lenC_no h] at hi; omega
  have hE := told_e h.1
  have hW : InF m (wts U V b) := wts_in h.1.2.2.2.1 h.1.2.2.2.2 b
  have hr := h.2
  unfold RIn at hr
  refine ⟨fun hl => cl_low hE hW m (Nat.le_refl _) i (by omega), fun he => ?_, cl_in r.toNat hW m (Nat.le_refl _) i⟩
  have : i = r.toNat := by omega
  rw [this]
  exact cl_zero hE hW m (Nat.le_refl _)

end Go.Proofs.Ytoklneimebhjdab

/-
  Does a metric fit: the document's helper.
-/
set_option linter.unusedVariables false
set_option linter.unusedSimpArgs false
namespace Go.Proofs.Ytoklneimebhjdab
open Go.RowKit Go.Deep Go.Joins
attribute [local go_sem ↓] Go.wp_at_zero Go.wp_at_succ

/-- What is asked of a metric. -/
def MOk (k m : Nat) (L H : Nat → Int) (u : Nat) (U : Nat → Int) (v : Nat) (V : Nat → Int) : Prop := Chd (k : Int) m L H ∧ u = m ∧ v = m ∧ InF m U ∧ InF m V ∧ ∀ t ∈ allT m L H m, okT U V t
theorem box2m {w W : World} {a0 a1 c0 c1 : Value} {s t : TypeId} (h : Below (w.heap.size + 2) ((w.alloc (.cells #[a0, a1] s)).alloc (.cells #[c0, c1] t)) W) :
    (W.cell? ⟨w.heap.size, 0, none⟩ = some a0 ∧ W.cell? ⟨w.heap.size, 1, none⟩ = some a1) ∧ (W.cell? ⟨w.heap.size + 1, 0, none⟩ = some c0 ∧ W.cell? ⟨w.heap.size + 1, 1, none⟩ = some c1) ∧ w.heap.size + 2 ≤ W.heap.size := by
  obtain ⟨h1, h2, _, h4⟩ := box22 h
  exact ⟨h1, h2, h4⟩
set_option maxHeartbeats 1000000 in
theorem l5Fits_any (po : Option Addr) (k pcap : Nat) (eo : Option Addr) (m ecap : Nat) (L H : Nat → Int) (uo : Option Addr) (u ucap : Nat) (vo : Option Addr) (v vcap : Nat) (hk : k ≤ 1048576) (hm : m ≤ 1048576) (hu : u ≤ 1048576) (hv : v ≤ 1048576) (w : World) (he : ERow w eo m L H) :
    Calls Try.prog 81 #[.agg #[.slice po k pcap, .slice eo m ecap], .agg #[.slice uo u ucap, .slice vo v vcap]] w fun e w' => BAns e (edgesB (k : Int) m L H = true ∧ u = m ∧ v = m) ∧ Below w.heap.size w w' := by
  rcases Bool.eq_false_or_eq_true (edgesB (k : Int) m L H) with h | h
  rotate_left
  · have HN : Hid (¬ (edgesB (k : Int) m L H = true ∧ u = m ∧ v = m)) := fun x => by rw [x.1] at h; cases h
    go_enter Try.func81, Try.ntmps81
    go_wp2_with (go_at_call 36; refine (l4Edges_any (k : Int) eo m ecap L H hm _ ((he.alloc _).alloc _)).mono ?_; rw [h]; rintro e w1 ⟨rfl, hb1⟩)
    go_ret
    exact ⟨bans_no HN.out, unbox2 hb1 (by simp; omega)⟩
  go_enter Try.func81, Try.ntmps81
  go_wp2_with fail
  refine (l4Edges_any (k : Int) eo m ecap L H hm _ ((he.alloc _).alloc _)).mono ?_
  rw [h]
  rintro e w1 ⟨rfl, hb1⟩
  have hA1 := hb1.mono (B' := w.heap.size + 2) (by simp)
  obtain ⟨⟨q0, q1⟩, ⟨q2, q3⟩, q6⟩ := box2m hA1
  by_cases h1 : (u : Int) = (m : Int)
  rotate_left
  · have HN : Hid (¬ (edgesB (k : Int) m L H = true ∧ u = m ∧ v = m)) := fun x => by omega
    go_wp2
    go_ret
    exact ⟨bans_no HN.out, unbox2 hb1 (by simp; omega)⟩
  by_cases h2 : (v : Int) = (m : Int)
  · have HY : Hid (edgesB (k : Int) m L H = true ∧ u = m ∧ v = m) := ⟨h, by omega, by omega⟩
    go_wp2
    go_ret
    exact ⟨bans_yes HY.out, unbox2 hb1 (by simp; omega)⟩
  · have HN : Hid (¬ (edgesB (k : Int) m L H = true ∧ u = m ∧ v = m)) := fun x => by omega
    have hd : ((v : Int) == (m : Int)) = false := by simpa using h2
    go_wp2
    go_ret
    exact ⟨bans_no HN.out, unbox2 hb1 (by simp; omega)⟩

end Go.Proofs.Ytoklneimebhjdab

/-
  The program's weights in their bounds.
-/
set_option linter.unusedVariables false
set_option linter.unusedSimpArgs false
namespace Go.Proofs.Ytoklneimebhjdab
open Go.RowKit
attribute [local go_sem ↓] Go.wp_at_zero Go.wp_at_succ

set_option maxHeartbeats 1000000 in
theorem weightsOk_any (ao : Option Addr) (n cap : Nat) (f : Nat → Int) (c : Nat) (hn : n ≤ 1048576) (hc : c ≤ 1048576) (w : World) (hr : IRow w ao n f) :
    Calls Try.prog 85 #[.slice ao n cap, .int .i64 (c : Int)] w fun e w' => BAns e (n = c ∧ InF c f) ∧ w' = w := by
  by_cases hnc : n = c
  rotate_left
  · have HN : Hid (¬ (n = c ∧ InF c f)) := fun h => hnc h.1
    have hnc' : ¬ (n : Int) = (c : Int) := by omega
    go_enter Try.func85, Try.ntmps85
    go_wp2
    go_ret
    exact ⟨bans_no HN.out, rfl⟩
  subst hnc
  refine (show Calls Try.prog 85 #[.slice ao n cap, .int .i64 (n : Int)] w (fun e w' => BAns e (InF n f) ∧ w' = w) from ?_).mono (fun e w' ⟨⟨b, h1, h2⟩, h3⟩ => ⟨⟨b, h1, h2.trans ⟨fun h => ⟨rfl, h⟩, fun h => h.2⟩⟩, h3⟩)
  go_enter Try.func85, Try.ntmps85
  go_wp2
  go_loop [13] (fun x => ∃ k : Nat, k ≤ n ∧ x = .int .i64 k ∧ InF k f) (fun x => n - (intOf x).toNat)
  case atStart => exact ⟨0, Nat.zero_le _, rfl, fun i hi => by omega⟩
  case round =>
    obtain ⟨k, hk, rfl, hall⟩ := hrel
    have HA : Hid (InF k f) := hall
    clear hall
    by_cases hlt : k < n
    rotate_left
    · have hkn : k = n := by omega
      subst hkn
      go_wp2
      go_ret
      exact ⟨bans_yes HA.out, rfl⟩
    obtain ⟨b, o, hao, c0⟩ := hr k hlt
    subst hao
    have hk1 : (0 : Int) ≤ (k : Int) := by omega
    have hk2 : (k : Int) < (n : Int) := by omega
    by_cases h1 : f k < 0
    · have HN : Hid (¬ InF n f) := fun h => by have := h k hlt; omega
      go_wp2
      go_ret
      exact ⟨bans_no HN.out, rfl⟩
    by_cases h2 : 1000000000000 < f k
    · have HN : Hid (¬ InF n f) := fun h => by have := h k hlt; omega
      go_wp2
      go_ret
      exact ⟨bans_no HN.out, rfl⟩
    have HI : Hid (InF (k + 1) f) := fun i hi => by
      by_cases e : i = k
      · subst e; omega
      · exact HA.out i (by omega)
    go_wp2
    go_roundw
    case rel => exact ⟨k + 1, by omega, by go_num, HI.out⟩
    case measure => simp [intOf]; omega

end Go.Proofs.Ytoklneimebhjdab
