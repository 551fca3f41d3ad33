/-
  Helpers, merged: EdMap, CusE, Add, CusC, CusB, ChdF, TriF, LWeigh, DrawH7.
-/
import Derived.Test.YtokaechbmnbbiabGreatPack2
import Derived.Test.YtokaechbmnbbiabGreatPack4
import Derived.Maps.Own
import Derived.Maps.OwnOps
import Derived.Maps.OwnSet
import Derived.Maps.Views
import Derived.DeepKeys4
import Derived.Test.YtokaechbmnbbiabGreatPack7
import Derived.Test.YtokaechbmnbbiabGreatPack3
import Derived.Test.YtokaechbmnbbiabGreatPack9
import Derived.Test.YtokaechbmnbbiabGreatPack1
import Derived.Test.YtokaechbmnbbiabGreatPack5
import Derived.Deep.RegionLaw
import Derived.Deep.RegionHeld3
import Derived.Test.YtokaechbmnbbiabGreatPack6
/-
  The map from an edge to its number: what its keys read as, and what it holds after so many edges; the walk that fills it.
-/
set_option linter.unusedVariables false
set_option linter.unusedSimpArgs false
namespace Go.Proofs.YtokaechbmnbbiabGreat
open Go.ChangeShapes Go.WideShapes Go.ChangeAt Go.RowKit Go.Maps

set_option maxRecDepth 100000 in
theorem Tryz.rowEdge : (62 : TypeId) < Tryz.prog.types.size := of_decide_eq_true (by kernel_rfl)
theorem Tryz.wideEdge : (match Tryz.prog.underlying 62 with | some (.array _ _) | some (.struct _) => true | _ => false) = true := by rw [Tryz.underlying62]
set_option maxRecDepth 100000 in
theorem Tryz.keyLawE : Keyed Tryz.prog 62 := Keyed.of_law (deep_law_laid Tryz.laidOut (m := 2) (by omega) Tryz.rowEdge (by kernel_rfl) Tryz.wideEdge)
theorem Tryz.keyTypeE : Tryz.prog.keyType 62 = true := by kernel_rfl
theorem Tryz.cellsEdge : Tryz.prog.cellsOf 62 = 2 := by kernel_rfl
theorem Tryz.mapZeroE (w : World) : (zeroValue 3).run Tryz.prog w = .ok (.int .i64 0) w := by kernel_rfl
set_option maxRecDepth 100000 in
theorem Tryz.someTypesE : ∃ m, Tryz.prog.types.size = m + 1 := ⟨_, (Nat.succ_pred_eq_of_pos (Nat.lt_of_le_of_lt (Nat.zero_le _) Tryz.rowEdge)).symm⟩

def ekl (f t : Int) : Lit := .string (keyBytes [.int .i64 f, .int .i64 t])
set_option maxRecDepth 100000 in
theorem key_edge (f t : Int) (hf : (Lit.int .i64 f).wf = true) (ht : (Lit.int .i64 t).wf = true) : keyOf Tryz.prog 62 (.agg #[.int .i64 f, .int .i64 t]) = some (ekl f t) := by
  exact key_two Tryz.underlying62 Tryz.keyTypeE Tryz.cellsEdge Tryz.underlying2 Tryz.underlying2 rfl rfl Tryz.cellsInt Tryz.cellsInt (by decide) (by decide) Tryz.someTypesE hf ht
theorem ekl_inj {f t f' t' : Int} (hf : (Lit.int .i64 f).wf = true) (ht : (Lit.int .i64 t).wf = true) (hf' : (Lit.int .i64 f').wf = true) (ht' : (Lit.int .i64 t').wf = true) (h : ekl f t = ekl f' t') : f = f' ∧ t = t' := by
  have := Tryz.keyLawE.inj (key_edge f t hf ht) (by rw [h]; exact key_edge f' t' hf' ht')
  simpa using this
theorem ekl_key (f t : Int) : WideAt.IsKeyLit (ekl f t) := trivial

def enums (F T : Nat → Int) : Nat → DataW Unit
  | 0 => .map []
  | k + 1 => (enums F T k).put (ekl (F k) (T k)) (.lit (.int .i64 (k : Int)))
theorem enums_isMap (F T : Nat → Int) : ∀ k, IsMap (enums F T k)
  | 0 => isMap_empty
  | k + 1 => (enums_isMap F T k).put _ _

def EWf (F T : Nat → Int) (n : Nat) : Prop := ∀ k, k < n → (Lit.int .i64 (F k)).wf = true ∧ (Lit.int .i64 (T k)).wf = true

theorem enums_look (F T : Nat → Int) (a b : Int) (ha : (Lit.int .i64 a).wf = true) (hb : (Lit.int .i64 b).wf = true) : ∀ n, EWf F T n →
    (Maps.has (enums F T n) (ekl a b) = false ∧ ∀ k, k < n → ¬ (F k = a ∧ T k = b)) ∨
    ∃ k, k < n ∧ F k = a ∧ T k = b ∧ Maps.has (enums F T n) (ekl a b) = true ∧ (enums F T n).atKey (ekl a b) (.lit (.int .i64 0)) = .lit (.int .i64 (k : Int))
  | 0, _ => Or.inl ⟨rfl, fun k hk => by omega⟩
  | n + 1, hw => by
    by_cases h : F n = a ∧ T n = b
    · obtain ⟨rfl, rfl⟩ := h
      exact Or.inr ⟨n, by omega, rfl, rfl, has_put_same (enums_isMap F T n) (ekl_key _ _) _, atKey_put_same (enums_isMap F T n) (ekl_key _ _) _ _⟩
    · have hne : ekl a b ≠ ekl (F n) (T n) := fun e => by
        have := ekl_inj ha hb (hw n (by omega)).1 (hw n (by omega)).2 e
        exact h ⟨this.1.symm, this.2.symm⟩
      rcases enums_look F T a b ha hb n (fun k hk => hw k (by omega)) with ⟨h1, h2⟩ | ⟨k, hk, h1, h2, h3, h4⟩
      · exact Or.inl ⟨by rw [enums, has_put_other hne]; exact h1, fun k hk => by
          by_cases e : k = n
          · subst e; exact h
          · exact h2 k (by omega)⟩
      · exact Or.inr ⟨k, by omega, h1, h2, by rw [enums, has_put_other hne]; exact h3, by rw [enums, atKey_put_other hne]; exact h4⟩

theorem make_emap (n : Nat) (w : World) : (Instr.makeMap 84 (some (.int .i64 (n : Int)))).run Tryz.prog w = .ok (.map (some w.heap.size)) (w.alloc (.map #[] 0)) := by
  simp [Instr.makeMap, run_underlying Tryz.underlying84, asInt, asIntOf, newObj]
  rfl

set_option maxHeartbeats 1000000 in
theorem edgeNumbers_any (ao : Option Addr) (n cap : Nat) (L H : Nat → Int) (hn : n ≤ 1048576) (hwf : EWf L H n) (w : World) (hr : ERow w ao n L H) :
    Calls Tryz.prog 82 #[.slice ao n cap] w fun e w' => e = .returned (.map (some w.heap.size)) ∧ w'.ownsMap Tryz.prog 62 (plainElem Tryz.prog 3) w.heap.size n (enums L H n) ∧ Below w.heap.size w w' := by
  have hmk := make_emap n
  go_enter Tryz.func82, Tryz.ntmps82
  go_wp2
  clear hmk
  go_loopw [11] (fun i wr => ∃ k : Nat, k ≤ n ∧ i = .int .i64 k ∧ wr.ownsMap Tryz.prog 62 (plainElem Tryz.prog 3) w.heap.size k (enums L H k) ∧ Below w.heap.size w wr) (fun i _ => n - (intOf i).toNat)
  case atStart => exact ⟨0, Nat.zero_le _, rfl, by simpa [enums] using World.ownsMap_made w Tryz.prog 62 (plainElem (H := Unit) Tryz.prog 3), (Below.refl _ _).alloc (by simp) _⟩
  case round =>
    obtain ⟨k, hk, rfl, hown, hbel⟩ := hrel
    have hlt0 : w.heap.size < wr.heap.size := hown.lt
    by_cases hlt : k < n
    rotate_left
    · have hkn : k = n := by omega
      subst hkn
      go_wp2
      go_ret
      exact ⟨rfl, hown, hbel⟩
    obtain ⟨b, o, hao, c0, c1⟩ := (hr.below hbel (Nat.le_refl _)) k hlt
    subst hao
    have hkey := key_edge (L k) (H k) (hwf k hlt).1 (hwf k hlt).2
    have hown1 := hown.alloc (.cells #[.int .i64 (L k), .int .i64 (H k)] 62)
    have hbel1 := hbel.alloc (o := .cells #[.int .i64 (L k), .int .i64 (H k)] 62) hbel.size
    go_wp2_with (at_mapUpdate; refine wpList_mapUpdate_own _ rfl _ _ _ 84 rfl 62 3 Tryz.keyLawE Tryz.underlying84 _ w.heap.size k _ rfl hown1 (by unfold maxLen; omega) _ _ _ rfl rfl hkey _ [] (plainElem_int Tryz.underlying3 (WalkArith.wf_i64 (by omega))) ?_; intro w2 hown2 hgrow2)
    go_wp2
    go_roundw
    case rel => exact ⟨k + 1, by omega, by go_num, hown2, hbel1.grown hgrow2 (by simp; omega) (fun j hj => by cases hj; exact Nat.le_refl _)⟩
    case measure => simp [intOf]; omega

end Go.Proofs.YtokaechbmnbbiabGreat

/-
  What a right hierarchy says of a map, its order and its edges: the plain part.
-/
set_option linter.unusedVariables false
set_option linter.unusedSimpArgs false
namespace Go.Proofs.YtokaechbmnbbiabGreat
open Go.RowKit Go.Maps

theorem cenv_of {p : Int} {n : Nat} {F T G : Nat → Int} {k : Nat} {P : Nat → Int} (h : ordB p n F T G k P = true) :
    CEnv k n (lstF p n F T P).length F T G P (Lf (lstF p n F T P)) (Hf (lstF p n F T P)) := by
  obtain ⟨hkp, hg, ⟨k1, k24⟩, he⟩ := ordB_parts h
  subst hkp
  obtain ⟨_, hn, hF, hT, hFT⟩ := ok_arcs hg
  have hl : lstF (k : Int) n F T P = allS (nbA F T n) P k k := by simp [lstF]
  have hlen : (lstF (k : Int) n F T P).length ≤ 1000 := by
    have := lenF_le (k : Int) n F T G k P
    unfold lenF at this
    rw [if_pos h] at this
    exact this
  rw [hl] at hlen ⊢
  have hch := fill_ok (B := nbA F T n) (P := P) k1 k24 he
  have hed : edB (k : Int) (Lf (allS (nbA F T n) P k k)) (Hf (allS (nbA F T n) P k k)) (allS (nbA F T n) P k k).length = true := by
    have := hch.1
    simp [edgesB] at this
    exact this.2
  have hinj : ∀ i j, i < k → j < k → P i = P j → i = j := fun i j hi hj e => by
    by_cases hij : i = j
    · exact hij
    · exact absurd (by rw [e]) (place_ne he hi hj hij)
  refine ⟨k1, k24, hn, hlen, he, hch, hed, fun j hj => edgeB_in (edB_at _ hed j hj), hinj, fun t ht => ?_, fun t ht => ?_⟩
  · have := (arcsB_each n (graphB_arcs hg).2 t ht).1
    simp [arcB, inB] at this
    omega
  · obtain ⟨f0, f1⟩ := hF t ht
    obtain ⟨t0, t1⟩ := hT t ht
    obtain ⟨x, hx, ex, rx⟩ := rk_of he (-1) (q := (F t).toNat) (by omega)
    obtain ⟨y, hy, ey, ry⟩ := rk_of he (-1) (q := (T t).toNat) (by omega)
    have ex' : P x = F t := by rw [ex]; omega
    have ey' : P y = T t := by rw [ey]; omega
    have hxy : x ≠ y := fun e => hFT t ht (by rw [← ex', ← ey', e])
    have hmem := fill_arc he (fair_nbA n (fun q hq => by have a1 := hF q hq; have a2 := hT q hq; have a3 := hFT q hq; omega)) ht ⟨f0, f1⟩ ⟨t0, t1⟩ (hFT t ht) hx hy ex' ey'
    obtain ⟨e, hel, hee⟩ := List.getElem_of_mem hmem
    have hL : Lf (allS (nbA F T n) P k k) e = min (x : Int) y := by
      unfold Lf; rw [getD_at hel, hee]
    have hH : Hf (allS (nbA F T n) P k k) e = max (x : Int) y := by
      unfold Hf; rw [getD_at hel, hee]
    refine ⟨x, y, e, hx, hy, hel, ⟨ex', f0, f1⟩, ⟨ey', t0, t1⟩, ⟨rx, ry⟩, ?_⟩
    rw [hL, hH]
    by_cases hlt : x < y
    · left; omega
    · right; omega

def cusT (p : Int) (n : Nat) (F T G P : Nat → Int) : (Nat → Int) × (Nat → Int) :=
  runT (w0U n F T G P (Lf (lstF p n F T P)) (Hf (lstF p n F T P)), w0D n F T G P (Lf (lstF p n F T P)) (Hf (lstF p n F T P))) (allT (lstF p n F T P).length (Lf (lstF p n F T P)) (Hf (lstF p n F T P)) (lstF p n F T P).length)
open Classical in
noncomputable def lenM (p : Int) (n : Nat) (F T G : Nat → Int) (k : Nat) (P : Nat → Int) (m : Nat) (L H : Nat → Int) : Nat := if HOk p n F T G k P m L H then m else 0
theorem lenM_yes {p : Int} {n : Nat} {F T G : Nat → Int} {k : Nat} {P : Nat → Int} {m : Nat} {L H : Nat → Int} (h : HOk p n F T G k P m L H) : lenM p n F T G k P m L H = m := by unfold lenM; rw [if_pos h]
theorem lenM_no {p : Int} {n : Nat} {F T G : Nat → Int} {k : Nat} {P : Nat → Int} {m : Nat} {L H : Nat → Int} (h : ¬ HOk p n F T G k P m L H) : lenM p n F T G k P m L H = 0 := by unfold lenM; rw [if_neg h]
theorem hok_len {p : Int} {n : Nat} {F T G : Nat → Int} {k : Nat} {P : Nat → Int} {m : Nat} {L H : Nat → Int} (h : HOk p n F T G k P m L H) : m = (lstF p n F T P).length ∧ (∀ i, i < m → L i = Lf (lstF p n F T P) i ∧ H i = Hf (lstF p n F T P) i) := by
  obtain ⟨h1, h2, h3⟩ := h
  unfold lenF at h2
  rw [if_pos h1] at h2
  exact ⟨h2, h3⟩
theorem CEnv.wf {k n m : Nat} {F T G P L H : Nat → Int} (h : CEnv k n m F T G P L H) : EWf L H m := fun j hj => by
  have := h.ei j hj
  have := h.k24
  exact ⟨WalkArith.wf_i64 (by omega), WalkArith.wf_i64 (by omega)⟩

end Go.Proofs.YtokaechbmnbbiabGreat

/-
  Sums that end at Far: the document's and the program's.
-/
set_option linter.unusedVariables false
set_option linter.unusedSimpArgs false
namespace Go.Proofs.YtokaechbmnbbiabGreat
open Go.RowKit
attribute [local go_sem ↓] Go.wp_at_zero Go.wp_at_succ

theorem l1Min_any (a b : Int) (w : World) : Calls Tryz.prog 85 #[.int .i64 a, .int .i64 b] w fun e w' => e = .returned (.int .i64 (min a b)) ∧ w' = w := by
  by_cases h : a < b
  · go_enter Tryz.func85, Tryz.ntmps85
    go_wp2
    go_ret
    exact ⟨ret_i64 (by omega), rfl⟩
  · go_enter Tryz.func85, Tryz.ntmps85
    go_wp2
    go_ret
    exact ⟨ret_i64 (by omega), rfl⟩

theorem l1Add_any (a b : Int) (ha : 0 ≤ a) (ha' : a ≤ 1000000000000) (hb : 0 ≤ b) (hb' : b ≤ 1000000000000) (w : World) : Calls Tryz.prog 55 #[.int .i64 a, .int .i64 b] w fun e w' => e = .returned (.int .i64 (min 1000000000000 (a + b))) ∧ w' = w := by
  go_enter Tryz.func55, Tryz.ntmps55
  go_wp2_with (go_at_call 85; refine (l1Min_any _ _ _).mono ?_; rintro e w1 ⟨rfl, rfl⟩)
  go_ret
  exact ⟨rfl, rfl⟩

theorem plus_any (a b : Int) (ha : 0 ≤ a) (ha' : a ≤ 1000000000000) (hb : 0 ≤ b) (hb' : b ≤ 1000000000000) (w : World) : Calls Tryz.prog 80 #[.int .i64 a, .int .i64 b] w fun e w' => e = .returned (.int .i64 (min 1000000000000 (a + b))) ∧ w' = w := by
  go_enter Tryz.func80, Tryz.ntmps80
  go_wp2 <;>
  · go_ret
    exact ⟨ret_i64 (by omega), rfl⟩

end Go.Proofs.YtokaechbmnbbiabGreat

/-
  What stands while a metric is customized: the plain part.
-/
set_option linter.unusedVariables false
set_option linter.unusedSimpArgs false
namespace Go.Proofs.YtokaechbmnbbiabGreat
open Go.RowKit Go.Deep Go.Joins
attribute [local go_sem ↓] Go.wp_at_zero Go.wp_at_succ

structure CT (w : World) (c2 c3 s1 s2 : Value) (m bU bV : Nat) (s : (Nat → Int) × (Nat → Int)) (W : World) : Prop where
  bel : Below w.heap.size w W
  h0 : W.cell? ⟨w.heap.size + 1, 0, none⟩ = some c2
  h1 : W.cell? ⟨w.heap.size + 1, 1, none⟩ = some c3
  res : VHas W (w.heap.size + 2) 34 2 (me2 (.slice none 0 0) (.slice none 0 0))
  box : VHas W (w.heap.size + 3) 34 2 (me2 s1 s2)
  up : 0 < m → IHas W bU m s.1
  dn : 0 < m → IHas W bV m s.2
  room : 0 < m → ∀ o q c, s2 = .slice o q c → Cap W bV c
section
variable {w : World} {c2 c3 s1 s2 : Value} {m bU bV : Nat} {s : (Nat → Int) × (Nat → Int)} {W W' : World}
theorem CT.next (h : CT w c2 c3 s1 s2 m bU bV s W) (hb : Below W.heap.size W W') : CT w c2 c3 s1 s2 m bU bV s W' :=
  ⟨below_next h.bel (Nat.le_refl _) hb, keep_cell hb (Nat.le_refl _) h.h0, keep_cell hb (Nat.le_refl _) h.h1, h.res.next hb, h.box.next hb, fun x => (h.up x).below hb (h.up x).lt, fun x => (h.dn x).below hb (h.dn x).lt, fun x o q c e => (h.room x o q c e).of_block (hb.block bV (h.dn x).lt)⟩
theorem CT.setU (h : CT w c2 c3 s1 s2 m bU bV s W) (h1 : w.heap.size + 4 ≤ bU) (hne : bU ≠ bV) (e : Nat) (v : Int) {U' : Nat → Int} (hU : ∀ x, x < m → (if x = e then v else s.1 x) = U' x) : CT w c2 c3 s1 s2 m bU bV (U', s.2) (W.setCell ⟨bU, e, none⟩ (.int .i64 v)) := by
  have hs := gr_setCell W bU e (.int .i64 v)
  have hr : ∀ x, some bU = some x → w.heap.size + 4 ≤ x := fun x q => by cases q; exact h1
  exact ⟨below_far h.bel hs hr (by omega), cell_far h.h0 hs hr (by omega), cell_far h.h1 hs hr (by omega), h.res.far hs hr (by omega), h.box.far hs hr (by omega), fun x => ((h.up x).set e v).congr hU, fun x => (h.dn x).grown hs (by simp; exact fun q => hne q.symm), fun x o q c e => (h.room x o q c e).of_block (hs.block bV (h.dn x).lt (by simp; exact fun q => hne q.symm))⟩
theorem CT.setD (h : CT w c2 c3 s1 s2 m bU bV s W) (h1 : w.heap.size + 4 ≤ bV) (hne : bU ≠ bV) (e : Nat) (v : Int) {D' : Nat → Int} (hD : ∀ x, x < m → (if x = e then v else s.2 x) = D' x) : CT w c2 c3 s1 s2 m bU bV (s.1, D') (W.setCell ⟨bV, e, none⟩ (.int .i64 v)) := by
  have hs := gr_setCell W bV e (.int .i64 v)
  have hr : ∀ x, some bV = some x → w.heap.size + 4 ≤ x := fun x q => by cases q; exact h1
  exact ⟨below_far h.bel hs hr (by omega), cell_far h.h0 hs hr (by omega), cell_far h.h1 hs hr (by omega), h.res.far hs hr (by omega), h.box.far hs hr (by omega), fun x => (h.up x).grown hs (by simp; exact hne), fun x => ((h.dn x).set e v).congr hD, fun x o q c e' => (h.room x o q c e').set e _⟩
end
theorem lastW_in {p : Int} {F T G : Nat → Int} {a b : Int} : ∀ n, arcsB p F T G n = true → 0 ≤ lastW F T G a b n ∧ lastW F T G a b n ≤ 1000000000000
  | 0, _ => by unfold lastW; omega
  | n + 1, h => by
    have h1 := (arcsB_each (n + 1) h n (by omega)).1
    simp [arcB, inB] at h1
    have h2 := lastW_in (a := a) (b := b) n (by simp [arcsB] at h; exact h.1)
    unfold lastW
    split <;> omega

end Go.Proofs.YtokaechbmnbbiabGreat

/-
  The boxes of Customize's arguments and answer.
-/
set_option linter.unusedVariables false
set_option linter.unusedSimpArgs false
namespace Go.Proofs.YtokaechbmnbbiabGreat
open Go.RowKit Go.Deep Go.Joins Go.Maps
attribute [local go_sem ↓] Go.wp_at_zero Go.wp_at_succ

structure B3 (w : World) (c0 c1 c2 c3 : Value) (W : World) : Prop where
  bel : Below w.heap.size w W
  g0 : W.cell? ⟨w.heap.size, 0, none⟩ = some c0
  g1 : W.cell? ⟨w.heap.size, 1, none⟩ = some c1
  h0 : W.cell? ⟨w.heap.size + 1, 0, none⟩ = some c2
  h1 : W.cell? ⟨w.heap.size + 1, 1, none⟩ = some c3
  res : VHas W (w.heap.size + 2) 34 2 (me2 (.slice none 0 0) (.slice none 0 0))
theorem B3.next {w : World} {c0 c1 c2 c3 : Value} {W W' : World} (h : B3 w c0 c1 c2 c3 W) (hb : Below W.heap.size W W') : B3 w c0 c1 c2 c3 W' :=
  ⟨below_next h.bel (Nat.le_refl _) hb, keep_cell hb (Nat.le_refl _) h.g0, keep_cell hb (Nat.le_refl _) h.g1, keep_cell hb (Nat.le_refl _) h.h0, keep_cell hb (Nat.le_refl _) h.h1, h.res.next hb⟩
theorem b3_new (w : World) (c0 c1 c2 c3 : Value) : B3 w c0 c1 c2 c3 (((w.alloc (.cells #[c0, c1] 26)).alloc (.cells #[c2, c3] 30)).alloc (.cells #[.slice none 0 0, .slice none 0 0] 34)) := by
  refine ⟨(((Below.refl _ w).alloc (Nat.le_refl _) _).alloc (by simp) _).alloc (by simp; omega) _, by simp [go_sem], by simp [go_sem], by simp [go_sem], by simp [go_sem], ?_⟩
  have := me2_new ((w.alloc (.cells #[c0, c1] 26)).alloc (.cells #[c2, c3] 30)) (.slice none 0 0) (.slice none 0 0)
  simpa using this

end Go.Proofs.YtokaechbmnbbiabGreat

/-
  The document's l4Find.
-/
set_option linter.unusedVariables false
set_option linter.unusedSimpArgs false
namespace Go.Proofs.YtokaechbmnbbiabGreat
open Go.RowKit
attribute [local go_sem ↓] Go.wp_at_zero Go.wp_at_succ

set_option maxHeartbeats 800000 in
theorem l4Find_any (ao : Option Addr) (n cap : Nat) (L H : Nat → Int) (a b : Int) (hn : n ≤ 1048576) (w : World) (hr : ERow w ao n L H) :
    Calls Tryz.prog 54 #[.slice ao n cap, .int .i64 a, .int .i64 b] w fun e w' => ∃ r : Int, e = .returned (.int .i64 r) ∧ (r < 0 ↔ ¬ Hs n L H a b) ∧ Below w.heap.size w w' := by
  go_enter Tryz.func54, Tryz.ntmps54
  go_wp2
  go_loopw [7] (fun i wr => ∃ k : Nat, k ≤ n ∧ i = .int .i64 k ∧ (∀ j, j < k → ¬ (L j = a ∧ H j = b)) ∧ Below w.heap.size w wr) (fun i _ => n - (intOf i).toNat)
  case atStart => exact ⟨0, Nat.zero_le _, rfl, fun j hj => by omega, Below.refl _ _⟩
  case round =>
    obtain ⟨k, hk, rfl, hno, hbel⟩ := hrel
    have HNO : Hid (∀ j, j < k → ¬ (L j = a ∧ H j = b)) := hno
    clear hno
    by_cases hlt : k < n
    rotate_left
    · have hkn : k = n := by omega
      subst hkn
      go_wp2
      go_ret
      exact ⟨_, rfl, ⟨fun _ ⟨i, h1, h2⟩ => HNO.out i h1 h2, fun _ => by omega⟩, hbel⟩
    obtain ⟨bb, o, hao, c0, c1⟩ := (hr.below hbel (Nat.le_refl _)) k hlt
    subst hao
    have hk1 : (0 : Int) ≤ (k : Int) := by omega
    have hk2 : (k : Int) < (n : Int) := by omega
    by_cases h1 : L k = a
    rotate_left
    · have hd : decide (L k = a) = false := by simpa using h1
      go_wp2
      go_roundw
      case rel => exact ⟨k + 1, by omega, by go_num, fun j hj => by
        by_cases e : j = k
        · subst e; exact fun h => h1 h.1
        · exact HNO.out j (by omega), hbel⟩
      case measure => simp [intOf]; omega
    by_cases h2 : H k = b
    · have hs : Hid (Hs n L H a b) := ⟨k, hlt, h1, h2⟩
      go_wp2
      go_ret
      exact ⟨_, rfl, ⟨fun h => by omega, fun h => absurd hs.out h⟩, hbel⟩
    · go_wp2
      go_roundw
      case rel => exact ⟨k + 1, by omega, by go_num, fun j hj => by
        by_cases e : j = k
        · subst e; exact fun h => h2 h.2
        · exact HNO.out j (by omega), hbel⟩
      case measure => simp [intOf]; omega

end Go.Proofs.YtokaechbmnbbiabGreat

/-
  The document's l4Find, where the edge is.
-/
set_option linter.unusedVariables false
set_option linter.unusedSimpArgs false
namespace Go.Proofs.YtokaechbmnbbiabGreat
open Go.RowKit
attribute [local go_sem ↓] Go.wp_at_zero Go.wp_at_succ

set_option maxHeartbeats 800000 in
theorem l4Find_is (ao : Option Addr) (n cap : Nat) (L H : Nat → Int) (a b : Int) (q : Nat) (hq : q < n) (h1 : L q = a) (h2 : H q = b) (hu : ∀ j, j < n → L j = a → H j = b → j = q) (hn : n ≤ 1048576) (w : World) (hr : ERow w ao n L H) :
    Calls Tryz.prog 54 #[.slice ao n cap, .int .i64 a, .int .i64 b] w fun e w' => e = .returned (.int .i64 (q : Int)) ∧ Below w.heap.size w w' := by
  have HU : Hid (∀ j, j < n → L j = a → H j = b → j = q) := hu
  have HQ : Hid (q < n ∧ L q = a ∧ H q = b) := ⟨hq, h1, h2⟩
  clear hu hq h1 h2
  go_enter Tryz.func54, Tryz.ntmps54
  go_wp2
  go_loopw [7] (fun i wr => ∃ k : Nat, k ≤ n ∧ i = .int .i64 k ∧ (∀ j, j < k → ¬ (L j = a ∧ H j = b)) ∧ Below w.heap.size w wr) (fun i _ => n - (intOf i).toNat)
  case atStart => exact ⟨0, Nat.zero_le _, rfl, fun j hj => by omega, Below.refl _ _⟩
  case round =>
    obtain ⟨k, hk, rfl, hno, hbel⟩ := hrel
    have HNO : Hid (∀ j, j < k → ¬ (L j = a ∧ H j = b)) := hno
    clear hno
    by_cases hlt : k < n
    rotate_left
    · have hkn : k = n := by omega
      subst hkn
      go_wp2
      go_ret
      exact absurd ⟨HQ.out.2.1, HQ.out.2.2⟩ (HNO.out q HQ.out.1)
    obtain ⟨bb, o, hao, c0, c1⟩ := (hr.below hbel (Nat.le_refl _)) k hlt
    subst hao
    have hk1 : (0 : Int) ≤ (k : Int) := by omega
    have hk2 : (k : Int) < (n : Int) := by omega
    by_cases h1 : L k = a
    rotate_left
    · have hd : decide (L k = a) = false := by simpa using h1
      go_wp2
      go_roundw
      case rel => exact ⟨k + 1, by omega, by go_num, fun j hj => by
        by_cases e : j = k
        · subst e; exact fun h => h1 h.1
        · exact HNO.out j (by omega), hbel⟩
      case measure => simp [intOf]; omega
    by_cases h2 : H k = b
    · have hs : Hid (k = q) := HU.out k hlt h1 h2
      go_wp2
      go_ret
      exact ⟨by rw [hs.out]; rfl, hbel⟩
    · go_wp2
      go_roundw
      case rel => exact ⟨k + 1, by omega, by go_num, fun j hj => by
        by_cases e : j = k
        · subst e; exact fun h => h2 h.2
        · exact HNO.out j (by omega), hbel⟩
      case measure => simp [intOf]; omega

end Go.Proofs.YtokaechbmnbbiabGreat

/-
  The weight of an arc, the document's.
-/
set_option linter.unusedVariables false
set_option linter.unusedSimpArgs false
namespace Go.Proofs.YtokaechbmnbbiabGreat
open Go.RowKit Go.Maps

set_option maxHeartbeats 1000000 in
theorem l1Weight_any (p : Int) (ao : Option Addr) (n cap : Nat) (F T G : Nat → Int) (a c : Int) (hn : n ≤ 1048576) (hg : arcsB p F T G n = true) (w : World) (hr : Row w ao n F T G) :
    Calls Tryz.prog 84 #[.agg #[.int .i64 p, .slice ao n cap], .int .i64 a, .int .i64 c] w fun e w' => e = .returned (.int .i64 (lastW F T G a c n)) ∧ Below w.heap.size w w' := by
  have HG : Hid (arcsB p F T G n = true) := hg
  clear hg
  go_enter Tryz.func84, Tryz.ntmps84
  go_wp2
  go_loop [7] (fun i => ∃ k : Nat, k ≤ n ∧ i = .int .i64 k ∧ Hid (∀ j, j < k → ¬ (F j = a ∧ T j = c))) (fun i => n - (intOf i).toNat)
  case atStart => exact ⟨0, Nat.zero_le _, rfl, fun j hj => by omega⟩
  case round =>
    obtain ⟨k, hk, rfl, hno⟩ := hrel
    by_cases hlt : k < n
    rotate_left
    · have hkn : k = n := by omega
      subst hkn
      go_wp2
      go_ret
      exact ⟨ret_i64 (lastW_none k hno.out).symm, (Below.refl _ _).alloc (Nat.le_refl _) _⟩
    obtain ⟨b, o, hao, c0, c1, c2⟩ := (hr.alloc (.cells #[.int .i64 p, .slice ao n cap] 26)) k hlt
    subst hao
    rcases Bool.eq_false_or_eq_true (F k == a) with hF | hF
    · rcases Bool.eq_false_or_eq_true (T k == c) with hT | hT
      · go_wp2
        go_ret
        have eF : F k = a := by simpa using hF
        have eT : T k = c := by simpa using hT
        exact ⟨ret_i64 (lastW_at n (fun j hj e1 e2 => unique HG.out hj hlt (e1.trans eF.symm) (e2.trans eT.symm)) hlt eF eT).symm, (Below.refl _ _).alloc (Nat.le_refl _) _⟩
      · go_wp2
        go_round
        case rel => exact ⟨k + 1, by omega, by go_num, fun j hj => by
          by_cases e : j = k
          · subst e; simp at hT; exact fun h => hT h.2
          · exact hno.out j (by omega)⟩
        case measure => simp [intOf]; omega
    · go_wp2
      go_round
      case rel => exact ⟨k + 1, by omega, by go_num, fun j hj => by
        by_cases e : j = k
        · subst e; simp at hF; exact fun h => hF h.1
        · exact hno.out j (by omega)⟩
      case measure => simp [intOf]; omega

end Go.Proofs.YtokaechbmnbbiabGreat

/-
  The document's draw of a map and its hierarchy, right or not: the walk.
-/
set_option linter.unusedVariables false
set_option linter.unusedSimpArgs false
namespace Go.Proofs.YtokaechbmnbbiabGreat
open Go.RowKit Go.Maps Go.Deep Go.Joins
attribute [local go_sem ↓] Go.wp_at_zero Go.wp_at_succ

def DrawnGH (w : World) (base c : Nat) (ao : Option Addr) (n cap : Nat) (e : Ending) (w' : World) : Prop := ∃ (p : Int) (go : Option Addr) (k gc : Nat) (po : Option Addr) (m pc : Nat) (P : Nat → Int) (eo : Option Addr) (q ec : Nat) (L H : Nat → Int), e = .returned (.tuple #[.agg #[.int .i64 p, .slice go k gc], .agg #[.slice po m pc, .slice eo q ec]]) ∧ (k ≤ 200 ∧ m ≤ 24 ∧ q ≤ 217 ∧ q ≤ ec) ∧ HR w base c ao n cap go k gc po m P eo q L H w'

set_option maxRecDepth 100000 in
set_option maxHeartbeats 8000000 in
theorem l5DrawAny_any (base c : Nat) (ao : Option Addr) (n cap : Nat) (w : World) (hC : CurAt w base c ao n cap) :
    Calls Tryz.prog 44 #[.pointer (some ⟨c, 0, none⟩)] w fun e w' => DrawnGH w base c ao n cap e w' := by
  have hcl := hC.lt
  have hge := hC.ge
  have hal1 := (Below.refl w.heap.size w).alloc (Nat.le_refl _) (.cells #[.int .i64 0, .slice none 0 0] 26)
  have hal2 := (Below.refl _ (w.alloc (.cells #[.int .i64 0, .slice none 0 0] 26))).alloc (Nat.le_refl _) (.cells #[.slice none 0 0, .slice none 0 0] 30)
  have hC0 := (hC.next hal1).next hal2
  have rg := (gr_new w 0 (.slice none 0 0)).next hal2
  have rh := hi2_new (w.alloc (.cells #[.int .i64 0, .slice none 0 0] 26)) (.slice none 0 0) (.slice none 0 0)
  have gr0 : w.grownBy ((w.alloc (.cells #[.int .i64 0, .slice none 0 0] 26)).alloc (.cells #[.slice none 0 0, .slice none 0 0] 30)) (some c) := (⟨hal1.os, hal1.tape, hal1.output, hal1.size, fun k hk _ => hal1.block k hk⟩ : w.grownBy _ (some c)).trans ⟨hal2.os, hal2.tape, hal2.output, hal2.size, fun k hk _ => hal2.block k hk⟩
  have hz0 : ((w.alloc (.cells #[.int .i64 0, .slice none 0 0] 26)).alloc (.cells #[.slice none 0 0, .slice none 0 0] 30)).heap.size = w.heap.size + 2 := by simp
  go_enter Tryz.func44, Tryz.ntmps44
  go_wp2_with fail
  generalize ((w.alloc (.cells #[.int .i64 0, .slice none 0 0] 26)).alloc (.cells #[.slice none 0 0, .slice none 0 0] 30)) = W0 at hC0 rg rh gr0 hz0 ⊢
  simp only [World.size_alloc] at rh
  clear hal1 hal2
  refine (l5Draw_any base c ao n cap _ hC0).mono ?_
  rintro e w1 ⟨p, go, k, gc, po, m, pc, P, eo, ec, l, rfl, ⟨hk, hm, hl⟩, hD⟩
  have hs1 := hD.gr.size
  have ha1 := (Below.refl w1.heap.size w1).alloc (Nat.le_refl _) (.cells #[.int .i64 p, .slice go k gc] 26)
  have ha2 := (Below.refl _ (w1.alloc (.cells #[.int .i64 p, .slice go k gc] 26))).alloc (Nat.le_refl _) (.cells #[.slice po m pc, .slice eo l.length ec] 30)
  have hO : ∀ a, po = some a → 0 < m → w.heap.size + 2 ≤ a.block ∧ a.block ≠ w1.heap.size ∧ a.block ≠ w1.heap.size + 1 := fun a e h0 => by
    have h1 := hD.ordb a e h0
    obtain ⟨b9, o9, e9, c9⟩ := hD.ord 0 h0
    rw [e] at e9
    cases e9
    have h2 := lt_of_cell c9
    simp only at h1 ⊢
    omega
  have hW : HW w base c ao n cap w1.heap.size (w1.heap.size + 1) p go k gc po m pc P eo ec l ((w1.alloc (.cells #[.int .i64 p, .slice go k gc] 26)).alloc (.cells #[.slice po m pc, .slice eo l.length ec] 30)) :=
    ⟨(hD.cur.next ha1).next ha2, ((gr0.trans hD.gr).trans ⟨ha1.os, ha1.tape, ha1.output, ha1.size, fun k hk _ => ha1.block k hk⟩).trans ⟨ha2.os, ha2.tape, ha2.output, ha2.size, fun k hk _ => ha2.block k hk⟩, ((rg.grown hD.gr (by simp; omega)).next ha1).next ha2, ((rh.grown hD.gr (by simp; omega)).next ha1).next ha2, (gr_new w1 p (.slice go k gc)).next ha2, by have := hi2_new (w1.alloc (.cells #[.int .i64 p, .slice go k gc] 26)) (.slice po m pc) (.slice eo l.length ec); simpa only [World.size_alloc] using this, ((hD.arcs.from (by omega)).next ha1).next ha2, (hD.ord.below ha1 (Nat.le_refl _)).below ha2 (Nat.le_refl _), hO, ((hD.edg.from (by omega)).next ha1).next ha2, by omega, hD.sep⟩
  have hs2 : ((w1.alloc (.cells #[.int .i64 p, .slice go k gc] 26)).alloc (.cells #[.slice po m pc, .slice eo l.length ec] 30)).heap.size = w1.heap.size + 2 := by simp
  clear ha1 ha2 hO hD rg rh gr0 hC0
  go_wp2_with fail
  generalize ((w1.alloc (.cells #[.int .i64 p, .slice go k gc] 26)).alloc (.cells #[.slice po m pc, .slice eo l.length ec] 30)) = W2 at hW hs2 ⊢
  generalize w1.heap.size = gb at hW hs1 hs2 ⊢
  refine (l1Once_any base c ao n cap 12 (by omega) (by omega) _ hW.cur).mono ?_
  rintro e w3 ⟨bx, rfl, hC3, hg3⟩
  replace hW := hW.step hcl hC3 hg3
  have hs3 := hg3.size
  clear hC3 hg3
  cases bx
  · skip
    have HBX := hW.hbx
    have GBX := hW.gbx
    have r0 : w3.cell? ⟨w.heap.size, 0, none⟩ = some (.int .i64 0) := hW.rg.cell (j := 0) (by omega)
    have r1 : w3.cell? ⟨w.heap.size, 1, none⟩ = some (.slice none 0 0) := hW.rg.cell (j := 1) (by omega)
    have r2 : w3.cell? ⟨w.heap.size + 1, 0, none⟩ = some (.slice none 0 0) := hW.rh.cell (j := 0) (by omega)
    have r3 : w3.cell? ⟨w.heap.size + 1, 1, none⟩ = some (.slice none 0 0) := hW.rh.cell (j := 1) (by omega)
    have f0 : w3.cell? ⟨gb + 1, 0, none⟩ = some (.slice po m pc) := HBX.cell (j := 0) (by omega)
    have f1 : w3.cell? ⟨gb + 1, 1, none⟩ = some (.slice eo (l).length ec) := HBX.cell (j := 1) (by omega)
    have e0 : w3.cell? ⟨gb, 0, none⟩ = some (.int .i64 p) := GBX.cell (j := 0) (by omega)
    have e1 : w3.cell? ⟨gb, 1, none⟩ = some (.slice go k gc) := GBX.cell (j := 1) (by omega)
    have z0 := hW.rg.frozen 0
    have z1 := hW.rg.frozen 1
    have z2 := hW.rh.frozen 0
    have z3 := hW.rh.frozen 1
    have hne := hW.ne
    have hlr := hW.rh.lt
    go_wp2
    go_region_law (fail)
    all_goals
      go_wp2
      have hO := hW.out hcl (.int .i64 p) (.slice go k gc) (.slice po m pc) (.slice eo (l).length ec)
      have d0 : ((((w3.setCell ⟨w.heap.size, 0, none⟩ (.int .i64 p)).setCell ⟨w.heap.size, 1, none⟩ (.slice go k gc)).setCell ⟨w.heap.size + 1, 0, none⟩ (.slice po m pc)).setCell ⟨w.heap.size + 1, 1, none⟩ (.slice eo (l).length ec)).cell? ⟨w.heap.size, 0, none⟩ = some (.int .i64 p) := by simp [go_sem, r0, r1, r2, r3]
      have d1 : ((((w3.setCell ⟨w.heap.size, 0, none⟩ (.int .i64 p)).setCell ⟨w.heap.size, 1, none⟩ (.slice go k gc)).setCell ⟨w.heap.size + 1, 0, none⟩ (.slice po m pc)).setCell ⟨w.heap.size + 1, 1, none⟩ (.slice eo (l).length ec)).cell? ⟨w.heap.size, 1, none⟩ = some (.slice go k gc) := by simp [go_sem, r0, r1, r2, r3]
      have d2 : ((((w3.setCell ⟨w.heap.size, 0, none⟩ (.int .i64 p)).setCell ⟨w.heap.size, 1, none⟩ (.slice go k gc)).setCell ⟨w.heap.size + 1, 0, none⟩ (.slice po m pc)).setCell ⟨w.heap.size + 1, 1, none⟩ (.slice eo (l).length ec)).cell? ⟨w.heap.size + 1, 0, none⟩ = some (.slice po m pc) := by simp [go_sem, r0, r1, r2, r3]
      have d3 : ((((w3.setCell ⟨w.heap.size, 0, none⟩ (.int .i64 p)).setCell ⟨w.heap.size, 1, none⟩ (.slice go k gc)).setCell ⟨w.heap.size + 1, 0, none⟩ (.slice po m pc)).setCell ⟨w.heap.size + 1, 1, none⟩ (.slice eo (l).length ec)).cell? ⟨w.heap.size + 1, 1, none⟩ = some (.slice eo (l).length ec) := by simp [go_sem, r0, r1, r2, r3]
      generalize ((((w3.setCell ⟨w.heap.size, 0, none⟩ (.int .i64 p)).setCell ⟨w.heap.size, 1, none⟩ (.slice go k gc)).setCell ⟨w.heap.size + 1, 0, none⟩ (.slice po m pc)).setCell ⟨w.heap.size + 1, 1, none⟩ (.slice eo (l).length ec)) = WX at hO d0 d1 d2 d3 ⊢
      clear r0 r1 r2 r3 z0 z1 z2 z3
      simp [bodyPost, results, Tryz.results44, go_sem, d0, d1, d2, d3]
      exact ⟨p, go, k, gc, po, m, pc, P, eo, (l).length, ec, _, _, rfl, by have := hO.edg.room; first | omega | (simp; omega), hO.hr.next (Below.refl _ _).drew⟩
  go_wp2_with fail
  refine (l1Below_any base c ao n cap 4 (by omega) (by omega) _ hW.cur).mono ?_
  rintro e w4 ⟨z, rfl, hz, hC4, hg4⟩
  replace hW := hW.step hcl hC4 hg4
  have hs4 := hg4.size
  clear hC4 hg4
  have hz4 : z = 0 ∨ z = 1 ∨ z = 2 ∨ z = 3 := by omega
  rcases hz4 with rfl | rfl | rfl | rfl
  · go_wp2_with fail
    refine (l1DrawAny_any base c ao n cap _ hW.cur).mono ?_
    rintro e w5 ⟨p', go', k', gc', rfl, hk', hA5, hC5, hg5⟩
    have hs4' := hW.hbx.lt
    have hne := hW.ne
    replace hW := hW.step hcl hC5 hg5
    clear hC5 hg5
    have e0 : w5.cell? ⟨gb, 0, none⟩ = some (.int .i64 p) := hW.gbx.cell (j := 0) (by omega)
    have e1 : w5.cell? ⟨gb, 1, none⟩ = some (.slice go k gc) := hW.gbx.cell (j := 1) (by omega)
    have y0 := hW.gbx.frozen 0
    have y1 := hW.gbx.frozen 1
    replace hW := hW.setG hcl (p' := p') (hA5.from (by omega))
    go_wp2
    generalize ((w5.setCell ⟨gb, 0, none⟩ (.int .i64 p')).setCell ⟨gb, 1, none⟩ (.slice go' k' gc')) = W6 at hW ⊢
    clear e0 e1 y0 y1 hne
    have HBX := hW.hbx
    have GBX := hW.gbx
    have r0 : W6.cell? ⟨w.heap.size, 0, none⟩ = some (.int .i64 0) := hW.rg.cell (j := 0) (by omega)
    have r1 : W6.cell? ⟨w.heap.size, 1, none⟩ = some (.slice none 0 0) := hW.rg.cell (j := 1) (by omega)
    have r2 : W6.cell? ⟨w.heap.size + 1, 0, none⟩ = some (.slice none 0 0) := hW.rh.cell (j := 0) (by omega)
    have r3 : W6.cell? ⟨w.heap.size + 1, 1, none⟩ = some (.slice none 0 0) := hW.rh.cell (j := 1) (by omega)
    have f0 : W6.cell? ⟨gb + 1, 0, none⟩ = some (.slice po m pc) := HBX.cell (j := 0) (by omega)
    have f1 : W6.cell? ⟨gb + 1, 1, none⟩ = some (.slice eo (l).length ec) := HBX.cell (j := 1) (by omega)
    have e0 : W6.cell? ⟨gb, 0, none⟩ = some (.int .i64 p') := GBX.cell (j := 0) (by omega)
    have e1 : W6.cell? ⟨gb, 1, none⟩ = some (.slice go' k' gc') := GBX.cell (j := 1) (by omega)
    have z0 := hW.rg.frozen 0
    have z1 := hW.rg.frozen 1
    have z2 := hW.rh.frozen 0
    have z3 := hW.rh.frozen 1
    have hne := hW.ne
    have hlr := hW.rh.lt
    go_wp2
    go_region_law (fail)
    all_goals
      go_wp2
      have hO := hW.out hcl (.int .i64 p') (.slice go' k' gc') (.slice po m pc) (.slice eo (l).length ec)
      have d0 : ((((W6.setCell ⟨w.heap.size, 0, none⟩ (.int .i64 p')).setCell ⟨w.heap.size, 1, none⟩ (.slice go' k' gc')).setCell ⟨w.heap.size + 1, 0, none⟩ (.slice po m pc)).setCell ⟨w.heap.size + 1, 1, none⟩ (.slice eo (l).length ec)).cell? ⟨w.heap.size, 0, none⟩ = some (.int .i64 p') := by simp [go_sem, r0, r1, r2, r3]
      have d1 : ((((W6.setCell ⟨w.heap.size, 0, none⟩ (.int .i64 p')).setCell ⟨w.heap.size, 1, none⟩ (.slice go' k' gc')).setCell ⟨w.heap.size + 1, 0, none⟩ (.slice po m pc)).setCell ⟨w.heap.size + 1, 1, none⟩ (.slice eo (l).length ec)).cell? ⟨w.heap.size, 1, none⟩ = some (.slice go' k' gc') := by simp [go_sem, r0, r1, r2, r3]
      have d2 : ((((W6.setCell ⟨w.heap.size, 0, none⟩ (.int .i64 p')).setCell ⟨w.heap.size, 1, none⟩ (.slice go' k' gc')).setCell ⟨w.heap.size + 1, 0, none⟩ (.slice po m pc)).setCell ⟨w.heap.size + 1, 1, none⟩ (.slice eo (l).length ec)).cell? ⟨w.heap.size + 1, 0, none⟩ = some (.slice po m pc) := by simp [go_sem, r0, r1, r2, r3]
      have d3 : ((((W6.setCell ⟨w.heap.size, 0, none⟩ (.int .i64 p')).setCell ⟨w.heap.size, 1, none⟩ (.slice go' k' gc')).setCell ⟨w.heap.size + 1, 0, none⟩ (.slice po m pc)).setCell ⟨w.heap.size + 1, 1, none⟩ (.slice eo (l).length ec)).cell? ⟨w.heap.size + 1, 1, none⟩ = some (.slice eo (l).length ec) := by simp [go_sem, r0, r1, r2, r3]
      generalize ((((W6.setCell ⟨w.heap.size, 0, none⟩ (.int .i64 p')).setCell ⟨w.heap.size, 1, none⟩ (.slice go' k' gc')).setCell ⟨w.heap.size + 1, 0, none⟩ (.slice po m pc)).setCell ⟨w.heap.size + 1, 1, none⟩ (.slice eo (l).length ec)) = WX at hO d0 d1 d2 d3 ⊢
      clear r0 r1 r2 r3 z0 z1 z2 z3
      simp [bodyPost, results, Tryz.results44, go_sem, d0, d1, d2, d3]
      exact ⟨p', go', k', gc', po, m, pc, P, eo, (l).length, ec, _, _, rfl, by have := hO.edg.room; first | omega | (simp; omega), hO.hr.next (Below.refl _ _).drew⟩
  · have e0 : w4.cell? ⟨gb, 0, none⟩ = some (.int .i64 p) := hW.gbx.cell (j := 0) (by omega)
    have e1 : w4.cell? ⟨gb, 1, none⟩ = some (.slice go k gc) := hW.gbx.cell (j := 1) (by omega)
    obtain ⟨F, T, G, hr4, _⟩ := hW.arcs.row
    have hs4' := hW.hbx.lt
    have hne := hW.ne
    go_wp2_with fail
    refine (l3DrawOrder_any base c ao n cap p go k gc F T G (by omega) _ hW.cur hr4).mono ?_
    rintro e w5 ⟨po', m', pc', P', rfl, hm', hpb', hP', hC5, hg5⟩
    have hes := fun x e => (hW.edg.at (x := x) e).2
    replace hW := hW.step hcl hC5 hg5
    clear hC5 hg5 e0 e1 hr4
    have f0 : w5.cell? ⟨gb + 1, 0, none⟩ = some (.slice po m pc) := hW.hbx.cell (j := 0) (by omega)
    have y0 := hW.hbx.frozen 0
    replace hW := hW.setO hcl (pc' := pc') hP' (fun a e h0 => by have := hpb' a e h0; omega) (fun a x e h0 q => by have := hpb' a e h0; have := hes x q; omega)
    go_wp2
    generalize (w5.setCell ⟨gb + 1, 0, none⟩ (.slice po' m' pc')) = W6 at hW ⊢
    clear f0 y0 hne hes
    have HBX := hW.hbx
    have GBX := hW.gbx
    have r0 : W6.cell? ⟨w.heap.size, 0, none⟩ = some (.int .i64 0) := hW.rg.cell (j := 0) (by omega)
    have r1 : W6.cell? ⟨w.heap.size, 1, none⟩ = some (.slice none 0 0) := hW.rg.cell (j := 1) (by omega)
    have r2 : W6.cell? ⟨w.heap.size + 1, 0, none⟩ = some (.slice none 0 0) := hW.rh.cell (j := 0) (by omega)
    have r3 : W6.cell? ⟨w.heap.size + 1, 1, none⟩ = some (.slice none 0 0) := hW.rh.cell (j := 1) (by omega)
    have f0 : W6.cell? ⟨gb + 1, 0, none⟩ = some (.slice po' m' pc') := HBX.cell (j := 0) (by omega)
    have f1 : W6.cell? ⟨gb + 1, 1, none⟩ = some (.slice eo (l).length ec) := HBX.cell (j := 1) (by omega)
    have e0 : W6.cell? ⟨gb, 0, none⟩ = some (.int .i64 p) := GBX.cell (j := 0) (by omega)
    have e1 : W6.cell? ⟨gb, 1, none⟩ = some (.slice go k gc) := GBX.cell (j := 1) (by omega)
    have z0 := hW.rg.frozen 0
    have z1 := hW.rg.frozen 1
    have z2 := hW.rh.frozen 0
    have z3 := hW.rh.frozen 1
    have hne := hW.ne
    have hlr := hW.rh.lt
    go_wp2
    go_region_law (fail)
    all_goals
      go_wp2
      have hO := hW.out hcl (.int .i64 p) (.slice go k gc) (.slice po' m' pc') (.slice eo (l).length ec)
      have d0 : ((((W6.setCell ⟨w.heap.size, 0, none⟩ (.int .i64 p)).setCell ⟨w.heap.size, 1, none⟩ (.slice go k gc)).setCell ⟨w.heap.size + 1, 0, none⟩ (.slice po' m' pc')).setCell ⟨w.heap.size + 1, 1, none⟩ (.slice eo (l).length ec)).cell? ⟨w.heap.size, 0, none⟩ = some (.int .i64 p) := by simp [go_sem, r0, r1, r2, r3]
      have d1 : ((((W6.setCell ⟨w.heap.size, 0, none⟩ (.int .i64 p)).setCell ⟨w.heap.size, 1, none⟩ (.slice go k gc)).setCell ⟨w.heap.size + 1, 0, none⟩ (.slice po' m' pc')).setCell ⟨w.heap.size + 1, 1, none⟩ (.slice eo (l).length ec)).cell? ⟨w.heap.size, 1, none⟩ = some (.slice go k gc) := by simp [go_sem, r0, r1, r2, r3]
      have d2 : ((((W6.setCell ⟨w.heap.size, 0, none⟩ (.int .i64 p)).setCell ⟨w.heap.size, 1, none⟩ (.slice go k gc)).setCell ⟨w.heap.size + 1, 0, none⟩ (.slice po' m' pc')).setCell ⟨w.heap.size + 1, 1, none⟩ (.slice eo (l).length ec)).cell? ⟨w.heap.size + 1, 0, none⟩ = some (.slice po' m' pc') := by simp [go_sem, r0, r1, r2, r3]
      have d3 : ((((W6.setCell ⟨w.heap.size, 0, none⟩ (.int .i64 p)).setCell ⟨w.heap.size, 1, none⟩ (.slice go k gc)).setCell ⟨w.heap.size + 1, 0, none⟩ (.slice po' m' pc')).setCell ⟨w.heap.size + 1, 1, none⟩ (.slice eo (l).length ec)).cell? ⟨w.heap.size + 1, 1, none⟩ = some (.slice eo (l).length ec) := by simp [go_sem, r0, r1, r2, r3]
      generalize ((((W6.setCell ⟨w.heap.size, 0, none⟩ (.int .i64 p)).setCell ⟨w.heap.size, 1, none⟩ (.slice go k gc)).setCell ⟨w.heap.size + 1, 0, none⟩ (.slice po' m' pc')).setCell ⟨w.heap.size + 1, 1, none⟩ (.slice eo (l).length ec)) = WX at hO d0 d1 d2 d3 ⊢
      clear r0 r1 r2 r3 z0 z1 z2 z3
      simp [bodyPost, results, Tryz.results44, go_sem, d0, d1, d2, d3]
      exact ⟨p, go, k, gc, po', m', pc', P', eo, (l).length, ec, _, _, rfl, by have := hO.edg.room; first | omega | (simp; omega), hO.hr.next (Below.refl _ _).drew⟩
  · have f1 : w4.cell? ⟨gb + 1, 1, none⟩ = some (.slice eo l.length ec) := hW.hbx.cell (j := 1) (by omega)
    by_cases hl0 : 0 < l.length
    rotate_left
    · have hl0' : ¬ 0 < (l.length : Int) := by omega
      skip
      have HBX := hW.hbx
      have GBX := hW.gbx
      have r0 : w4.cell? ⟨w.heap.size, 0, none⟩ = some (.int .i64 0) := hW.rg.cell (j := 0) (by omega)
      have r1 : w4.cell? ⟨w.heap.size, 1, none⟩ = some (.slice none 0 0) := hW.rg.cell (j := 1) (by omega)
      have r2 : w4.cell? ⟨w.heap.size + 1, 0, none⟩ = some (.slice none 0 0) := hW.rh.cell (j := 0) (by omega)
      have r3 : w4.cell? ⟨w.heap.size + 1, 1, none⟩ = some (.slice none 0 0) := hW.rh.cell (j := 1) (by omega)
      have f0 : w4.cell? ⟨gb + 1, 0, none⟩ = some (.slice po m pc) := HBX.cell (j := 0) (by omega)
      have f1 : w4.cell? ⟨gb + 1, 1, none⟩ = some (.slice eo (l).length ec) := HBX.cell (j := 1) (by omega)
      have e0 : w4.cell? ⟨gb, 0, none⟩ = some (.int .i64 p) := GBX.cell (j := 0) (by omega)
      have e1 : w4.cell? ⟨gb, 1, none⟩ = some (.slice go k gc) := GBX.cell (j := 1) (by omega)
      have z0 := hW.rg.frozen 0
      have z1 := hW.rg.frozen 1
      have z2 := hW.rh.frozen 0
      have z3 := hW.rh.frozen 1
      have hne := hW.ne
      have hlr := hW.rh.lt
      go_wp2
      go_region_law (fail)
      all_goals
        go_wp2
        have hO := hW.out hcl (.int .i64 p) (.slice go k gc) (.slice po m pc) (.slice eo (l).length ec)
        have d0 : ((((w4.setCell ⟨w.heap.size, 0, none⟩ (.int .i64 p)).setCell ⟨w.heap.size, 1, none⟩ (.slice go k gc)).setCell ⟨w.heap.size + 1, 0, none⟩ (.slice po m pc)).setCell ⟨w.heap.size + 1, 1, none⟩ (.slice eo (l).length ec)).cell? ⟨w.heap.size, 0, none⟩ = some (.int .i64 p) := by simp [go_sem, r0, r1, r2, r3]
        have d1 : ((((w4.setCell ⟨w.heap.size, 0, none⟩ (.int .i64 p)).setCell ⟨w.heap.size, 1, none⟩ (.slice go k gc)).setCell ⟨w.heap.size + 1, 0, none⟩ (.slice po m pc)).setCell ⟨w.heap.size + 1, 1, none⟩ (.slice eo (l).length ec)).cell? ⟨w.heap.size, 1, none⟩ = some (.slice go k gc) := by simp [go_sem, r0, r1, r2, r3]
        have d2 : ((((w4.setCell ⟨w.heap.size, 0, none⟩ (.int .i64 p)).setCell ⟨w.heap.size, 1, none⟩ (.slice go k gc)).setCell ⟨w.heap.size + 1, 0, none⟩ (.slice po m pc)).setCell ⟨w.heap.size + 1, 1, none⟩ (.slice eo (l).length ec)).cell? ⟨w.heap.size + 1, 0, none⟩ = some (.slice po m pc) := by simp [go_sem, r0, r1, r2, r3]
        have d3 : ((((w4.setCell ⟨w.heap.size, 0, none⟩ (.int .i64 p)).setCell ⟨w.heap.size, 1, none⟩ (.slice go k gc)).setCell ⟨w.heap.size + 1, 0, none⟩ (.slice po m pc)).setCell ⟨w.heap.size + 1, 1, none⟩ (.slice eo (l).length ec)).cell? ⟨w.heap.size + 1, 1, none⟩ = some (.slice eo (l).length ec) := by simp [go_sem, r0, r1, r2, r3]
        generalize ((((w4.setCell ⟨w.heap.size, 0, none⟩ (.int .i64 p)).setCell ⟨w.heap.size, 1, none⟩ (.slice go k gc)).setCell ⟨w.heap.size + 1, 0, none⟩ (.slice po m pc)).setCell ⟨w.heap.size + 1, 1, none⟩ (.slice eo (l).length ec)) = WX at hO d0 d1 d2 d3 ⊢
        clear r0 r1 r2 r3 z0 z1 z2 z3
        simp [bodyPost, results, Tryz.results44, go_sem, d0, d1, d2, d3]
        exact ⟨p, go, k, gc, po, m, pc, P, eo, (l).length, ec, _, _, rfl, by have := hO.edg.room; first | omega | (simp; omega), hO.hr.next (Below.refl _ _).drew⟩
    have hl0' : 0 < (l.length : Int) := by omega
    obtain ⟨ge, rfl, hEo⟩ := hW.edg.some hl0
    have hroom := hEo.room
    have y1 := hW.hbx.frozen 1
    have hne := hW.ne
    by_cases hec : ec = 1
    · subst hec
      have hl1 : l.length = 1 := by omega
      rw [hl1] at f1
      obtain ⟨hV, GBX, HBX⟩ := hW.cutE hcl (.slice (some ⟨ge, 0, none⟩) 0 0)
      have HE : ERow (w4.setCell ⟨gb + 1, 1, none⟩ (.slice (some ⟨ge, 0, none⟩) 0 0)) (some ⟨ge, 0, none⟩) l.length (Lf l) (Hf l) := hV.edg.row
      have hgeb := hEo.base
      go_wp2
      generalize (w4.setCell ⟨gb + 1, 1, none⟩ (.slice (some ⟨ge, 0, none⟩) 0 0)) = W6 at hV GBX HBX HE ⊢
      clear f1 y1 hne
      have r0 : W6.cell? ⟨w.heap.size, 0, none⟩ = some (.int .i64 0) := hV.rg.cell (j := 0) (by omega)
      have r1 : W6.cell? ⟨w.heap.size, 1, none⟩ = some (.slice none 0 0) := hV.rg.cell (j := 1) (by omega)
      have r2 : W6.cell? ⟨w.heap.size + 1, 0, none⟩ = some (.slice none 0 0) := hV.rh.cell (j := 0) (by omega)
      have r3 : W6.cell? ⟨w.heap.size + 1, 1, none⟩ = some (.slice none 0 0) := hV.rh.cell (j := 1) (by omega)
      have f0 : W6.cell? ⟨gb + 1, 0, none⟩ = some (.slice po m pc) := HBX.cell (j := 0) (by omega)
      have f1 : W6.cell? ⟨gb + 1, 1, none⟩ = some (.slice (some ⟨ge, 0, none⟩) 0 0) := HBX.cell (j := 1) (by omega)
      have e0 : W6.cell? ⟨gb, 0, none⟩ = some (.int .i64 p) := GBX.cell (j := 0) (by omega)
      have e1 : W6.cell? ⟨gb, 1, none⟩ = some (.slice go k gc) := GBX.cell (j := 1) (by omega)
      have z0 := hV.rg.frozen 0
      have z1 := hV.rg.frozen 1
      have z2 := hV.rh.frozen 0
      have z3 := hV.rh.frozen 1
      have hne := hV.ne
      have hlr := hV.rh.lt
      go_wp2
      go_region_law (fail)
      all_goals
        go_wp2
        have hO := hV.out hcl (.int .i64 p) (.slice go k gc) (.slice po m pc) (.slice (some ⟨ge, 0, none⟩) 0 0)
        have d0 : ((((W6.setCell ⟨w.heap.size, 0, none⟩ (.int .i64 p)).setCell ⟨w.heap.size, 1, none⟩ (.slice go k gc)).setCell ⟨w.heap.size + 1, 0, none⟩ (.slice po m pc)).setCell ⟨w.heap.size + 1, 1, none⟩ (.slice (some ⟨ge, 0, none⟩) 0 0)).cell? ⟨w.heap.size, 0, none⟩ = some (.int .i64 p) := by simp [go_sem, r0, r1, r2, r3]
        have d1 : ((((W6.setCell ⟨w.heap.size, 0, none⟩ (.int .i64 p)).setCell ⟨w.heap.size, 1, none⟩ (.slice go k gc)).setCell ⟨w.heap.size + 1, 0, none⟩ (.slice po m pc)).setCell ⟨w.heap.size + 1, 1, none⟩ (.slice (some ⟨ge, 0, none⟩) 0 0)).cell? ⟨w.heap.size, 1, none⟩ = some (.slice go k gc) := by simp [go_sem, r0, r1, r2, r3]
        have d2 : ((((W6.setCell ⟨w.heap.size, 0, none⟩ (.int .i64 p)).setCell ⟨w.heap.size, 1, none⟩ (.slice go k gc)).setCell ⟨w.heap.size + 1, 0, none⟩ (.slice po m pc)).setCell ⟨w.heap.size + 1, 1, none⟩ (.slice (some ⟨ge, 0, none⟩) 0 0)).cell? ⟨w.heap.size + 1, 0, none⟩ = some (.slice po m pc) := by simp [go_sem, r0, r1, r2, r3]
        have d3 : ((((W6.setCell ⟨w.heap.size, 0, none⟩ (.int .i64 p)).setCell ⟨w.heap.size, 1, none⟩ (.slice go k gc)).setCell ⟨w.heap.size + 1, 0, none⟩ (.slice po m pc)).setCell ⟨w.heap.size + 1, 1, none⟩ (.slice (some ⟨ge, 0, none⟩) 0 0)).cell? ⟨w.heap.size + 1, 1, none⟩ = some (.slice (some ⟨ge, 0, none⟩) 0 0) := by simp [go_sem, r0, r1, r2, r3]
        generalize ((((W6.setCell ⟨w.heap.size, 0, none⟩ (.int .i64 p)).setCell ⟨w.heap.size, 1, none⟩ (.slice go k gc)).setCell ⟨w.heap.size + 1, 0, none⟩ (.slice po m pc)).setCell ⟨w.heap.size + 1, 1, none⟩ (.slice (some ⟨ge, 0, none⟩) 0 0)) = WX at hO d0 d1 d2 d3 ⊢
        clear r0 r1 r2 r3 z0 z1 z2 z3
        simp [bodyPost, results, Tryz.results44, go_sem, d0, d1, d2, d3]
        exact ⟨p, go, k, gc, po, m, pc, P, some ⟨ge, 0, none⟩, 0, 0, Lf l, Hf l, rfl, by omega, hO.cut2 (fun k hk => by omega) (fun a e h0 => by omega) (fun j hj => by omega)⟩
    have hx1 : (1 : Int) ≤ (ec : Int) := by omega
    obtain ⟨hV, GBX, HBX⟩ := hW.cutE hcl (.slice (some ⟨ge, 2, none⟩) (l.length - 1) (ec - 1))
    have HE : ERow (w4.setCell ⟨gb + 1, 1, none⟩ (.slice (some ⟨ge, 2, none⟩) (l.length - 1) (ec - 1))) (some ⟨ge, 0, none⟩) l.length (Lf l) (Hf l) := hV.edg.row
    have hgeb := hEo.base
    go_wp2
    generalize (w4.setCell ⟨gb + 1, 1, none⟩ (.slice (some ⟨ge, 2, none⟩) (l.length - 1) (ec - 1))) = W6 at hV GBX HBX HE ⊢
    clear f1 y1 hne
    have r0 : W6.cell? ⟨w.heap.size, 0, none⟩ = some (.int .i64 0) := hV.rg.cell (j := 0) (by omega)
    have r1 : W6.cell? ⟨w.heap.size, 1, none⟩ = some (.slice none 0 0) := hV.rg.cell (j := 1) (by omega)
    have r2 : W6.cell? ⟨w.heap.size + 1, 0, none⟩ = some (.slice none 0 0) := hV.rh.cell (j := 0) (by omega)
    have r3 : W6.cell? ⟨w.heap.size + 1, 1, none⟩ = some (.slice none 0 0) := hV.rh.cell (j := 1) (by omega)
    have f0 : W6.cell? ⟨gb + 1, 0, none⟩ = some (.slice po m pc) := HBX.cell (j := 0) (by omega)
    have f1 : W6.cell? ⟨gb + 1, 1, none⟩ = some (.slice (some ⟨ge, 2, none⟩) (l.length - 1) (ec - 1)) := HBX.cell (j := 1) (by omega)
    have e0 : W6.cell? ⟨gb, 0, none⟩ = some (.int .i64 p) := GBX.cell (j := 0) (by omega)
    have e1 : W6.cell? ⟨gb, 1, none⟩ = some (.slice go k gc) := GBX.cell (j := 1) (by omega)
    have z0 := hV.rg.frozen 0
    have z1 := hV.rg.frozen 1
    have z2 := hV.rh.frozen 0
    have z3 := hV.rh.frozen 1
    have hne := hV.ne
    have hlr := hV.rh.lt
    go_wp2
    go_region_law (fail)
    all_goals
      go_wp2
      have hO := hV.out hcl (.int .i64 p) (.slice go k gc) (.slice po m pc) (.slice (some ⟨ge, 2, none⟩) (l.length - 1) (ec - 1))
      have d0 : ((((W6.setCell ⟨w.heap.size, 0, none⟩ (.int .i64 p)).setCell ⟨w.heap.size, 1, none⟩ (.slice go k gc)).setCell ⟨w.heap.size + 1, 0, none⟩ (.slice po m pc)).setCell ⟨w.heap.size + 1, 1, none⟩ (.slice (some ⟨ge, 2, none⟩) (l.length - 1) (ec - 1))).cell? ⟨w.heap.size, 0, none⟩ = some (.int .i64 p) := by simp [go_sem, r0, r1, r2, r3]
      have d1 : ((((W6.setCell ⟨w.heap.size, 0, none⟩ (.int .i64 p)).setCell ⟨w.heap.size, 1, none⟩ (.slice go k gc)).setCell ⟨w.heap.size + 1, 0, none⟩ (.slice po m pc)).setCell ⟨w.heap.size + 1, 1, none⟩ (.slice (some ⟨ge, 2, none⟩) (l.length - 1) (ec - 1))).cell? ⟨w.heap.size, 1, none⟩ = some (.slice go k gc) := by simp [go_sem, r0, r1, r2, r3]
      have d2 : ((((W6.setCell ⟨w.heap.size, 0, none⟩ (.int .i64 p)).setCell ⟨w.heap.size, 1, none⟩ (.slice go k gc)).setCell ⟨w.heap.size + 1, 0, none⟩ (.slice po m pc)).setCell ⟨w.heap.size + 1, 1, none⟩ (.slice (some ⟨ge, 2, none⟩) (l.length - 1) (ec - 1))).cell? ⟨w.heap.size + 1, 0, none⟩ = some (.slice po m pc) := by simp [go_sem, r0, r1, r2, r3]
      have d3 : ((((W6.setCell ⟨w.heap.size, 0, none⟩ (.int .i64 p)).setCell ⟨w.heap.size, 1, none⟩ (.slice go k gc)).setCell ⟨w.heap.size + 1, 0, none⟩ (.slice po m pc)).setCell ⟨w.heap.size + 1, 1, none⟩ (.slice (some ⟨ge, 2, none⟩) (l.length - 1) (ec - 1))).cell? ⟨w.heap.size + 1, 1, none⟩ = some (.slice (some ⟨ge, 2, none⟩) (l.length - 1) (ec - 1)) := by simp [go_sem, r0, r1, r2, r3]
      generalize ((((W6.setCell ⟨w.heap.size, 0, none⟩ (.int .i64 p)).setCell ⟨w.heap.size, 1, none⟩ (.slice go k gc)).setCell ⟨w.heap.size + 1, 0, none⟩ (.slice po m pc)).setCell ⟨w.heap.size + 1, 1, none⟩ (.slice (some ⟨ge, 2, none⟩) (l.length - 1) (ec - 1))) = WX at hO d0 d1 d2 d3 ⊢
      clear r0 r1 r2 r3 z0 z1 z2 z3
      simp [bodyPost, results, Tryz.results44, go_sem, d0, d1, d2, d3]
      exact ⟨p, go, k, gc, po, m, pc, P, some ⟨ge, 2, none⟩, l.length - 1, ec - 1, _, _, rfl, by omega, hO.cut2 hO.edg.row.tail (fun a e h0 => by cases e; have := hO.hr.edgb _ rfl hl0; exact this) (fun j hj => hO.hr.ewf (j + 1) (by omega))⟩
  · have f1 : w4.cell? ⟨gb + 1, 1, none⟩ = some (.slice eo l.length ec) := hW.hbx.cell (j := 1) (by omega)
    have hWd := hW.next (Below.refl w4.heap.size w4).drew
    have hne := hW.ne
    have hlh := hW.hbx.lt
    clear hW
    go_wp2
    go_region_law (first
      | (refine step_append_edgeE ?_ (.tmp 38) (.tmp 44) ?_ (w.heap.size + 2) ec eo l ?_ (hW6.edg.next ((Below.refl _ _).alloc (Nat.le_refl _) _)) w6.heap.size 1 x y ?_ (by simp [go_sem]) (by simp [go_sem]) (by omega) (by simp; omega) ?_; rfl; rfl; rfl; rfl; intro g7 ec7 w7 hown7 hgrow7 hat7; have hbx7 := (hW6.next ((Below.refl _ _).alloc (Nat.le_refl _) _)).appBox hgrow7; have q7 : w7.cell? ⟨gb + 1, 1, none⟩ = some (.slice eo l.length ec) := hbx7.cell (j := 1) (by omega); have z7 := hbx7.frozen 1)
      | (go_simp; go_at_call 103; refine (l1FromN_any base c ao n cap 0 9 (by omega) (by omega) (by omega) _ hW5.cur).mono ?_; rintro e w6 ⟨y, rfl, wy, hC6, hg6⟩; have HWY : Hid ((Lit.int .i64 y).wf = true) := wy; clear wy; have hW6 := hW5.step hcl hC6 hg6; have f6 : w6.cell? ⟨gb + 1, 1, none⟩ = some (.slice eo l.length ec) := hW6.hbx.cell (j := 1) (by omega); have f6a : (w6.alloc (.cells #[.int .i64 x, .int .i64 y] 62)).cell? ⟨gb + 1, 1, none⟩ = some (.slice eo l.length ec) := (hW6.next ((Below.refl _ _).alloc (Nat.le_refl _) _)).hbx.cell (j := 1) (by omega); have hs6 := hg6.size; clear hC6 hg6)
      | (go_simp; go_at_call 103; refine (l1FromN_any base c ao n cap 0 8 (by omega) (by omega) (by omega) _ hWd.cur).mono ?_; rintro e w5 ⟨x, rfl, wx, hC5, hg5⟩; have HWX : Hid ((Lit.int .i64 x).wf = true) := wx; clear wx; have hW5 := hWd.step hcl hC5 hg5; have f5 : w5.cell? ⟨gb + 1, 1, none⟩ = some (.slice eo l.length ec) := hW5.hbx.cell (j := 1) (by omega); have hs5 := hg5.size; (try simp only [World.size_drew] at hs5); clear hC5 hg5))
    all_goals
      obtain ⟨l', hl'⟩ : ∃ l', l' = l ++ [(x, y)] := ⟨_, rfl⟩
      have hlen : l'.length = l.length + 1 := by rw [hl']; simp
      have hwl : LWf l' := by
        rw [hl']
        intro z hz
        rcases List.mem_append.1 hz with h | h
        · exact hW6.edg.2 z h
        · simp at h
          subst h
          exact ⟨HWX.out, HWY.out⟩
      rw [← hl'] at hown7
      rw [← hlen]
      have hl7 : l'.length ≤ 217 := by omega
      clear hlen hl'
      have hW := (hW6.next ((Below.refl _ _).alloc (Nat.le_refl _) _)).appE hcl hgrow7 hown7 hwl hat7
      clear hW6 hW5 hWd hgrow7 hown7 hat7 hbx7 q7 z7 f5 f6 f6a f1
      go_wp2
      generalize (w7.setCell ⟨gb + 1, 1, none⟩ (.slice (some ⟨g7, 0, none⟩) l'.length ec7)) = W8 at hW ⊢
      have HBX := hW.hbx
      have GBX := hW.gbx
      have r0 : W8.cell? ⟨w.heap.size, 0, none⟩ = some (.int .i64 0) := hW.rg.cell (j := 0) (by omega)
      have r1 : W8.cell? ⟨w.heap.size, 1, none⟩ = some (.slice none 0 0) := hW.rg.cell (j := 1) (by omega)
      have r2 : W8.cell? ⟨w.heap.size + 1, 0, none⟩ = some (.slice none 0 0) := hW.rh.cell (j := 0) (by omega)
      have r3 : W8.cell? ⟨w.heap.size + 1, 1, none⟩ = some (.slice none 0 0) := hW.rh.cell (j := 1) (by omega)
      have f0 : W8.cell? ⟨gb + 1, 0, none⟩ = some (.slice po m pc) := HBX.cell (j := 0) (by omega)
      have f1 : W8.cell? ⟨gb + 1, 1, none⟩ = some (.slice (some ⟨g7, 0, none⟩) (l').length ec7) := HBX.cell (j := 1) (by omega)
      have e0 : W8.cell? ⟨gb, 0, none⟩ = some (.int .i64 p) := GBX.cell (j := 0) (by omega)
      have e1 : W8.cell? ⟨gb, 1, none⟩ = some (.slice go k gc) := GBX.cell (j := 1) (by omega)
      have z0 := hW.rg.frozen 0
      have z1 := hW.rg.frozen 1
      have z2 := hW.rh.frozen 0
      have z3 := hW.rh.frozen 1
      have hne := hW.ne
      have hlr := hW.rh.lt
      go_wp2
      go_region_law (fail)
      all_goals
        go_wp2
        have hO := hW.out hcl (.int .i64 p) (.slice go k gc) (.slice po m pc) (.slice (some ⟨g7, 0, none⟩) (l').length ec7)
        have d0 : ((((W8.setCell ⟨w.heap.size, 0, none⟩ (.int .i64 p)).setCell ⟨w.heap.size, 1, none⟩ (.slice go k gc)).setCell ⟨w.heap.size + 1, 0, none⟩ (.slice po m pc)).setCell ⟨w.heap.size + 1, 1, none⟩ (.slice (some ⟨g7, 0, none⟩) (l').length ec7)).cell? ⟨w.heap.size, 0, none⟩ = some (.int .i64 p) := by simp [go_sem, r0, r1, r2, r3]
        have d1 : ((((W8.setCell ⟨w.heap.size, 0, none⟩ (.int .i64 p)).setCell ⟨w.heap.size, 1, none⟩ (.slice go k gc)).setCell ⟨w.heap.size + 1, 0, none⟩ (.slice po m pc)).setCell ⟨w.heap.size + 1, 1, none⟩ (.slice (some ⟨g7, 0, none⟩) (l').length ec7)).cell? ⟨w.heap.size, 1, none⟩ = some (.slice go k gc) := by simp [go_sem, r0, r1, r2, r3]
        have d2 : ((((W8.setCell ⟨w.heap.size, 0, none⟩ (.int .i64 p)).setCell ⟨w.heap.size, 1, none⟩ (.slice go k gc)).setCell ⟨w.heap.size + 1, 0, none⟩ (.slice po m pc)).setCell ⟨w.heap.size + 1, 1, none⟩ (.slice (some ⟨g7, 0, none⟩) (l').length ec7)).cell? ⟨w.heap.size + 1, 0, none⟩ = some (.slice po m pc) := by simp [go_sem, r0, r1, r2, r3]
        have d3 : ((((W8.setCell ⟨w.heap.size, 0, none⟩ (.int .i64 p)).setCell ⟨w.heap.size, 1, none⟩ (.slice go k gc)).setCell ⟨w.heap.size + 1, 0, none⟩ (.slice po m pc)).setCell ⟨w.heap.size + 1, 1, none⟩ (.slice (some ⟨g7, 0, none⟩) (l').length ec7)).cell? ⟨w.heap.size + 1, 1, none⟩ = some (.slice (some ⟨g7, 0, none⟩) (l').length ec7) := by simp [go_sem, r0, r1, r2, r3]
        generalize ((((W8.setCell ⟨w.heap.size, 0, none⟩ (.int .i64 p)).setCell ⟨w.heap.size, 1, none⟩ (.slice go k gc)).setCell ⟨w.heap.size + 1, 0, none⟩ (.slice po m pc)).setCell ⟨w.heap.size + 1, 1, none⟩ (.slice (some ⟨g7, 0, none⟩) (l').length ec7)) = WX at hO d0 d1 d2 d3 ⊢
        clear r0 r1 r2 r3 z0 z1 z2 z3
        simp [bodyPost, results, Tryz.results44, go_sem, d0, d1, d2, d3]
        exact ⟨p, go, k, gc, po, m, pc, P, (some ⟨g7, 0, none⟩), (l').length, ec7, _, _, rfl, by have := hO.edg.room; first | omega | (simp; omega), hO.hr.next (Below.refl _ _).drew⟩

end Go.Proofs.YtokaechbmnbbiabGreat
