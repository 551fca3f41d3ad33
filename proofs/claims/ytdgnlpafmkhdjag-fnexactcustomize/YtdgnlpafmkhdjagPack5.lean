/-
  Helpers, merged: EdMap, CusE, Add, Turns, OwnL, MetI, ChdImpl, TriIt, TriSeq, RangeBox, IntsLaw, OpenInts, EdgeLaw, EdgeEq, EdgeMark.
-/
import Derived.Test.YtdgnlpafmkhdjagPack1
import Derived.Test.YtdgnlpafmkhdjagPack4
import Derived.Maps.Own
import Derived.Maps.OwnOps
import Derived.Maps.OwnSet
import Derived.Maps.Views
import Derived.DeepKeys4
import Derived.Test.YtdgnlpafmkhdjagPack2
import Derived.Test.YtdgnlpafmkhdjagPack3
import Derived.Sort.QuietIn
/-
  The map from an edge to its number: what its keys read as, and what it holds after so many edges; the walk that fills it.
-/
set_option linter.unusedVariables false
set_option linter.unusedSimpArgs false
namespace Go.Proofs.Ytdgnlpafmkhdjag
open Go.ChangeShapes Go.WideShapes Go.ChangeAt Go.RowKit Go.Maps

set_option maxRecDepth 100000 in
theorem Try.rowEdge : (64 : TypeId) < Try.prog.types.size := of_decide_eq_true (by kernel_rfl)
theorem Try.wideEdge : (match Try.prog.underlying 64 with | some (.array _ _) | some (.struct _) => true | _ => false) = true := by rw [Try.underlying64]
set_option maxRecDepth 100000 in
theorem Try.keyLawE : Keyed Try.prog 64 := Keyed.of_law (deep_law_laid Try.laidOut (m := 2) (by omega) Try.rowEdge (by kernel_rfl) Try.wideEdge)
theorem Try.keyTypeE : Try.prog.keyType 64 = true := by kernel_rfl
theorem Try.cellsEdge : Try.prog.cellsOf 64 = 2 := by kernel_rfl
theorem Try.mapZeroE (w : World) : (zeroValue 3).run Try.prog w = .ok (.int .i64 0) w := by kernel_rfl
set_option maxRecDepth 100000 in
theorem Try.someTypesE : ∃ m, Try.prog.types.size = m + 1 := ⟨_, (Nat.succ_pred_eq_of_pos (Nat.lt_of_le_of_lt (Nat.zero_le _) Try.rowEdge)).symm⟩

def ekl (f t : Int) : Lit := .string (keyBytes [.int .i64 f, .int .i64 t])
set_option maxRecDepth 100000 in
theorem key_edge (f t : Int) (hf : (Lit.int .i64 f).wf = true) (ht : (Lit.int .i64 t).wf = true) : keyOf Try.prog 64 (.agg #[.int .i64 f, .int .i64 t]) = some (ekl f t) := by
  exact key_two Try.underlying64 Try.keyTypeE Try.cellsEdge Try.underlying2 Try.underlying2 rfl rfl Try.cellsInt Try.cellsInt (by decide) (by decide) Try.someTypesE hf ht
theorem ekl_inj {f t f' t' : Int} (hf : (Lit.int .i64 f).wf = true) (ht : (Lit.int .i64 t).wf = true) (hf' : (Lit.int .i64 f').wf = true) (ht' : (Lit.int .i64 t').wf = true) (h : ekl f t = ekl f' t') : f = f' ∧ t = t' := by
  have := Try.keyLawE.inj (key_edge f t hf ht) (by rw [h]; exact key_edge f' t' hf' ht')
  simpa using this
theorem ekl_key (f t : Int) : WideAt.IsKeyLit (ekl f t) := trivial

/-- What the map holds after k edges. -/
def enums (F T : Nat → Int) : Nat → DataW Unit
  | 0 => .map []
  | k + 1 => (enums F T k).put (ekl (F k) (T k)) (.lit (.int .i64 (k : Int)))
theorem enums_isMap (F T : Nat → Int) : ∀ k, IsMap (enums F T k)
  | 0 => isMap_empty
  | k + 1 => (enums_isMap F T k).put _ _

def EWf (F T : Nat → Int) (n : Nat) : Prop := ∀ k, k < n → (Lit.int .i64 (F k)).wf = true ∧ (Lit.int .i64 (T k)).wf = true

/-- A look-up in it: there is none, and then the key is not there; or it is there with its last number. -/
theorem enums_look (F T : Nat → Int) (a b : Int) (ha : (Lit.int .i64 a).wf = true) (hb : (Lit.int .i64 b).wf = true) : ∀ n, EWf F T n →
    (Maps.has (enums F T n) (ekl a b) = false ∧ ∀ k, k < n → ¬ (F k = a ∧ T k = b)) ∨
    ∃ k, k < n ∧ F k = a ∧ T k = b ∧ Maps.has (enums F T n) (ekl a b) = true ∧ (enums F T n).atKey (ekl a b) (.lit (.int .i64 0)) = .lit (.int .i64 (k : Int))
  | 0, _ => Or.inl ⟨rfl, fun k hk => by omega⟩
  | n + 1, hw => by
    by_cases h : F n = a ∧ T n = b
    · obtain ⟨rfl, rfl⟩ := h
      exact Or.inr ⟨n, by omega, rfl, rfl, has_put_same (enums_isMap F T n) (ekl_key _ _) _, atKey_put_same (enums_isMap F T n) (ekl_key _ _) _ _⟩
    · have hne : ekl a b ≠ ekl (F n) (T n) := fun e => by
        have := ekl_inj ha hb (hw n (by omega)).1 (hw n (by omega)).2 e
        exact h ⟨this.1.symm, this.2.symm⟩
      rcases enums_look F T a b ha hb n (fun k hk => hw k (by omega)) with ⟨h1, h2⟩ | ⟨k, hk, h1, h2, h3, h4⟩
      · exact Or.inl ⟨by rw [enums, has_put_other hne]; exact h1, fun k hk => by
          by_cases e : k = n
          · subst e; exact h
          · exact h2 k (by omega)⟩
      · exact Or.inr ⟨k, by omega, h1, h2, by rw [enums, has_put_other hne]; exact h3, by rw [enums, atKey_put_other hne]; exact h4⟩

theorem make_emap (n : Nat) (w : World) : (Instr.makeMap 69 (some (.int .i64 (n : Int)))).run Try.prog w = .ok (.map (some w.heap.size)) (w.alloc (.map #[] 0)) := by
  simp [Instr.makeMap, run_underlying Try.underlying69, asInt, asIntOf, newObj]
  rfl

set_option maxHeartbeats 1000000 in
theorem edgeNumbers_any (ao : Option Addr) (n cap : Nat) (L H : Nat → Int) (hn : n ≤ 1048576) (hwf : EWf L H n) (w : World) (hr : ERow w ao n L H) :
    Calls Try.prog 46 #[.slice ao n cap] w fun e w' => e = .returned (.map (some w.heap.size)) ∧ w'.ownsMap Try.prog 64 (plainElem Try.prog 3) w.heap.size n (enums L H n) ∧ Below w.heap.size w w' := by
  have hmk := make_emap n
  go_enter Try.func46, Try.ntmps46
  go_wp2
  clear hmk
  go_loopw [11] (fun i wr => ∃ k : Nat, k ≤ n ∧ i = .int .i64 k ∧ wr.ownsMap Try.prog 64 (plainElem Try.prog 3) w.heap.size k (enums L H k) ∧ Below w.heap.size w wr) (fun i _ => n - (intOf i).toNat)
  case atStart => exact ⟨0, Nat.zero_le _, rfl, by simpa [enums] using World.ownsMap_made w Try.prog 64 (plainElem (H := Unit) Try.prog 3), (Below.refl _ _).alloc (by simp) _⟩
  case round =>
    obtain ⟨k, hk, rfl, hown, hbel⟩ := hrel
    have hlt0 : w.heap.size < wr.heap.size := hown.lt
    by_cases hlt : k < n
    rotate_left
    · have hkn : k = n := by omega
      subst hkn
      go_wp2
      go_ret
      exact ⟨rfl, hown, hbel⟩
    obtain ⟨b, o, hao, c0, c1⟩ := (hr.below hbel (Nat.le_refl _)) k hlt
    subst hao
    have hkey := key_edge (L k) (H k) (hwf k hlt).1 (hwf k hlt).2
    have hown1 := hown.alloc (.cells #[.int .i64 (L k), .int .i64 (H k)] 64)
    have hbel1 := hbel.alloc (o := .cells #[.int .i64 (L k), .int .i64 (H k)] 64) hbel.size
    go_wp2_with (at_mapUpdate; refine wpList_mapUpdate_own _ rfl _ _ _ 69 rfl 64 3 Try.keyLawE Try.underlying69 _ w.heap.size k _ rfl hown1 (by unfold maxLen; omega) _ _ _ rfl rfl hkey _ [] (plainElem_int Try.underlying3 (WalkArith.wf_i64 (by omega))) ?_; intro w2 hown2 hgrow2)
    go_wp2
    go_roundw
    case rel => exact ⟨k + 1, by omega, by go_num, hown2, hbel1.grown hgrow2 (by simp; omega) (fun j hj => by cases hj; exact Nat.le_refl _)⟩
    case measure => simp [intOf]; omega

end Go.Proofs.Ytdgnlpafmkhdjag

/-
  What a right hierarchy says of a map, its order and its edges: the plain part.
-/
set_option linter.unusedVariables false
set_option linter.unusedSimpArgs false
namespace Go.Proofs.Ytdgnlpafmkhdjag
open Go.RowKit Go.Maps

theorem cenv_of {p : Int} {n : Nat} {F T G : Nat → Int} {k : Nat} {P : Nat → Int} (h : ordB p n F T G k P = true) :
    CEnv k n (lstF p n F T P).length F T G P (Lf (lstF p n F T P)) (Hf (lstF p n F T P)) := by
  obtain ⟨hkp, hg, ⟨k1, k24⟩, he⟩ := ordB_parts h
  subst hkp
  obtain ⟨_, hn, hF, hT, hFT⟩ := ok_arcs hg
  have hl : lstF (k : Int) n F T P = allS (nbA F T n) P k k := by simp [lstF]
  have hlen : (lstF (k : Int) n F T P).length ≤ 1000 := by
    have := lenF_le (k : Int) n F T G k P
    unfold lenF at this
    rw [if_pos h] at this
    exact this
  rw [hl] at hlen ⊢
  have hch := fill_ok (B := nbA F T n) (P := P) k1 k24 he
  have hed : edB (k : Int) (Lf (allS (nbA F T n) P k k)) (Hf (allS (nbA F T n) P k k)) (allS (nbA F T n) P k k).length = true := by
    have := hch.1
    simp [edgesB] at this
    exact this.2
  have hinj : ∀ i j, i < k → j < k → P i = P j → i = j := fun i j hi hj e => by
    by_cases hij : i = j
    · exact hij
    · exact absurd (by rw [e]) (place_ne he hi hj hij)
  refine ⟨k1, k24, hn, hlen, he, hch, hed, fun j hj => edgeB_in (edB_at _ hed j hj), hinj, fun t ht => ?_, fun t ht => ?_⟩
  · have := (arcsB_each n (graphB_arcs hg).2 t ht).1
    simp [arcB, inB] at this
    omega
  · obtain ⟨f0, f1⟩ := hF t ht
    obtain ⟨t0, t1⟩ := hT t ht
    obtain ⟨x, hx, ex, rx⟩ := rk_of he (-1) (q := (F t).toNat) (by omega)
    obtain ⟨y, hy, ey, ry⟩ := rk_of he (-1) (q := (T t).toNat) (by omega)
    have ex' : P x = F t := by rw [ex]; omega
    have ey' : P y = T t := by rw [ey]; omega
    have hxy : x ≠ y := fun e => hFT t ht (by rw [← ex', ← ey', e])
    have hmem := fill_arc he (fair_nbA n (fun q hq => by have a1 := hF q hq; have a2 := hT q hq; have a3 := hFT q hq; omega)) ht ⟨f0, f1⟩ ⟨t0, t1⟩ (hFT t ht) hx hy ex' ey'
    obtain ⟨e, hel, hee⟩ := List.getElem_of_mem hmem
    have hL : Lf (allS (nbA F T n) P k k) e = min (x : Int) y := by
      unfold Lf; rw [getD_at hel, hee]
    have hH : Hf (allS (nbA F T n) P k k) e = max (x : Int) y := by
      unfold Hf; rw [getD_at hel, hee]
    refine ⟨x, y, e, hx, hy, hel, ⟨ex', f0, f1⟩, ⟨ey', t0, t1⟩, ⟨rx, ry⟩, ?_⟩
    rw [hL, hH]
    by_cases hlt : x < y
    · left; omega
    · right; omega

/-- What Customize answers. -/
def cusT (p : Int) (n : Nat) (F T G P : Nat → Int) : (Nat → Int) × (Nat → Int) :=
  runT (w0U n F T G P (Lf (lstF p n F T P)) (Hf (lstF p n F T P)), w0D n F T G P (Lf (lstF p n F T P)) (Hf (lstF p n F T P))) (allT (lstF p n F T P).length (Lf (lstF p n F T P)) (Hf (lstF p n F T P)) (lstF p n F T P).length)
open Classical in
noncomputable def lenM (p : Int) (n : Nat) (F T G : Nat → Int) (k : Nat) (P : Nat → Int) (m : Nat) (L H : Nat → Int) : Nat := if HOk p n F T G k P m L H then m else 0
theorem lenM_yes {p : Int} {n : Nat} {F T G : Nat → Int} {k : Nat} {P : Nat → Int} {m : Nat} {L H : Nat → Int} (h : HOk p n F T G k P m L H) : lenM p n F T G k P m L H = m := by unfold lenM; rw [if_pos h]
theorem lenM_no {p : Int} {n : Nat} {F T G : Nat → Int} {k : Nat} {P : Nat → Int} {m : Nat} {L H : Nat → Int} (h : ¬ HOk p n F T G k P m L H) : lenM p n F T G k P m L H = 0 := by unfold lenM; rw [if_neg h]
theorem hok_len {p : Int} {n : Nat} {F T G : Nat → Int} {k : Nat} {P : Nat → Int} {m : Nat} {L H : Nat → Int} (h : HOk p n F T G k P m L H) : m = (lstF p n F T P).length ∧ (∀ i, i < m → L i = Lf (lstF p n F T P) i ∧ H i = Hf (lstF p n F T P) i) := by
  obtain ⟨h1, h2, h3⟩ := h
  unfold lenF at h2
  rw [if_pos h1] at h2
  exact ⟨h2, h3⟩
theorem lenM_le (p : Int) (n : Nat) (F T G : Nat → Int) (k : Nat) (P : Nat → Int) (m : Nat) (L H : Nat → Int) : lenM p n F T G k P m L H ≤ 1000 := by
  by_cases h : HOk p n F T G k P m L H
  · rw [lenM_yes h, (hok_len h).1]
    exact (cenv_of h.1).m1000
  · rw [lenM_no h]; omega
theorem CEnv.wf {k n m : Nat} {F T G P L H : Nat → Int} (h : CEnv k n m F T G P L H) : EWf L H m := fun j hj => by
  have := h.ei j hj
  have := h.k24
  exact ⟨WalkArith.wf_i64 (by omega), WalkArith.wf_i64 (by omega)⟩

end Go.Proofs.Ytdgnlpafmkhdjag

/-
  Sums that end at Far: the document's and the program's.
-/
set_option linter.unusedVariables false
set_option linter.unusedSimpArgs false
namespace Go.Proofs.Ytdgnlpafmkhdjag
open Go.RowKit
attribute [local go_sem ↓] Go.wp_at_zero Go.wp_at_succ

theorem l1Min_any (a b : Int) (w : World) : Calls Try.prog 89 #[.int .i64 a, .int .i64 b] w fun e w' => e = .returned (.int .i64 (min a b)) ∧ w' = w := by
  by_cases h : a < b
  · go_enter Try.func89, Try.ntmps89
    go_wp2
    go_ret
    exact ⟨ret_i64 (by omega), rfl⟩
  · go_enter Try.func89, Try.ntmps89
    go_wp2
    go_ret
    exact ⟨ret_i64 (by omega), rfl⟩

theorem l1Add_any (a b : Int) (ha : 0 ≤ a) (ha' : a ≤ 1000000000000) (hb : 0 ≤ b) (hb' : b ≤ 1000000000000) (w : World) : Calls Try.prog 90 #[.int .i64 a, .int .i64 b] w fun e w' => e = .returned (.int .i64 (min 1000000000000 (a + b))) ∧ w' = w := by
  go_enter Try.func90, Try.ntmps90
  go_wp2_with (go_at_call 89; refine (l1Min_any _ _ _).mono ?_; rintro e w1 ⟨rfl, rfl⟩)
  go_ret
  exact ⟨rfl, rfl⟩

theorem plus_any (a b : Int) (ha : 0 ≤ a) (ha' : a ≤ 1000000000000) (hb : 0 ≤ b) (hb' : b ≤ 1000000000000) (w : World) : Calls Try.prog 104 #[.int .i64 a, .int .i64 b] w fun e w' => e = .returned (.int .i64 (min 1000000000000 (a + b))) ∧ w' = w := by
  go_enter Try.func104, Try.ntmps104
  go_wp2 <;>
  · go_ret
    exact ⟨ret_i64 (by omega), rfl⟩

end Go.Proofs.Ytdgnlpafmkhdjag

/-
  What a call has turned: some blocks, named in a list; all else that lay lies as it lay.
-/
set_option linter.unusedVariables false
set_option linter.unusedSimpArgs false
namespace Go.Proofs.Ytdgnlpafmkhdjag
open Go.RowKit

structure Turns (w w' : World) (S : List Nat) : Prop where
  os : w'.os = w.os
  tape : w'.tape = w.tape
  output : w'.output = w.output
  size : w.heap.size ≤ w'.heap.size
  block : ∀ k, k < w.heap.size → k ∉ S → w'.heap[k]? = w.heap[k]?
theorem Turns.refl (w : World) (S : List Nat) : Turns w w S := ⟨rfl, rfl, rfl, Nat.le_refl _, fun _ _ _ => rfl⟩
theorem Turns.of_below {w w' : World} {B : Nat} (h : Below B w w') (hB : w.heap.size ≤ B) (S : List Nat) : Turns w w' S := ⟨h.os, h.tape, h.output, h.size, fun k hk _ => h.block k (by omega)⟩
theorem Turns.of_grown {w w' : World} {b : Nat} (h : w.grownBy w' (some b)) : Turns w w' [b] := ⟨h.os, h.tape, h.output, h.size, fun k hk hn => h.block k hk (fun e => hn (by simp at e; simp [e]))⟩
theorem Turns.trans {w w1 w2 : World} {S : List Nat} (h : Turns w w1 S) (k : Turns w1 w2 S) : Turns w w2 S :=
  ⟨k.os.trans h.os, k.tape.trans h.tape, k.output.trans h.output, Nat.le_trans h.size k.size, fun j hj hn => (k.block j (Nat.lt_of_lt_of_le hj h.size) hn).trans (h.block j hj hn)⟩
theorem Turns.more {w w' : World} {S S' : List Nat} (h : Turns w w' S) (hs : ∀ x ∈ S, x ∈ S') : Turns w w' S' := ⟨h.os, h.tape, h.output, h.size, fun k hk hn => h.block k hk (fun hx => hn (hs k hx))⟩
theorem Turns.next {w w1 w2 : World} {S : List Nat} (h : Turns w w1 S) (hb : Below w1.heap.size w1 w2) : Turns w w2 S := h.trans (Turns.of_below hb (Nat.le_refl _) S)
theorem Turns.below {w w' : World} {S : List Nat} {B : Nat} (h : Turns w w' S) (hB : B ≤ w.heap.size) (hs : ∀ x ∈ S, B ≤ x) : Below B w w' :=
  ⟨h.os, h.tape, h.output, h.size, fun k hk => h.block k (by omega) (fun hx => by have := hs k hx; omega)⟩
theorem Turns.cell {w w' : World} {S : List Nat} {b o : Nat} {v : Value} (h : Turns w w' S) (hb : b ∉ S) (hc : w.cell? ⟨b, o, none⟩ = some v) : w'.cell? ⟨b, o, none⟩ = some v := by
  rw [World.cell?_of_block (h.block b (lt_of_cell hc) hb)]
  exact hc
theorem Turns.ihas {w w' : World} {S : List Nat} {b n : Nat} {f : Nat → Int} (h : Turns w w' S) (hb : b ∉ S) (hi : IHas w b n f) : IHas w' b n f := hi.of_block (h.block b hi.lt hb)
theorem Turns.ehas {w w' : World} {S : List Nat} {b n : Nat} {f : Nat → Int} (h : Turns w w' S) (hb : b ∉ S) (hi : EHas w b n f) : EHas w' b n f := hi.of_block (h.block b hi.lt hb)

/-- Two lists of one answer: their blocks, whatever is empty. -/
theorem pick2 {w W : World} {ao eo : Option Addr} {k m : Nat} {R S : Nat → Prop} (h1 : 0 < k → ∃ g, ao = some ⟨g, 0, none⟩ ∧ w.heap.size ≤ g ∧ R g) (h2 : 0 < m → ∃ g, eo = some ⟨g, 0, none⟩ ∧ w.heap.size ≤ g ∧ S g)
    (l1 : ∀ g, R g → g < W.heap.size) (l2 : ∀ g, S g → g < W.heap.size) (hne : ∀ g g', ao = some ⟨g, 0, none⟩ → eo = some ⟨g', 0, none⟩ → R g → S g' → g ≠ g') (hs : w.heap.size + 2 ≤ W.heap.size) :
    ∃ b c, (0 < k → ao = some ⟨b, 0, none⟩) ∧ (0 < k → R b) ∧ (0 < m → eo = some ⟨c, 0, none⟩) ∧ (0 < m → S c) ∧ (w.heap.size ≤ b ∧ b < W.heap.size) ∧ (w.heap.size ≤ c ∧ c < W.heap.size) ∧ b ≠ c := by
  by_cases hk : 0 < k
  · obtain ⟨g, e, hg, hR⟩ := h1 hk
    have := l1 g hR
    by_cases hm : 0 < m
    · obtain ⟨g', e', hg', hS⟩ := h2 hm
      have := l2 g' hS
      exact ⟨g, g', fun _ => e, fun _ => hR, fun _ => e', fun _ => hS, ⟨hg, by omega⟩, ⟨hg', by omega⟩, hne g g' e e' hR hS⟩
    · by_cases hx : g = w.heap.size
      · exact ⟨g, w.heap.size + 1, fun _ => e, fun _ => hR, fun h => absurd h hm, fun h => absurd h hm, ⟨hg, by omega⟩, ⟨by omega, by omega⟩, by omega⟩
      · exact ⟨g, w.heap.size, fun _ => e, fun _ => hR, fun h => absurd h hm, fun h => absurd h hm, ⟨hg, by omega⟩, ⟨by omega, by omega⟩, hx⟩
  · by_cases hm : 0 < m
    · obtain ⟨g', e', hg', hS⟩ := h2 hm
      have := l2 g' hS
      by_cases hx : g' = w.heap.size
      · exact ⟨w.heap.size + 1, g', fun h => absurd h hk, fun h => absurd h hk, fun _ => e', fun _ => hS, ⟨by omega, by omega⟩, ⟨hg', by omega⟩, by omega⟩
      · exact ⟨w.heap.size, g', fun h => absurd h hk, fun h => absurd h hk, fun _ => e', fun _ => hS, ⟨by omega, by omega⟩, ⟨hg', by omega⟩, fun e => hx e.symm⟩
    · exact ⟨w.heap.size, w.heap.size + 1, fun h => absurd h hk, fun h => absurd h hk, fun h => absurd h hm, fun h => absurd h hm, ⟨by omega, by omega⟩, ⟨by omega, by omega⟩, by omega⟩
theorem ihas_ehas {W : World} {b n m : Nat} {f g : Nat → Int} (h : IHas W b n f) (k : EHas W b m g) : False := by
  obtain ⟨c, h1, _⟩ := h
  obtain ⟨d, h2, _⟩ := k
  rw [h1] at h2
  simp at h2
theorem irow_at {W : World} {ao : Option Addr} {m b : Nat} {D : Nat → Int} (ha : 0 < m → ao = some ⟨b, 0, none⟩) (h : 0 < m → IHas W b m D) : IRow W ao m D := fun k hk => by
  rw [ha (by omega)]
  exact (h (by omega)).row k hk
theorem erow_at {W : World} {ao : Option Addr} {m b : Nat} {L H : Nat → Int} (ha : 0 < m → ao = some ⟨b, 0, none⟩) (h : 0 < m → EHas W b m (er L H)) : ERow W ao m L H := fun k hk => by
  rw [ha (by omega)]
  exact (h (by omega)).row k hk

end Go.Proofs.Ytdgnlpafmkhdjag

/-
  A list of numbers of the call's own, or none yet, that grows by one: the law for the walk.
-/
set_option linter.unusedVariables false
set_option linter.unusedSimpArgs false
namespace Go.Proofs.Ytdgnlpafmkhdjag
open Go.RowKit

/-- n numbers behind a slice of the call's own, or a slice that is nil. -/
def OwnE (w : World) (base : Nat) (go : Option Addr) (n cap : Nat) (f : Nat → Int) : Prop := w.ownsRow base 2 1 (.slice go n cap) n (icells f n)
theorem OwnE.nil (w : World) (base : Nat) (f : Nat → Int) : OwnE w base none 0 0 f := ⟨by simp [icells], .inl ⟨rfl, rfl⟩⟩
theorem OwnE.at {w : World} {base n cap x : Nat} {go : Option Addr} {f : Nat → Int} (h : OwnE w base go n cap f) (e : (Value.slice go n cap).ownBlock = some x) : base ≤ x ∧ x < w.heap.size := World.ownsRow.lt h x e
theorem OwnE.of_block {w w' : World} {base n cap : Nat} {go : Option Addr} {f : Nat → Int} (h : OwnE w base go n cap f) (e : ∀ x, (Value.slice go n cap).ownBlock = some x → w'.heap[x]? = w.heap[x]?) : OwnE w' base go n cap f := by
  refine ⟨h.1, ?_⟩
  rcases h.2 with hn | ⟨g', cap', cur, hv, hb', hgg, rest⟩
  · exact .inl hn
  · have e2 := e g' (by rw [hv]; rfl)
    exact .inr ⟨g', cap', cur, hv, hb', e2.trans hgg, rest⟩
theorem OwnE.next {w w' : World} {base n cap : Nat} {go : Option Addr} {f : Nat → Int} (h : OwnE w base go n cap f) (hb : Below w.heap.size w w') : OwnE w' base go n cap f := h.of_block (fun x e => hb.block x (h.at e).2)
theorem OwnE.grown {w w' : World} {base n cap : Nat} {go : Option Addr} {f : Nat → Int} {row : Option Nat} (h : OwnE w base go n cap f) (hg : w.grownBy w' row) (hne : ∀ x, (Value.slice go n cap).ownBlock = some x → row ≠ some x) : OwnE w' base go n cap f := h.of_block (fun x e => hg.block x (h.at e).2 (fun q => hne x e q.symm))
theorem OwnE.has {w : World} {base n cap : Nat} {go : Option Addr} {f : Nat → Int} (h : OwnE w base go n cap f) (hn : 0 < n) : ∃ g, go = some ⟨g, 0, none⟩ ∧ base ≤ g ∧ IHas w g n f := by
  have h' := h
  obtain ⟨hl, h0 | ⟨g', cap', cur, hv, hb, hh, h1, h2, h3, h4⟩⟩ := h
  · omega
  · simp at hv
    obtain ⟨rfl, rfl⟩ := hv
    refine ⟨g', rfl, hb, cur, hh, by omega, fun j hj => ?_⟩
    have : (cur.toList.take (n * 1))[j]? = (icells f n)[j]? := by rw [h4]
    rw [List.getElem?_take_of_lt (by omega), icells_at hj] at this
    simpa using this
theorem own_blk {ao : Option Addr} {n cap x : Nat} (e : (Value.slice ao n cap).ownBlock = some x) : ∃ a, ao = some a ∧ a.block = x := by
  cases ao with
  | none => simp [Value.ownBlock] at e
  | some a => exact ⟨a, rfl, by simpa [Value.ownBlock] using e⟩

theorem wp_append_own {o : Oper} {a : Act} {w : World} {K : Act → World → Prop} {Q : Exit → Act → World → Prop} (s x : Operand)
    (ho : o.op = .call { callee := .builtin .append, args := #[s, x], argTypes := #[24, 24] }) (base k gc : Nat) (go : Option Addr) (f : Nat → Int) (hs : a.eval s = .slice go k gc) (hown : OwnE w base go k gc f) (B : Nat) (hx : a.eval x = .slice (some ⟨B, 0, none⟩) 1 1)
    (hB : w.cell? ⟨B, 0, none⟩ = some (.int .i64 (f k))) (hk : k ≤ 100000000) (hbase : base ≤ w.heap.size)
    (h : ∀ g' gc' w', OwnE w' base (some ⟨g', 0, none⟩) (k + 1) gc' f → w.grownBy w' (Value.slice go k gc).ownBlock → ((Value.slice go k gc).ownBlock = some g' ∨ g' = w.heap.size) → K (a.put o.dst (.slice (some ⟨g', 0, none⟩) (k + 1) gc')) w') : o.wp Try.prog a w K Q := by
  obtain ⟨i0, hi0, hz0, hz1, hz2⟩ := info_parts Try.infoInt
  refine wp_append_lies w s x 24 ho base 2 i0 _ 1 8 Try.underlying24 hi0 hz0 hz1 hz2 rfl (by omega) _ k (icells f k) hs hown ⟨B, 0, none⟩ 1 1 [.int .i64 (f k)] hx rfl ?_ ?_ (by omega) (by unfold maxLen; omega) (by omega) hbase w.heap.size rfl ?_
  · intro j u hu
    match j, hu with
    | 0, hu => simp at hu; subst hu; exact hB
    | j + 1, hu => simp at hu
  · intro u hu
    simp at hu
    subst hu; rfl
  · intro g' gc' w' hown' hgrow hat _
    rw [icells_put (f k) (fun _ _ => rfl) rfl] at hown'
    exact h g' gc' w' hown' hgrow hat
theorem step_append_own {ops : Array Oper} {o : Oper} {a : Act} {w : World} {K : Act → World → Prop} {Q : Exit → Act → World → Prop} {E : Prop} (hgd : o.guard = none) (s x : Operand)
    (ho : o.op = .call { callee := .builtin .append, args := #[s, x], argTypes := #[24, 24] }) (base k gc : Nat) (go : Option Addr) (f : Nat → Int) (hs : a.eval s = .slice go k gc) (hown : OwnE w base go k gc f) (B : Nat) (hx : a.eval x = .slice (some ⟨B, 0, none⟩) 1 1)
    (hB : w.cell? ⟨B, 0, none⟩ = some (.int .i64 (f k))) (hk : k ≤ 100000000) (hbase : base ≤ w.heap.size)
    (h : ∀ g' gc' w', OwnE w' base (some ⟨g', 0, none⟩) (k + 1) gc' f → w.grownBy w' (Value.slice go k gc).ownBlock → ((Value.slice go k gc).ownBlock = some g' ∨ g' = w.heap.size) → K (a.put o.dst (.slice (some ⟨g', 0, none⟩) (k + 1) gc')) w') :
    if Region.wanted o (yielded ops a.tmps) = true then Oper.wp Try.prog o a w K Q else E := by
  have hw : Region.wanted o (yielded ops a.tmps) = true := by simp [Region.wanted, hgd]
  rw [if_pos hw]
  exact wp_append_own s x ho base k gc go f hs hown B hx hB hk hbase h

/-- A box of two slices. -/
def me2 (a b : Value) (j : Nat) : Value := if j = 0 then a else b
/-- What stands while the two lists grow: blocks S + 3 holds the two, S + 2 the result. -/
structure CS (w : World) (c0 c1 c2 c3 : Value) (go : Option Addr) (j gc : Nat) (U : Nat → Int) (ho : Option Addr) (j' hc : Nat) (V : Nat → Int) (W : World) : Prop where
  bel : Below w.heap.size w W
  g0 : W.cell? ⟨w.heap.size, 0, none⟩ = some c0
  g1 : W.cell? ⟨w.heap.size, 1, none⟩ = some c1
  h0 : W.cell? ⟨w.heap.size + 1, 0, none⟩ = some c2
  h1 : W.cell? ⟨w.heap.size + 1, 1, none⟩ = some c3
  res : VHas W (w.heap.size + 2) 59 2 (me2 (.slice none 0 0) (.slice none 0 0))
  box : VHas W (w.heap.size + 3) 59 2 (me2 (.slice go j gc) (.slice ho j' hc))
  own1 : OwnE W (w.heap.size + 4) go j gc U
  own2 : OwnE W (w.heap.size + 4) ho j' hc V
  sep : ∀ x, (Value.slice go j gc).ownBlock = some x → (Value.slice ho j' hc).ownBlock ≠ some x
section
variable {w : World} {c0 c1 c2 c3 : Value} {go : Option Addr} {j gc : Nat} {U : Nat → Int} {ho : Option Addr} {j' hc : Nat} {V : Nat → Int} {W W' : World}
theorem CS.next (h : CS w c0 c1 c2 c3 go j gc U ho j' hc V W) (hb : Below W.heap.size W W') : CS w c0 c1 c2 c3 go j gc U ho j' hc V W' :=
  ⟨below_next h.bel (Nat.le_refl _) hb, keep_cell hb (Nat.le_refl _) h.g0, keep_cell hb (Nat.le_refl _) h.g1, keep_cell hb (Nat.le_refl _) h.h0, keep_cell hb (Nat.le_refl _) h.h1, h.res.next hb, h.box.next hb, h.own1.next hb, h.own2.next hb, h.sep⟩
/-- A step that turns a block from S + 4 on, if any. -/
theorem cell_far {W W' : World} {b o B : Nat} {v : Value} {row : Option Nat} (h : W.cell? ⟨b, o, none⟩ = some v) (hg : W.grownBy W' row) (hr : ∀ x, row = some x → B ≤ x) (hb : b < B) : W'.cell? ⟨b, o, none⟩ = some v := by
  have hl := lt_of_cell h
  have := hg.block b hl (fun e => by have := hr b e.symm; omega)
  simpa [World.cell?, this] using h
theorem below_far {w W W' : World} {B : Nat} {row : Option Nat} (h : Below w.heap.size w W) (hg : W.grownBy W' row) (hr : ∀ x, row = some x → B ≤ x) (hb : w.heap.size ≤ B) : Below w.heap.size w W' :=
  ⟨hg.os.trans h.os, hg.tape.trans h.tape, hg.output.trans h.output, Nat.le_trans h.size hg.size, fun k hk => (hg.block k (Nat.lt_of_lt_of_le hk h.size) (fun e => by have := hr k e.symm; omega)).trans (h.block k hk)⟩
theorem VHas.far {W W' : World} {b n B : Nat} {t : TypeId} {f : Nat → Value} {row : Option Nat} (h : VHas W b t n f) (hg : W.grownBy W' row) (hr : ∀ x, row = some x → B ≤ x) (hb : b < B) : VHas W' b t n f := h.grown hg (fun e => by have := hr b e.symm; omega)
theorem CS.app1 (h : CS w c0 c1 c2 c3 go j gc U ho j' hc V W) (hg : W.grownBy W' (Value.slice go j gc).ownBlock) {g' gc' : Nat} (hown : OwnE W' (w.heap.size + 4) (some ⟨g', 0, none⟩) (j + 1) gc' U) (hat : (Value.slice go j gc).ownBlock = some g' ∨ g' = W.heap.size) :
    CS w c0 c1 c2 c3 (some ⟨g', 0, none⟩) (j + 1) gc' U ho j' hc V (W'.setCell ⟨w.heap.size + 3, 0, none⟩ (.slice (some ⟨g', 0, none⟩) (j + 1) gc')) := by
  have hr : ∀ x, (Value.slice go j gc).ownBlock = some x → w.heap.size + 4 ≤ x := fun x e => (h.own1.at e).1
  have hs := gr_setCell W' (w.heap.size + 3) 0 (.slice (some ⟨g', 0, none⟩) (j + 1) gc')
  have hr2 : ∀ x, some (w.heap.size + 3) = some x → w.heap.size + 3 ≤ x := fun x e => by cases e; exact Nat.le_refl _
  have hl := h.box.lt
  refine ⟨below_far (below_far h.bel hg hr (by omega)) hs hr2 (by omega), cell_far (cell_far h.g0 hg hr (by omega)) hs hr2 (by omega), cell_far (cell_far h.g1 hg hr (by omega)) hs hr2 (by omega), cell_far (cell_far h.h0 hg hr (by omega)) hs hr2 (by omega), cell_far (cell_far h.h1 hg hr (by omega)) hs hr2 (by omega), (h.res.far hg hr (by omega)).far hs hr2 (by omega), ?_, ?_, ?_, ?_⟩
  · refine ((h.box.far hg hr (by omega)).set 0 _).congr (fun i hi => ?_)
    have : i = 0 ∨ i = 1 := by omega
    rcases this with rfl | rfl <;> rfl
  · refine hown.grown hs (fun x e => ?_)
    have := (hown.at e).1
    simp; omega
  · refine (h.own2.grown hg (fun x e q => h.sep x q e)).grown hs (fun x e => ?_)
    have := (h.own2.at e).1
    simp; omega
  · intro x e q
    simp [Value.ownBlock] at e
    subst e
    rcases hat with e | e
    · exact h.sep _ e q
    · have := (h.own2.at q).2
      omega
theorem CS.app2 (h : CS w c0 c1 c2 c3 go j gc U ho j' hc V W) (hg : W.grownBy W' (Value.slice ho j' hc).ownBlock) {g' gc' : Nat} (hown : OwnE W' (w.heap.size + 4) (some ⟨g', 0, none⟩) (j' + 1) gc' V) (hat : (Value.slice ho j' hc).ownBlock = some g' ∨ g' = W.heap.size) :
    CS w c0 c1 c2 c3 go j gc U (some ⟨g', 0, none⟩) (j' + 1) gc' V (W'.setCell ⟨w.heap.size + 3, 1, none⟩ (.slice (some ⟨g', 0, none⟩) (j' + 1) gc')) := by
  have hr : ∀ x, (Value.slice ho j' hc).ownBlock = some x → w.heap.size + 4 ≤ x := fun x e => (h.own2.at e).1
  have hs := gr_setCell W' (w.heap.size + 3) 1 (.slice (some ⟨g', 0, none⟩) (j' + 1) gc')
  have hr2 : ∀ x, some (w.heap.size + 3) = some x → w.heap.size + 3 ≤ x := fun x e => by cases e; exact Nat.le_refl _
  have hl := h.box.lt
  refine ⟨below_far (below_far h.bel hg hr (by omega)) hs hr2 (by omega), cell_far (cell_far h.g0 hg hr (by omega)) hs hr2 (by omega), cell_far (cell_far h.g1 hg hr (by omega)) hs hr2 (by omega), cell_far (cell_far h.h0 hg hr (by omega)) hs hr2 (by omega), cell_far (cell_far h.h1 hg hr (by omega)) hs hr2 (by omega), (h.res.far hg hr (by omega)).far hs hr2 (by omega), ?_, ?_, ?_, ?_⟩
  · refine ((h.box.far hg hr (by omega)).set 1 _).congr (fun i hi => ?_)
    have : i = 0 ∨ i = 1 := by omega
    rcases this with rfl | rfl <;> rfl
  · refine (h.own1.grown hg (fun x e q => h.sep x e q)).grown hs (fun x e => ?_)
    have := (h.own1.at e).1
    simp; omega
  · refine hown.grown hs (fun x e => ?_)
    have := (hown.at e).1
    simp; omega
  · intro x e q
    simp [Value.ownBlock] at q
    subst q
    rcases hat with q | q
    · exact h.sep _ e q
    · have := (h.own1.at e).2
      omega
end

/-- A metric that is answered: its lists are of the call's own. -/
def MAns (w w' : World) (e : Ending) (m : Nat) (U D : Nat → Int) : Prop := ∃ ao cap eo ecap, e = .returned (.agg #[.slice ao m cap, .slice eo m ecap]) ∧ (0 < m → ∃ b c, ao = some ⟨b, 0, none⟩ ∧ eo = some ⟨c, 0, none⟩ ∧ w.heap.size ≤ b ∧ w.heap.size ≤ c ∧ b ≠ c ∧ IHas w' b m U ∧ IHas w' c m D) ∧ w.heap.size + 2 ≤ w'.heap.size ∧ Below w.heap.size w w'
theorem me2_new (w : World) (a b : Value) : VHas (w.alloc (.cells #[a, b] 59)) w.heap.size 59 2 (me2 a b) :=
  ⟨_, Go.Deep.blk_alloc_new _ _, by simp, fun j hj => by
    have : j = 0 ∨ j = 1 := by omega
    rcases this with rfl | rfl <;> rfl⟩

end Go.Proofs.Ytdgnlpafmkhdjag

/-
  The program's helpers over metrics: weights in their bounds, what a triangle tells.
-/
set_option linter.unusedVariables false
set_option linter.unusedSimpArgs false
namespace Go.Proofs.Ytdgnlpafmkhdjag
open Go.RowKit
attribute [local go_sem ↓] Go.wp_at_zero Go.wp_at_succ

set_option maxHeartbeats 2000000 in
theorem upBelow_any (uo : Option Addr) (u ucap : Nat) (U : Nat → Int) (vo : Option Addr) (v vcap : Nat) (V : Nat → Int) (t : Tr) (h1 : t.1 < v) (h2 : t.2.1 < u) (hU : InF u U) (hV : InF v V) (hu : u ≤ 1048576) (hv : v ≤ 1048576) (w : World) (rU : IRow w uo u U) (rV : IRow w vo v V) :
    Calls Try.prog 93 #[.agg #[.slice uo u ucap, .slice vo v vcap], .agg #[.int .i64 (t.1 : Int), .int .i64 (t.2.1 : Int), .int .i64 (t.2.2 : Int)]] w fun e w' => e = .returned (.int .i64 (upT U V t)) ∧ Below w.heap.size w w' := by
  obtain ⟨i, k, e⟩ := t
  simp only at h1 h2
  obtain ⟨b, o, hao, c0⟩ := rU k h2
  subst hao
  obtain ⟨b', o', hao', d0⟩ := rV i h1
  subst hao'
  have hB := ((Below.refl w.heap.size w).alloc (Nat.le_refl _) (.cells #[.slice (some ⟨b, o, none⟩) u ucap, .slice (some ⟨b', o', none⟩) v vcap] 59)).alloc (by simp) (.cells #[.int .i64 (i : Int), .int .i64 (k : Int), .int .i64 (e : Int)] 120)
  replace c0 := keep_cell hB (Nat.le_refl _) c0
  replace d0 := keep_cell hB (Nat.le_refl _) d0
  have hk1 : (0 : Int) ≤ (k : Int) := by omega
  have hk2 : (k : Int) < (u : Int) := by omega
  have hi1 : (0 : Int) ≤ (i : Int) := by omega
  have hi2 : (i : Int) < (v : Int) := by omega
  obtain ⟨uk0, uk1⟩ := hU k h2
  obtain ⟨vi0, vi1⟩ := hV i h1
  go_enter Try.func93, Try.ntmps93
  go_wp2
  go_quiet (first | (go_at_call 104; refine Calls.quiet_of_same (plus_any _ _ (by assumption) (by assumption) (by assumption) (by assumption) _)))
  go_wp2
  go_ret
  exact ⟨rfl, below_drewN hB _⟩
set_option maxHeartbeats 2000000 in
theorem downBelow_any (uo : Option Addr) (u ucap : Nat) (U : Nat → Int) (vo : Option Addr) (v vcap : Nat) (V : Nat → Int) (t : Tr) (h1 : t.2.1 < v) (h2 : t.1 < u) (hU : InF u U) (hV : InF v V) (hu : u ≤ 1048576) (hv : v ≤ 1048576) (w : World) (rU : IRow w uo u U) (rV : IRow w vo v V) :
    Calls Try.prog 94 #[.agg #[.slice uo u ucap, .slice vo v vcap], .agg #[.int .i64 (t.1 : Int), .int .i64 (t.2.1 : Int), .int .i64 (t.2.2 : Int)]] w fun e w' => e = .returned (.int .i64 (dnT U V t)) ∧ Below w.heap.size w w' := by
  obtain ⟨k, i, e⟩ := t
  simp only at h1 h2
  obtain ⟨b, o, hao, c0⟩ := rU k h2
  subst hao
  obtain ⟨b', o', hao', d0⟩ := rV i h1
  subst hao'
  have hB := ((Below.refl w.heap.size w).alloc (Nat.le_refl _) (.cells #[.slice (some ⟨b, o, none⟩) u ucap, .slice (some ⟨b', o', none⟩) v vcap] 59)).alloc (by simp) (.cells #[.int .i64 (k : Int), .int .i64 (i : Int), .int .i64 (e : Int)] 120)
  replace c0 := keep_cell hB (Nat.le_refl _) c0
  replace d0 := keep_cell hB (Nat.le_refl _) d0
  have hk1 : (0 : Int) ≤ (k : Int) := by omega
  have hk2 : (k : Int) < (u : Int) := by omega
  have hi1 : (0 : Int) ≤ (i : Int) := by omega
  have hi2 : (i : Int) < (v : Int) := by omega
  obtain ⟨uk0, uk1⟩ := hU k h2
  obtain ⟨vi0, vi1⟩ := hV i h1
  go_enter Try.func94, Try.ntmps94
  go_wp2
  go_quiet (first | (go_at_call 104; refine Calls.quiet_of_same (plus_any _ _ (by assumption) (by assumption) (by assumption) (by assumption) _)))
  go_wp2
  go_ret
  exact ⟨rfl, below_drewN hB _⟩

end Go.Proofs.Ytdgnlpafmkhdjag

/-
  Chordal: the program's. For every list of at most 2^20 edges.
-/
set_option linter.unusedVariables false
set_option linter.unusedSimpArgs false
namespace Go.Proofs.Ytdgnlpafmkhdjag
open Go.RowKit Go.Maps
attribute [local go_sem ↓] Go.wp_at_zero Go.wp_at_succ

theorem edge_wf {l h p : Int} (he : edgeB l h p = true) (hp : p ≤ 24) : (Lit.int .i64 l).wf = true ∧ (Lit.int .i64 h).wf = true := by
  have := edgeB_in he
  exact ⟨WalkArith.wf_i64 (by omega), WalkArith.wf_i64 (by omega)⟩

set_option maxRecDepth 100000 in
set_option maxHeartbeats 2000000 in
theorem implChordal_any (p : Int) (ao : Option Addr) (n cap : Nat) (L H : Nat → Int) (hn : n ≤ 1048576) (hcap : n ≤ cap) (w : World) (hr : ERow w ao n L H) :
    Calls Try.prog 19 #[.slice ao n cap, .int .i64 p] w fun e w' => BAns e (Chd p n L H) ∧ Below w.heap.size w w' := by
  rcases Bool.eq_false_or_eq_true (edgesB p n L H) with h | h
  rotate_left
  · have HC : Hid (¬ Chd p n L H) := fun hc => by rw [hc.1] at h; cases h
    go_enter Try.func19, Try.ntmps19
    go_wp2_with (go_at_call 43; refine (edgesOk_any p ao n cap L H hn _ hr).mono ?_; rintro e w1 ⟨rfl, hb1⟩)
    go_ret
    exact ⟨bans_no HC.out, hb1⟩
  have HC : Hid (Chd p n L H ↔ ChdTo n L H n) := ⟨fun x => x.2, fun x => ⟨h, x⟩⟩
  have hwf : EWf L H n := fun k hk => by
    simp [edgesB, inB] at h
    exact edge_wf (edB_at n h.2 k hk) (by omega)
  have HW : Hid (EWf L H n) := hwf
  clear hwf
  go_enter Try.func19, Try.ntmps19
  go_wp2_with fail
  refine (edgesOk_any p ao n cap L H hn _ hr).mono ?_
  rintro e w1 ⟨rfl, hb1⟩
  go_wp2_with fail
  refine (edgeNumbers_any ao n cap L H hn HW.out _ (hr.below hb1 (Nat.le_refl _))).mono ?_
  rintro e w2 ⟨rfl, hm2, hb2⟩
  have hA2 := below_next hb1 (Nat.le_refl _) hb2
  have hs1 := hb1.size
  clear hb1 hb2
  go_wp2
  go_loopw [20] (fun x wr => ∃ i : Nat, i ≤ n ∧ x = .int .i64 i ∧ ChdTo n L H i ∧ wr.ownsMap Try.prog 64 (plainElem Try.prog 3) w1.heap.size n (enums L H n) ∧ Below w.heap.size w wr) (fun x _ => n - (intOf x).toNat)
  case atStart => exact ⟨0, Nat.zero_le _, rfl, fun i hi => by omega, hm2, hA2⟩
  case round =>
    clear hm2 hA2
    obtain ⟨i, hi, rfl, hto, hm, hbel⟩ := hrel
    have HTO : Hid (ChdTo n L H i) := hto
    clear hto
    by_cases hlt : i < n
    rotate_left
    · have hin : i = n := by omega
      subst hin
      go_wp2
      go_ret
      exact ⟨bans_yes (HC.out.2 HTO.out), hbel⟩
    obtain ⟨b, o, hao, c0, c1⟩ := (hr.below hbel (Nat.le_refl _)) i hlt
    subst hao
    have hi1 : (0 : Int) ≤ (i : Int) := by omega
    have hi2 : (i : Int) < (n : Int) := by omega
    have hm' := hm.alloc (.cells #[.int .i64 (L i), .int .i64 (H i)] 64)
    have hb' := hbel.alloc (o := .cells #[.int .i64 (L i), .int .i64 (H i)] 64) hbel.size
    by_cases hc : cap = i + 1
    · have hin : n = i + 1 := by omega
      have HN : Hid (ChdTo n L H (i + 1)) := HTO.out.next (ChdAt.start n L H i) (Or.inl hin.symm) (by omega)
      subst hc
      have hz : n - (i + 1) = 0 := by omega
      go_wp2
      all_goals try omega
      go_loopw [30] (fun x wq => x = .int .i64 0 ∧ wq.ownsMap Try.prog 64 (plainElem Try.prog 3) w1.heap.size n (enums L H n) ∧ Below w.heap.size w wq) (fun x _ => 0)
      case atStart => exact ⟨rfl, hm', hb'⟩
      case round =>
        clear hm' hb' hm hbel
        obtain ⟨rfl, hm, hbel⟩ := hrel
        go_wp2
        go_roundw
        case rel => exact ⟨i + 1, by omega, by go_num, HN.out, hm, hbel⟩
        case measure => simp [intOf]; omega
    obtain ⟨W0, hW0⟩ : ∃ W0, W0 = wr := ⟨_, rfl⟩
    subst hW0
    have hc2 : i + 1 < cap := by omega
    have hfl : W0.heap.size < (W0.alloc (.cells #[.int .i64 (L i), .int .i64 (H i)] 64)).heap.size := by simp
    have hbw := hbel.size
    have f0 : (W0.alloc (.cells #[.int .i64 (L i), .int .i64 (H i)] 64)).cell? ⟨W0.heap.size, 0, none⟩ = some (.int .i64 (L i)) := by simp [go_sem]
    have f1 : (W0.alloc (.cells #[.int .i64 (L i), .int .i64 (H i)] 64)).cell? ⟨W0.heap.size, 1, none⟩ = some (.int .i64 (H i)) := by simp [go_sem]
    go_wp2
    go_loopw [30] (fun x wq => ∃ k : Nat, i + 1 + k ≤ n ∧ x = .int .i64 k ∧ ChdAt n L H i (i + 1 + k) ∧ wq.ownsMap Try.prog 64 (plainElem Try.prog 3) w1.heap.size n (enums L H n) ∧ wq.cell? ⟨W0.heap.size, 0, none⟩ = some (.int .i64 (L i)) ∧ wq.cell? ⟨W0.heap.size, 1, none⟩ = some (.int .i64 (H i)) ∧ Below w.heap.size w wq) (fun x _ => n - (intOf x).toNat)
    case atStart => exact ⟨0, by omega, rfl, ChdAt.start n L H i, hm', f0, f1, hb'⟩
    case round =>
      clear hm' hb' hm hbel f0 f1 hfl hbw
      obtain ⟨k, hk, rfl, hat, hm, f0, f1, hbel⟩ := hrel
      have HAT : Hid (ChdAt n L H i (i + 1 + k)) := hat
      clear hat c0 c1
      have hml := hm.lt
      have hfl := lt_of_cell f0
      by_cases hkn : i + 1 + k < n
      rotate_left
      · have e : i + 1 + k = n := by omega
        have HN : Hid (ChdTo n L H (i + 1)) := HTO.out.next HAT.out (Or.inl e) (by omega)
        have hd : ¬ (k : Int) < ((n - (i + 1) : Nat) : Int) := by omega
        go_wp2
        go_roundw
        case rel => exact ⟨i + 1, by omega, by go_num, HN.out, hm, hbel⟩
        case measure => simp [intOf]; omega
      obtain ⟨b', o', hao', d0, d1⟩ := (hr.below hbel (Nat.le_refl _)) (i + 1 + k) hkn
      simp only [Option.some.injEq, Addr.mk.injEq, and_true] at hao'
      obtain ⟨rfl, rfl⟩ := hao'
      have e0 : o + (i + 1 + k) * 2 = o + (i + 1) * 2 + k * 2 := by omega
      rw [e0] at d0 d1
      clear e0
      have hd : (k : Int) < ((n - (i + 1) : Nat) : Int) := by omega
      have hk0 : (0 : Int) ≤ (k : Int) := by omega
      have hm' := hm.alloc (.cells #[.int .i64 (L (i + 1 + k)), .int .i64 (H (i + 1 + k))] 64)
      have hb' := hbel.alloc (o := .cells #[.int .i64 (L (i + 1 + k)), .int .i64 (H (i + 1 + k))] 64) hbel.size
      have hB := Below.refl wr.heap.size wr
      have HB := hB.alloc (o := .cells #[.int .i64 (L (i + 1 + k)), .int .i64 (H (i + 1 + k))] 64) (Nat.le_refl _)
      have f0' := keep_cell HB (Nat.le_refl _) f0
      have f1' := keep_cell HB (Nat.le_refl _) f1
      clear hB HB
      by_cases hL : L (i + 1 + k) = L i
      rotate_left
      · have HN : Hid (ChdTo n L H (i + 1)) := HTO.out.next HAT.out (Or.inr hL) (by omega)
        go_wp2
        go_roundw
        case rel => exact ⟨i + 1, by omega, by go_num, HN.out, hm', hb'⟩
        case measure => simp [intOf]; omega
      have HL : Hid (L (i + 1 + k) = L i) := hL
      rw [hL] at d0 hm' hb' f0' f1'
      clear hL hm
      have hkey := key_edge (H i) (H (i + 1 + k)) (HW.out i hlt).2 (HW.out (i + 1 + k) hkn).2
      have hlook := enums_look L H (H i) (H (i + 1 + k)) (HW.out i hlt).2 (HW.out (i + 1 + k) hkn).2 n HW.out
      rcases hlook with ⟨hl1, hl2⟩ | ⟨q, hq, hq1, hq2, hl1, hl3⟩
      · have HS : Hid (¬ Hs n L H (H i) (H (i + 1 + k))) := fun ⟨x, h1, h2⟩ => hl2 x h1 h2
        clear hl2
        go_wp2_with (at_lookup; refine wpList_lookup_own_ok_int _ rfl _ _ 69 rfl 64 3 .i64 Try.keyLawE Try.underlying69 Try.underlying3 (Try.mapZeroE _) _ n _ rfl hm' _ _ rfl hkey ?_; intro cc hatk hwc)
        go_ret
        exact ⟨bans_no (fun hc => HAT.out.bad HL.out (by omega) hkn HS.out (HC.out.1 hc)), hb'⟩
      · have HS : Hid (Hs n L H (H i) (H (i + 1 + k))) := ⟨q, hq, hq1, hq2⟩
        clear hl3 hq1 hq2
        go_wp2_with (at_lookup; refine wpList_lookup_own_ok_int _ rfl _ _ 69 rfl 64 3 .i64 Try.keyLawE Try.underlying69 Try.underlying3 (Try.mapZeroE _) _ n _ rfl hm' _ _ rfl hkey ?_; intro cc hatk hwc)
        go_roundw
        case rel => exact ⟨k + 1, by omega, by go_num, HAT.out.next HL.out HS.out, hm', f0', f1', hb'⟩
        case measure => simp [intOf]; omega

end Go.Proofs.Ytdgnlpafmkhdjag

/-
  The program's iterator over triangles: what it hands over, whatever the rounds do, as long as its edges can be read and its own memory stays.
-/
set_option linter.unusedVariables false
set_option linter.unusedSimpArgs false
namespace Go.Proofs.Ytdgnlpafmkhdjag
open Go.RowKit Go.Shelf Go.Maps
attribute [local go_sem] Oper.semAt_some

theorem triangles_any (eo : Option Addr) (m ecap : Nat) (w : World) :
    Calls Try.prog 92 #[.slice eo m ecap] w fun e w' => e = .returned (.func (.func 103) #[] #[.pointer (some ⟨w.heap.size, 0, none⟩)]) ∧ w' = w.alloc (.cells #[.slice eo m ecap] 26) := by
  go_enter Try.func92, Try.ntmps92
  go_wp2
  go_ret
  exact ⟨rfl, rfl⟩

/-- Cells and maps from B on lie as they lay. -/
structure KeepsOwn (B : Nat) (W W' : World) : Prop where
  size : W.heap.size ≤ W'.heap.size
  same : ∀ (k : Nat) (o : Obj), B ≤ k → W.heap[k]? = some o → (o.isCells = true ∨ o.isWalk = true) → W'.heap[k]? = some o
theorem KeepsOwn.trans {B : Nat} {X Y Z : World} (h : KeepsOwn B X Y) (k : KeepsOwn B Y Z) : KeepsOwn B X Z := ⟨Nat.le_trans h.size k.size, fun i o hB hi ho => k.same i o hB (h.same i o hB hi ho) ho⟩
theorem KeepsOwn.putObj {B : Nat} {W : World} {l : Nat} {o o' : Obj} (hl : W.heap[l]? = some o) (h1 : o.isCells = false) (h2 : o.isWalk = false) : KeepsOwn B W (W.putObj l o') :=
  ⟨by simp [World.putObj], fun k x _ hk hx => by
    by_cases e : k = l
    · subst e
      rw [hl] at hk
      cases hk
      rw [h1, h2] at hx
      simp at hx
    · rw [World.putObj_heap_other e]; exact hk⟩
theorem KeepsOwn.cell {B b o : Nat} {W W' : World} {v : Value} (h : KeepsOwn B W W') (hb : B ≤ b) (hc : W.cell? ⟨b, o, none⟩ = some v) (hk : ∃ cur t fr, W.heap[b]? = some (.cells cur t fr)) : W'.cell? ⟨b, o, none⟩ = some v := by
  obtain ⟨cur, t, fr, hk⟩ := hk
  have := h.same b _ hb hk (.inl rfl)
  rw [World.cell?_of_block (show W'.heap[b]? = W.heap[b]? by rw [this, hk])]
  exact hc

theorem owns_walk {P : Program} {k : TypeId} {R : Value → Option (DataW Unit × List MemPlace)} {b n : Nat} {D : DataW Unit} {w : World} {o : Obj} (h : w.ownsMap P k R b n D) (ho : w.heap[b]? = some o) : o.isWalk = true := by
  unfold World.ownsMap at h
  rw [ho] at h
  cases o <;> simp_all [Obj.isWalk]
def trv (t : Tr) : Value := .agg #[.int .i64 (t.1 : Int), .int .i64 (t.2.1 : Int), .int .i64 (t.2.2 : Int)]

set_option maxRecDepth 100000 in
set_option maxHeartbeats 4000000 in
theorem tri_core (n : Nat) (hn : 1 ≤ n) (l bE : Nat) (eo : Option Addr) (m ecap : Nat) (L H : Nat → Int) (p : Int) (hm : m ≤ 1048576) (hp : p ≤ 24) (he : edB p L H m = true) (hc : ChdTo m L H m) (J Jx : List Tr → World → Prop) (W : World) (hJ : AbidesFrom W.heap.size J)
    (hRd : ∀ pre W1, J pre W1 → W1.cell? ⟨bE, 0, none⟩ = some (.slice eo m ecap) ∧ ERow W1 eo m L H)
    (hY : ∀ pre t W1, TOk m L H t → pre.length < m * m → J pre W1 → YieldAt Fence.wide (n - 1) Try.prog l #[trv t] W1 fun e W' => (e = .returned (.bool true) ∧ J (pre ++ [t]) W' ∧ KeepsOwn W.heap.size W1 W') ∨ (e = .returned (.bool false) ∧ Jx (pre ++ [t]) W'))
    (h0 : J [] W) :
    CallsIn Fence.wide n Try.prog 103 #[.func (.yield l) #[] #[], .pointer (some ⟨bE, 0, none⟩)] W fun e W' => (∃ v, e = .returned v) ∧ (J (allT m L H m) W' ∨ ∃ pre, Jx pre W') := by
  obtain ⟨r1, r2⟩ := hRd _ _ h0
  have hwf : EWf L H m := fun k hk => edge_wf (edB_at m he k hk) hp
  have HW : Hid (EWf L H m) := hwf
  clear hwf
  refine callsIn_of_wp Try.func103 rfl trivial ?_ rfl
  simp only [Try.ntmps103, List.size_toArray, List.length_cons, List.length_nil, Nat.reduceAdd, Nat.reduceSub, Array.replicate_succ, Array.replicate_zero, List.push_toArray, List.append_toArray, List.nil_append, List.cons_append]
  gi_wp2_with fail
  refine ⟨trivial, ?_⟩
  refine (callsIn_wide.2 (edgeNumbers_any eo m ecap L H hm HW.out _ r2)).mono ?_
  rintro e w1 ⟨rfl, hm1, hb1⟩
  have hJ1 : J [] w1 := hJ _ _ _ none h0 ⟨hb1.os, hb1.tape, hb1.output, hb1.size, fun k hk _ => hb1.block k hk⟩ (fun r e => by cases e)
  obtain ⟨s1, s2⟩ := hRd _ _ hJ1
  clear r1 r2 h0 hb1
  gi_wp2
  clear s1 s2
  gi_loopw [12] (fun x wr => ∃ i : Nat, i ≤ m ∧ x = .int .i64 i ∧ J (allT m L H i) wr ∧ wr.ownsMap Try.prog 64 (plainElem Try.prog 3) W.heap.size m (enums L H m)) (fun x _ => m - (intOf x).toNat)
  case atStart => exact ⟨0, Nat.zero_le _, rfl, hJ1, hm1⟩
  case round =>
    clear hJ1 hm1
    obtain ⟨i, hi, rfl, hJi, hmi⟩ := hrel
    by_cases hlt : i < m
    rotate_left
    · have him : i = m := by omega
      subst him
      gi_wp2
      go_end0
      exact ⟨⟨_, rfl⟩, .inl hJi⟩
    obtain ⟨s1, s2⟩ := hRd _ _ hJi
    obtain ⟨b, o, hao, c0, c1⟩ := s2 i hlt
    subst hao
    have hi1 : (0 : Int) ≤ (i : Int) := by omega
    have hi2 : (i : Int) < (m : Int) := by omega
    have hml := hmi.lt
    have hm' := hmi.alloc (.cells #[.int .i64 (L i), .int .i64 (H i)] 64)
    have hJ' : J (allT m L H i) (wr.alloc (.cells #[.int .i64 (L i), .int .i64 (H i)] 64)) := hJ _ _ _ none hJi (World.grownBy_alloc wr _ none) (fun r e => by cases e)
    have hLb : (wr.alloc (.cells #[.int .i64 (L i), .int .i64 (H i)] 64)).heap[wr.heap.size]? = some (.cells #[.int .i64 (L i), .int .i64 (H i)] 64) := World.alloc_heap_new wr _
    clear hJi hmi s1 s2
    obtain ⟨W0, hW0⟩ : ∃ W0, W0 = wr := ⟨_, rfl⟩
    subst hW0
    gi_wp2
    clear c0 c1
    gi_loopw [6] (fun x wq => ∃ (kk : Nat) (pre : List Tr), i < kk ∧ kk ≤ m ∧ x = .int .i64 kk ∧ pre ++ rowT m L H i (m - kk) kk = allT m L H (i + 1) ∧ J pre wq ∧ wq.ownsMap Try.prog 64 (plainElem Try.prog 3) W.heap.size m (enums L H m) ∧ wq.heap[W0.heap.size]? = some (.cells #[.int .i64 (L i), .int .i64 (H i)] 64)) (fun x _ => m - (intOf x).toNat)
    case atStart => exact ⟨i + 1, allT m L H i, by omega, by omega, by go_num, rfl, hJ', hm', hLb⟩
    case round =>
      clear hJ' hm' hLb
      obtain ⟨kk, pre, hik, hkm, rfl, hall, hJk, hmk, hLb⟩ := hrel
      obtain ⟨r1, r2⟩ := hRd _ _ hJk
      have f0 : wr.cell? ⟨W0.heap.size, 0, none⟩ = some (.int .i64 (L i)) := by simp [World.cell?, hLb]
      have f1 : wr.cell? ⟨W0.heap.size, 1, none⟩ = some (.int .i64 (H i)) := by simp [World.cell?, hLb]
      have HALL : Hid (pre ++ rowT m L H i (m - kk) kk = allT m L H (i + 1)) := hall
      clear hall
      by_cases hkn : kk < m
      rotate_left
      · have HE : Hid (pre = allT m L H (i + 1)) := by
          have := HALL.out
          rw [rowT_stop (by omega), List.append_nil] at this
          exact this
        have hd : decide ((kk : Int) < (m : Int)) = false := by simp; omega
        gi_wp2
        refine wpIn_region_quiet_lit rfl (by kernel_rfl) (by kernel_rfl) ?_
        repeat (first | gi_big_quiet_step (fail) | (refine BigFrame.wpQuietIn_skip (fun _ _ _ _ => trivial) rfl ?_; simp only [go_sem, Act.put, List.setIfInBounds_toArray, List.set_cons_succ, List.set_cons_zero]))
        refine wpQuietIn_nil ?_
        intro _ hw'
        obtain ⟨nq, hw''⟩ := hw'
        subst hw''
        gi_wp2
        go_roundw
        case rel => exact ⟨i + 1, by omega, by go_num, by rw [← HE.out]; exact hJ _ _ _ none hJk ⟨rfl, rfl, rfl, Nat.le_refl _, fun _ _ _ => rfl⟩ (fun r e => by cases e), ownsMap_block hmk rfl⟩
        case measure => simp [intOf]; omega
      obtain ⟨b', o', hao', d0, d1⟩ := r2 kk hkn
      simp only [Option.some.injEq, Addr.mk.injEq, and_true] at hao'
      obtain ⟨rfl, rfl⟩ := hao'
      have hd : decide ((kk : Int) < (m : Int)) = true := by simp; omega
      have hk1 : (0 : Int) ≤ (kk : Int) := by omega
      have hk2 : (kk : Int) < (m : Int) := by omega
      by_cases hL : L kk = L i
      rotate_left
      · have HE : Hid (pre = allT m L H (i + 1)) := by
          have := HALL.out
          rw [rowT_stop (fun h => hL h.2), List.append_nil] at this
          exact this
        have hLd : decide (L kk = L i) = false := by simpa using hL
        gi_wp2
        refine wpIn_region_quiet_lit rfl (by kernel_rfl) (by kernel_rfl) ?_
        repeat (first | gi_big_quiet_step (fail) | (refine BigFrame.wpQuietIn_skip (fun _ _ _ _ => trivial) rfl ?_; simp only [go_sem, Act.put, List.setIfInBounds_toArray, List.set_cons_succ, List.set_cons_zero]))
        refine wpQuietIn_nil ?_
        intro _ hw'
        obtain ⟨nq, hw''⟩ := hw'
        subst hw''
        gi_wp2
        go_roundw
        case rel => exact ⟨i + 1, by omega, by go_num, by rw [← HE.out]; exact hJ _ _ _ none hJk ⟨rfl, rfl, rfl, Nat.le_refl _, fun _ _ _ => rfl⟩ (fun r e => by cases e), ownsMap_block hmk rfl⟩
        case measure => simp [intOf]; omega
      have HT : Hid (TOk m L H (i, kk, fnd L H (H i) (H kk) m)) := tok_of he hc hik hkn hL
      have HG : Hid (rowT m L H i (m - kk) kk = (i, kk, fnd L H (H i) (H kk) m) :: rowT m L H i (m - (kk + 1)) (kk + 1)) := rowT_go hkn hL
      rw [hL] at d0
      clear hL
      obtain ⟨E, hE⟩ : ∃ E, fnd L H (H i) (H kk) m = E := ⟨_, rfl⟩
      rw [hE] at HT HG
      clear hE
      gi_wp2
      refine wpIn_region_quiet_lit rfl (by kernel_rfl) (by kernel_rfl) ?_
      repeat (first | gi_big_quiet_step (fail) | (refine BigFrame.wpQuietIn_skip (fun _ _ _ _ => trivial) rfl ?_; simp only [go_sem, Act.put, List.setIfInBounds_toArray, List.set_cons_succ, List.set_cons_zero]))
      refine wpQuietIn_nil ?_
      intro _ hw'
      obtain ⟨nq, hw''⟩ := hw'
      subst hw''
      have hJ5 : J pre (wr.drewN nq) := hJ _ _ _ none hJk ⟨rfl, rfl, rfl, Nat.le_refl _, fun _ _ _ => rfl⟩ (fun r e => by cases e)
      have hm5 : (wr.drewN nq).ownsMap Try.prog 64 (plainElem Try.prog 3) W.heap.size m (enums L H m) := ownsMap_block hmk rfl
      have hL5 : (wr.drewN nq).heap[W0.heap.size]? = some (.cells #[.int .i64 (L i), .int .i64 (H i)] 64) := hLb
      clear r1 r2 f0 f1 d0 d1 hJk hmk hLb
      generalize wr.drewN nq = W5 at hJ5 hm5 hL5 ⊢
      obtain ⟨r1, r2⟩ := hRd _ _ hJ5
      have f0 : W5.cell? ⟨W0.heap.size, 0, none⟩ = some (.int .i64 (L i)) := by simp [World.cell?, hL5]
      have f1 : W5.cell? ⟨W0.heap.size, 1, none⟩ = some (.int .i64 (H i)) := by simp [World.cell?, hL5]
      obtain ⟨b', o', hao', d0, d1⟩ := r2 kk hkn
      simp only [Option.some.injEq, Addr.mk.injEq, and_true] at hao'
      obtain ⟨rfl, rfl⟩ := hao'
      have hlk : ∀ q, (Instr.lookup 69 (.map (some W.heap.size)) (.agg #[.int .i64 (H i), .int .i64 (H kk)]) false).run Try.prog (W5.drewN q) = .ok (.int .i64 (E : Int)) (W5.drewN q) := fun q => by
        have hkey := key_edge (H i) (H kk) (HW.out i hlt).2 (HW.out kk hkn).2
        obtain ⟨c, hrun, hat, _⟩ := (ownsMap_block (w' := W5.drewN q) hm5 rfl).lookup_int Try.keyLawE Try.underlying69 Try.underlying3 (Try.mapZeroE _) hkey
        rcases enums_look L H (H i) (H kk) (HW.out i hlt).2 (HW.out kk hkn).2 m HW.out with ⟨_, h2⟩ | ⟨x, hx, h1, h2, _, h4⟩
        · exact absurd ⟨HT.out.2.2.2.2.2.1, HT.out.2.2.2.2.2.2⟩ (h2 E HT.out.2.2.1)
        · have hxE : x = E := ed_once he hx HT.out.2.2.1 (by rw [h1]; exact HT.out.2.2.2.2.2.1.symm) (by rw [h2]; exact HT.out.2.2.2.2.2.2.symm)
          rw [h4, hxE] at hat
          simp only [DataW.lit.injEq, Lit.int.injEq, true_and] at hat
          rw [hrun, hat]
      gi_wp2
      refine wpIn_region_quiet_lit rfl (by kernel_rfl) (by kernel_rfl) ?_
      repeat (first | gi_big_quiet_step (fail) | (refine BigFrame.wpQuietIn_skip (fun _ _ _ _ => trivial) rfl ?_; simp only [go_sem, Act.put, List.setIfInBounds_toArray, List.set_cons_succ, List.set_cons_zero]))
      refine wpQuietIn_nil ?_
      intro _ hw'
      obtain ⟨nq, hw''⟩ := hw'
      subst hw''
      have hJ6 : J pre (W5.drewN nq) := hJ _ _ _ none hJ5 ⟨rfl, rfl, rfl, Nat.le_refl _, fun _ _ _ => rfl⟩ (fun r e => by cases e)
      have hm6 : (W5.drewN nq).ownsMap Try.prog 64 (plainElem Try.prog 3) W.heap.size m (enums L H m) := ownsMap_block hm5 rfl
      have hL6 : (W5.drewN nq).heap[W0.heap.size]? = some (.cells #[.int .i64 (L i), .int .i64 (H i)] 64) := hL5
      clear r1 r2 f0 f1 d0 d1 hJ5 hm5 hL5 hlk
      generalize W5.drewN nq = W6 at hJ6 hm6 hL6 ⊢
      have hlen : pre.length < m * m := by
        have h1 := congrArg List.length HALL.out
        rw [HG.out] at h1
        have h2 := allT_len (n := m) (L := L) (H := H) (i + 1)
        have h3 : (i + 1) * m ≤ m * m := Nat.mul_le_mul_right m (by omega)
        simp only [List.length_append, List.length_cons] at h1
        omega
      obtain ⟨fn, tmps, assign, body, hy, hR⟩ := hY pre (i, kk, E) W6 HT.out hlen hJ6
      have hR' := hR.mono (R' := fun e W' => ∃ b : Bool, e = .returned (.bool b) ∧ ((b = true ∧ J (pre ++ [(i, kk, E)]) W' ∧ KeepsOwn W.heap.size W6 W') ∨ (b = false ∧ Jx (pre ++ [(i, kk, E)]) W'))) (fun e W' h => by
        rcases h with ⟨h1, h2⟩ | ⟨h1, h2⟩
        · exact ⟨true, h1, .inl ⟨rfl, h2⟩⟩
        · exact ⟨false, h1, .inr ⟨rfl, h2⟩⟩)
      clear hR
      simp only [trv] at hy
      gi_wp2
      refine hR'.mono ?_
      rintro e W7 ⟨bb, rfl, hor⟩
      rcases hor with ⟨rfl, hJ7, hK7⟩ | ⟨rfl, hJx7⟩
      · have hm7 : W7.ownsMap Try.prog 64 (plainElem Try.prog 3) W.heap.size m (enums L H m) := by
          refine ownsMap_block hm6 ?_
          obtain ⟨o6, ho6⟩ : ∃ o6, W6.heap[W.heap.size]? = some o6 := ⟨_, Array.getElem?_eq_getElem hm6.lt⟩
          rw [ho6]
          exact hK7.same _ _ (Nat.le_refl _) ho6 (.inr (owns_walk hm6 ho6))
        have hL7 := hK7.same _ _ (by omega) hL6 (.inl rfl)
        gi_wp2
        go_roundw
        case rel => exact ⟨kk + 1, pre ++ [(i, kk, E)], by omega, by omega, by go_num, by rw [← HALL.out, HG.out]; simp, hJ7, hm7, hL7⟩
        case measure => simp [intOf]; omega
      · gi_wp2
        refine bodyPost_ret (results_none rfl _ _ _) rfl ?_
        exact ⟨⟨_, rfl⟩, .inr ⟨_, hJx7⟩⟩

end Go.Proofs.Ytdgnlpafmkhdjag

/-
  The iterator over triangles as a range over a function wants it.
-/
set_option linter.unusedVariables false
set_option linter.unusedSimpArgs false
namespace Go.Proofs.Ytdgnlpafmkhdjag
open Go.RowKit Go.Shelf Go.Maps

abbrev TrO (m : Nat) (L H : Nat → Int) := { t : Tr // TOk m L H t }
/-- What the iterator reads: its box and its edges. -/
def TRd (bE : Nat) (eo : Option Addr) (m ecap : Nat) (L H : Nat → Int) (W : World) : Prop := W.cell? ⟨bE, 0, none⟩ = some (.slice eo m ecap) ∧ ERow W eo m L H
theorem TRd.grown {bE : Nat} {eo : Option Addr} {m ecap : Nat} {L H : Nat → Int} {W W' : World} {row : Option Nat} (h : TRd bE eo m ecap L H W) (hg : W.grownBy W' row) (hr : ∀ r, row = some r → ∃ o : Obj, W.heap[r]? = some o ∧ o.isCells = false) : TRd bE eo m ecap L H W' :=
  ⟨cell_kept h.1 hg hr, fun k hk => by
    obtain ⟨b, o, e, c0, c1⟩ := h.2 k hk
    exact ⟨b, o, e, cell_kept c0 hg hr, cell_kept c1 hg hr⟩⟩
theorem TRd.putObj {bE : Nat} {eo : Option Addr} {m ecap : Nat} {L H : Nat → Int} {W : World} {l : Nat} {o o' : Obj} (h : TRd bE eo m ecap L H W) (hl : W.heap[l]? = some o) (ho : o.isCells = false) : TRd bE eo m ecap L H (W.putObj l o') :=
  h.grown (grownBy_putObj' W l o') (fun r e => by cases e; exact ⟨o, hl, ho⟩)
/-- What a round owes the iterator. -/
def TKp (B bE : Nat) (eo : Option Addr) (m ecap : Nat) (L H : Nat → Int) (W W' : World) : Prop := KeepsOwn B W W' ∧ (TRd bE eo m ecap L H W → TRd bE eo m ecap L H W')
theorem KeepsOwn.less {B B' : Nat} {W W' : World} (h : KeepsOwn B W W') (hB : B ≤ B') : KeepsOwn B' W W' := ⟨h.size, fun k o hk => h.same k o (by omega)⟩

theorem tri_stops (n : Nat) (hn : 1 ≤ n) (bE : Nat) (eo : Option Addr) (m ecap : Nat) (L H : Nat → Int) (p : Int) (hm : m ≤ 1048576) (hp : p ≤ 24) (he : edB p L H m = true) (hc : ChdTo m L H m) (w : World) (hR : TRd bE eo m ecap L H w) :
    SeqStopsK Fence.wide n Try.prog 103 #[.pointer (some ⟨bE, 0, none⟩)] (fun x : TrO m L H => #[trv x.1]) (TKp w.heap.size bE eo m ecap L H) (fun xs => xs.map (·.1) = allT m L H m) (fun _ => True) (m * m) w := fun l J Jx W hW hJ hJx hY h0 => by
  have hRW : TRd bE eo m ecap L H W := hR.grown (row := none) ⟨hW.os, hW.tape, hW.output, hW.size, fun k hk _ => hW.block k hk⟩ (fun r e => by cases e)
  refine (tri_core n hn l bE eo m ecap L H p hm hp he hc (fun pre W => (∃ xs : List (TrO m L H), xs.map (·.1) = pre ∧ J xs W) ∧ TRd bE eo m ecap L H W) (fun pre W => ∃ xs : List (TrO m L H), Jx xs W) W ?_ (fun _ _ h => h.2) ?_ ⟨⟨[], rfl, h0⟩, hRW⟩).mono ?_
  · rintro s A B row ⟨⟨xs, e, h1⟩, h2⟩ hg hr
    exact ⟨⟨xs, e, hJ xs A B row h1 hg hr⟩, h2.grown hg (fun r e => by obtain ⟨_, o, ho, hw⟩ := hr r e; exact ⟨o, ho, Obj.not_cells_of_walk hw⟩)⟩
  · rintro pre t W1 ht hlen ⟨⟨xs, rfl, h1⟩, h2⟩
    obtain ⟨fn, tmps, assign, body, hy, hR1⟩ := hY xs ⟨t, ht⟩ W1 h1 (by simpa using hlen)
    refine ⟨fn, tmps, assign, body, hy, hR1.mono ?_⟩
    rintro e W' (⟨h3, h4, h5, h6⟩ | ⟨h3, h4⟩)
    · exact .inl ⟨h3, ⟨⟨xs ++ [⟨t, ht⟩], by simp, h4⟩, h6 h2⟩, h5.less hW.size⟩
    · exact .inr ⟨h3, _, h4⟩
  · rintro e W' ⟨hv, (⟨⟨xs, e, h1⟩, _⟩ | ⟨pre, xs, h1⟩)⟩
    · exact ⟨hv, .inl ⟨xs, e, h1⟩⟩
    · exact ⟨hv, .inr ⟨xs, trivial, h1⟩⟩

end Go.Proofs.Ytdgnlpafmkhdjag

/-
  A range over a function whose loop variable lies in a box that each round makes anew.
-/
set_option linter.unusedVariables false
set_option linter.unusedSimpArgs false
namespace Go.Proofs.Ytdgnlpafmkhdjag
open Go Go.RowKit

section
variable {F : Fence} {n : Nat} {P : Program}
theorem range_boxed {α : Type} {g : Operand} {ps : Array Tmp} {assign body : Code} {Q : Exit → Act → World → Prop} {a : Act} {w : World}
    (hro : F.round = none) (h1 : 1 ≤ n) {gf : Nat} {lb : Array Value} (hg : a.eval g = .func (.func gf) #[] lb) (hFg : F.fn gf) (eg : ∀ args w, (callFunc gf args).run P w = .ok (.enter gf args) w)
    {encs : α → Array Value} {Kp : World → World → Prop} {S Sp : List α → Prop} {N : Nat} {w0 : World} (hseq : SeqStopsK F (n - 1) P gf lb encs Kp S Sp N w0)
    (hKt : ∀ {A B C : World}, Kp A B → Kp B C → Kp A C) (hKb : ∀ (W : World) (l : Nat) (o o' : Obj), w.heap.size ≤ l → W.heap[l]? = some o → o.isCells = false → o.isWalk = false → Kp W (W.putObj l o')) (hKa : ∀ (W : World) (o : Obj), Kp W (W.alloc o)) (hb0 : Below w0.heap.size w0 w) (hps : ∀ x, (encs x).size = ps.size)
    (I : List α → World → Prop) (Ix : Code → List α → World → Prop) (hI : OwnFrom w.heap.size I) (hIx : ∀ c, OwnFrom w.heap.size (Ix c)) (hIs : ∀ pre W, I pre W → w.heap.size ≤ W.heap.size) (h0 : I [] w) (d : Nat) (cs : α → Array Value) (T : TypeId)
    (hassign : ∀ (l : Nat) (x : α) (W : World) (K : Act → World → Prop), K { tmps := ((ps.zip (encs x)).foldl (fun t (p, v) => t.setIfInBounds p v) a.tmps).setIfInBounds d (.pointer (some ⟨W.heap.size, 0, none⟩)), defers := [] } (W.alloc (.cells (cs x) T)) →
      assign.wpIn (F.inRound l) (n - 1 - 1) P (Exit.then K (fun _ _ _ => False)) { tmps := (ps.zip (encs x)).foldl (fun t (p, v) => t.setIfInBounds p v) a.tmps, defers := [] } W)
    (hbody : ∀ (l : Nat) (pre : List α) (x : α) (bT : Nat) (W : World), I pre W → w.heap.size ≤ bT → W.heap[bT]? = some (.cells (cs x) T) → body.wpIn (F.inRound l) (n - 1 - 1) P (ownPostG w.heap.size Kp I Ix (pre ++ [x]) W) { tmps := ((ps.zip (encs x)).foldl (fun t (p, v) => t.setIfInBounds p v) a.tmps).setIfInBounds d (.pointer (some ⟨bT, 0, none⟩)), defers := [] } W)
    (hdone : ∀ (D : Nat) (xs : List α) (W : World), w.heap.size ≤ D → S xs → I xs W → W.heap[D]? = some (.deferred (some [])) → Q .normal { a with defers := { target := .collected D, args := #[] } :: a.defers } W)
    (hstop : ∀ (D : Nat) (c : Code) (pre : List α) (W : World), w.heap.size ≤ D → Sp pre → Ix c pre W → W.heap[D]? = some (.deferred (some [])) → c.wpIn F n P Q { a with defers := { target := .collected D, args := #[] } :: a.defers } W) :
    (Code.rangeFunc g ps assign body).wpIn F n P Q a w := by
  refine wpIn_rangeFunc_ownH hro h1 hg hFg eg hseq (fun h k => hKt h k) hKb hb0 hps I Ix hI hIx h0
    (fun x a' W => ∃ bT, a' = { tmps := ((ps.zip (encs x)).foldl (fun t (p, v) => t.setIfInBounds p v) a.tmps).setIfInBounds d (.pointer (some ⟨bT, 0, none⟩)), defers := [] } ∧ w.heap.size ≤ bT ∧ W.heap[bT]? = some (.cells (cs x) T)) ?_ ?_ ?_ hdone hstop
  · rintro x a' _ W W' row ⟨bT, rfl, hb, hc⟩ hg hr
    refine ⟨bT, rfl, hb, ?_⟩
    rw [hg.block bT (Array.getElem?_eq_some_iff.1 hc).1 (fun e => ?_)]
    · exact hc
    · obtain ⟨_, o, ho, hn⟩ := hr bT e.symm
      rw [hc] at ho
      cases ho
      cases hn
  · intro l pre x W K hi hK
    exact hassign l x W K (hK _ _ ((KeepsOthers.alloc W _).from _) (hKa W _) (hI.alloc _ hi) ⟨_, rfl, hIs _ _ hi, World.alloc_heap_new W _⟩)
  · rintro l pre x a' W _ _ hi ⟨bT, rfl, hb, hc⟩ _
    exact hbody l pre x bT W hi hb hc
end

end Go.Proofs.Ytdgnlpafmkhdjag

/-
  What the exact laws' own helpers do with lists of numbers: two are held against each other, one is marked, one is looked at for its marks.
-/
set_option linter.unusedVariables false
set_option linter.unusedSimpArgs false
namespace Go.Proofs.Ytdgnlpafmkhdjag
open Go.RowKit
attribute [local go_sem ↓] Go.wp_at_zero Go.wp_at_succ

set_option maxHeartbeats 800000 in
theorem eqInt64S_same (ao ao' : Option Addr) (n cap cap' : Nat) (f : Nat → Int) (hn : n ≤ 1048576) (w : World) (hr : IRow w ao n f) (hr' : IRow w ao' n f) :
    Calls Try.prog 13 #[.slice ao n cap, .slice ao' n cap'] w fun e w' => e = .returned (.bool true) ∧ Below w.heap.size w w' := by
  go_enter Try.func13, Try.ntmps13
  go_wp2
  go_loopw [5] (fun i wr => ∃ k : Nat, k ≤ n ∧ i = .int .i64 k ∧ Below w.heap.size w wr) (fun i _ => n - (intOf i).toNat)
  case atStart => exact ⟨0, Nat.zero_le _, rfl, Below.refl _ _⟩
  case round =>
    obtain ⟨k, hk, rfl, hbel⟩ := hrel
    by_cases hlt : k < n
    rotate_left
    · have hkn : k = n := by omega
      subst hkn
      go_wp2
      go_ret
      exact ⟨rfl, hbel⟩
    obtain ⟨b, o, hao, c0⟩ := (hr.below hbel (Nat.le_refl _)) k hlt
    obtain ⟨b', o', hao', d0⟩ := (hr'.below hbel (Nat.le_refl _)) k hlt
    subst hao
    subst hao'
    have hk1 : (0 : Int) ≤ (k : Int) := by omega
    have hk2 : (k : Int) < (n : Int) := by omega
    go_wp2
    go_quiet (fail)
    go_wp2
    go_roundw
    case rel => exact ⟨k + 1, by omega, by go_num, below_drewN hbel _⟩
    case measure => simp [intOf]; omega

/-- The marks: number j holds k + j. -/
def mki (k : Int) (j : Nat) : Int := k + j

set_option maxHeartbeats 1000000 in
theorem markInt64S_any (b n cap : Nat) (f : Nat → Int) (k : Int) (hk0 : 0 ≤ k) (hk1 : k ≤ 4000000) (hn : n ≤ 1048576) (w : World) (h : 0 < n → IHas w b n f) (ao : Option Addr) (hao : 0 < n → ao = some ⟨b, 0, none⟩) :
    Calls Try.prog 16 #[.slice ao n cap, .int .i64 k] w fun e w' => e = .returned (.int .i64 (k + n)) ∧ (0 < n → IHas w' b n (mki k)) ∧ w.grownBy w' (some b) := by
  go_enter Try.func16, Try.ntmps16
  go_wp2
  go_loopw [1, 5] (fun q i wr => ∃ m : Nat, m ≤ n ∧ i = .int .i64 m ∧ q = .int .i64 (k + m) ∧ (0 < n → IHas wr b n (fun j => if j < m then mki k j else f j)) ∧ w.grownBy wr (some b)) (fun _ i _ => n - (intOf i).toNat)
  case atStart => exact ⟨0, Nat.zero_le _, rfl, by simp, fun hp => (h hp).congr (fun j _ => by simp), World.grownBy.refl _ _⟩
  case round =>
    obtain ⟨m, hm, rfl, rfl, hh, hg⟩ := hrel
    by_cases hlt : m < n
    rotate_left
    · have e : m = n := by omega
      subst e
      go_wp2
      go_ret
      exact ⟨rfl, fun hp => (hh hp).congr (fun j hj => by rw [if_pos (by omega)]), hg⟩
    obtain rfl := hao (by omega)
    have HH := hh (by omega)
    have d0 := HH.cell (j := m) (by omega)
    have z0 := HH.frozen m
    have R := HH.set m (k + m)
    have S := hg.trans (gr_setCell _ b m (.int .i64 (k + m)))
    clear HH hh
    go_wp2
    go_roundw
    case rel =>
      refine ⟨m + 1, by omega, by go_num, by go_num, fun _ => R.congr (fun j hj => ?_), S⟩
      by_cases e0 : j = m
      · subst e0; simp [mki]
      simp only [if_neg e0]
      by_cases hl : j < m
      · rw [if_pos hl, if_pos (by omega)]
      · rw [if_neg hl, if_neg (by omega)]
    case measure => simp [intOf]; omega

set_option maxHeartbeats 1000000 in
theorem heldInt64S_any (b n cap : Nat) (k : Int) (hk0 : 0 ≤ k) (hk1 : k ≤ 4000000) (hn : n ≤ 1048576) (w : World) (h : 0 < n → IHas w b n (mki k)) (ao : Option Addr) (hao : 0 < n → ao = some ⟨b, 0, none⟩) :
    Calls Try.prog 17 #[.slice ao n cap, .int .i64 k] w fun e w' => e = .returned (.int .i64 (k + n)) ∧ w' = w := by
  go_enter Try.func17, Try.ntmps17
  go_wp2
  go_loop [1, 5] (fun q i => ∃ m : Nat, m ≤ n ∧ i = .int .i64 m ∧ q = .int .i64 (k + m)) (fun _ i => n - (intOf i).toNat)
  case atStart => exact ⟨0, Nat.zero_le _, rfl, by simp⟩
  case round =>
    obtain ⟨m, hm, rfl, rfl⟩ := hrel
    by_cases hlt : m < n
    rotate_left
    · have e : m = n := by omega
      subst e
      go_wp2
      go_ret
      exact ⟨rfl, rfl⟩
    obtain rfl := hao (by omega)
    have HH := h (by omega)
    have d0 : w.cell? ⟨b, m, none⟩ = some (.int .i64 (k + m)) := by
      rw [HH.cell (by omega)]; simp [mki]
    clear HH
    go_wp2
    go_round
    case rel => exact ⟨m + 1, by omega, by go_num, by go_num⟩
    case measure => simp [intOf]; omega

end Go.Proofs.Ytdgnlpafmkhdjag

/-
  What the reading of an argument says of its memory: a list of numbers that came in lies behind its address.
-/
set_option linter.unusedVariables false
set_option linter.unusedSimpArgs false
namespace Go.Proofs.Ytdgnlpafmkhdjag
open Go.ChangeShapes Go.WideShapes Go.ChangeAt Go.RowKit Go.Deep Go.Joins
attribute [local go_sem ↓] Go.wp_at_zero Go.wp_at_succ

set_option maxHeartbeats 400000 in
theorem toInt64S_any (ao : Option Addr) (n cap : Nat) (f : Nat → Int) (hn : n ≤ 1048576) (w : World) (hr : IRow w ao n f) :
    Calls Try.prog 62 #[.slice ao n cap] w fun e w' => e = .returned (.slice (some ⟨w.heap.size, 0, none⟩) n n) ∧ IHas w' w.heap.size n f ∧ Below w.heap.size w w' := by
  have hmk := make_ints n hn
  go_enter Try.func62, Try.ntmps62
  go_wp2
  clear hmk
  go_loopw [4] (fun i wr => ∃ k : Nat, k ≤ n ∧ i = .int .i64 k ∧ IHas wr w.heap.size n (fun j => if j < k then f j else 0) ∧ Below w.heap.size w wr) (fun i _ => n - (intOf i).toNat)
  case atStart => exact ⟨0, Nat.zero_le _, rfl, made_ints w n, (Below.refl _ _).alloc (Nat.le_refl _) _⟩
  case round =>
    obtain ⟨k, hk, rfl, hown, hbel⟩ := hrel
    by_cases hlt : k < n
    · obtain ⟨b, o, hao, c0⟩ := (hr.below hbel (Nat.le_refl _)) k hlt
      subst hao
      have d0 := hown.cell hlt
      have z0 := hown.frozen k
      have R := hown.set k (f k)
      have S := hbel.setCell (p := ⟨w.heap.size, k, none⟩) (Nat.le_refl _) (.int .i64 (f k))
      clear hown
      go_wp2
      go_roundw
      case rel =>
        refine ⟨k + 1, by omega, by go_num, R.congr (fun j hj => ?_), S⟩
        by_cases e : j = k
        · subst e; simp
        · simp only [if_neg e]
          by_cases hl : j < k
          · rw [if_pos hl, if_pos (by omega)]
          · rw [if_neg hl, if_neg (by omega)]
      case measure => simp [intOf]; omega
    · have hkn : k = n := by omega
      subst hkn
      go_wp2
      go_ret
      exact ⟨rfl, hown.congr (fun j hj => by simp [hj]), hbel⟩

set_option maxRecDepth 100000 in
theorem open_nums {H : Type} {enc : TypeId × Value → H} {w : World} {base : Nat} {spare : Nat → Bool} {held : Bool} {fuel : Nat} {cs : List Value} {x : DataW H × List MemPlace}
    (h : DataW.trod enc Try.prog w base spare held fuel 24 cs = some x) :
    ∃ (ao : Option Addr) (n cap : Nat) (P : Nat → Int), cs = [.slice ao n cap] ∧ n ≤ maxLen ∧ IRow w ao n P ∧ ∀ k, k < n → (Lit.int .i64 (P k)).wf = true := by
  rcases open_slice Try.underlying24 h with ⟨rfl, _⟩ | ⟨a, len, cap, m, n, D, Pl, rfl, hb, hl, hm, hmm, _, hx⟩
  · exact ⟨none, 0, 0, fun _ => 0, rfl, Nat.zero_le _, fun k hk => by omega, fun k hk => by omega⟩
  have hlm : len ≤ m := by rw [hmm]; split <;> omega
  have each : ∀ i, i < len → ∃ q : Int, w.cell? (a.add i) = some (.int .i64 q) ∧ (Lit.int .i64 q).wf = true := by
    intro i hi
    obtain ⟨cs', h1, h2⟩ := hx i (by omega)
    rw [Try.cellsInt] at h1
    obtain ⟨_, hlen, hcell⟩ := World.cells?_some h1
    match cs', hlen with
    | [v0], _ =>
      obtain ⟨q0, r0, _, f0⟩ := DataW.trod_int Try.underlying2 h2
      have e0 := hcell 0 (by omega)
      rw [add_add] at e0
      simp at r0
      subst r0
      exact ⟨q0, by simpa using e0, f0⟩
  obtain ⟨f, hf⟩ := choose_lt each
  refine ⟨some a, len, cap, f, rfl, by omega, fun k hk => ?_, fun k hk => (hf k hk).2⟩
  obtain ⟨b, o, spot⟩ := a
  have hspot : spot = none := by
    have := World.cell?_spot (hf 0 (by omega)).1
    simpa [Addr.add] using this
  subst hspot
  have := (hf k hk).1
  rw [Addr.add_mid] at this
  exact ⟨b, o, rfl, this⟩

end Go.Proofs.Ytdgnlpafmkhdjag

/-
  What the exact laws' own helpers do with lists of edges: copies, the size that is counted, two held against each other; what the reading of an argument says. For every list of at most 2^20 edges.
-/
set_option linter.unusedVariables false
set_option linter.unusedSimpArgs false
namespace Go.Proofs.Ytdgnlpafmkhdjag
open Go.ChangeShapes Go.WideShapes Go.ChangeAt Go.RowKit Go.Deep Go.Joins

theorem made_edges (w : World) (n : Nat) (f : Nat → Int) : EHas (w.alloc (.cells (madeCells #[.int .i64 0, .int .i64 0] (n * 2)) 64)) w.heap.size n (upto f 0) := by
  refine EHas.of_row ⟨_, Go.Deep.blk_alloc_new _ _, size_madeCells _ _, fun i hi => ?_⟩
  have h3 : i % 2 = 0 ∨ i % 2 = 1 := by omega
  simp [madeCells, hi, upto]
  rcases h3 with h | h <;> simp [h]

theorem make_edges (n : Nat) (hn : n ≤ 1048576) (w : World) :
    (Instr.makeSlice 26 (.int .i64 (n : Int)) (.int .i64 (n : Int))).run Try.prog w = .ok (.slice (some ⟨w.heap.size, 0, none⟩) n n) (w.alloc (.cells (madeCells #[.int .i64 0, .int .i64 0] (n * 2)) 64)) := by
  obtain ⟨i, hi, hz0, hz1, hz2⟩ := info_parts Try.infoEdge
  have hr := run_make (P := Try.prog) w 26 64 i _ Try.underlying26 hi hz0 .i64 .i64 n n (by omega) (Int.le_refl _) (by rw [hz2]; omega) (by omega)
  simpa [hz1, Value.cells] using hr

theorem toEdge_any (f t : Int) (w : World) :
    Calls Try.prog 42 #[.agg #[.int .i64 f, .int .i64 t]] w fun e w' => e = .returned (.agg #[.int .i64 f, .int .i64 t]) ∧ Below w.heap.size w w' := by
  go_enter Try.func42, Try.ntmps42
  go_wp2
  simp [bodyPost, results, Try.results42, go_sem]
  exact (((Below.refl _ _).alloc (Nat.le_refl _) _).alloc (by simp) _).alloc (by simp; omega) _

theorem upto_two {L H : Nat → Int} {k j : Nat} : (if j = k * 2 + 1 then H k else if j = k * 2 then L k else upto (er L H) (k * 2) j) = upto (er L H) ((k + 1) * 2) j := by
  by_cases e1 : j = k * 2 + 1
  · subst e1; rw [if_pos rfl]; unfold upto; rw [if_pos (by omega), er1]
  by_cases e0 : j = k * 2
  · subst e0; rw [if_neg (by omega), if_pos rfl]; unfold upto; rw [if_pos (by omega), er0]
  rw [if_neg e1, if_neg e0]; unfold upto
  by_cases hl : j < k * 2
  · rw [if_pos hl, if_pos (by omega)]
  · rw [if_neg hl, if_neg (by omega)]

set_option maxHeartbeats 400000 in
theorem toEdgeS_any (ao : Option Addr) (n cap : Nat) (L H : Nat → Int) (hn : n ≤ 1048576) (w : World) (hr : ERow w ao n L H) :
    Calls Try.prog 11 #[.slice ao n cap] w fun e w' => e = .returned (.slice (some ⟨w.heap.size, 0, none⟩) n n) ∧ EHas w' w.heap.size n (er L H) ∧ Below w.heap.size w w' := by
  have hmk := make_edges n hn
  go_enter Try.func11, Try.ntmps11
  go_wp2
  clear hmk
  go_loopw [4] (fun i wr => ∃ k : Nat, k ≤ n ∧ i = .int .i64 k ∧ EHas wr w.heap.size n (upto (er L H) (k * 2)) ∧ Below w.heap.size w wr) (fun i _ => n - (intOf i).toNat)
  case atStart => exact ⟨0, Nat.zero_le _, rfl, made_edges w n _, (Below.refl _ _).alloc (Nat.le_refl _) _⟩
  case round =>
    obtain ⟨k, hk, rfl, hown, hbel⟩ := hrel
    by_cases hlt : k < n
    · obtain ⟨b, o, hao, c0, c1⟩ := (hr.below hbel (Nat.le_refl _)) k hlt
      subst hao
      go_wp2_with (go_at_call 42; refine (toEdge_any (L k) (H k) _).mono ?_; rintro e w1 ⟨rfl, hb1⟩; have d0 := EHas.cell (hown.next hb1) (j := k * 2) (by omega); have d1 := EHas.cell (hown.next hb1) (j := k * 2 + 1) (by omega); have z0 := EHas.frozen (hown.next hb1) (k * 2); have z1 := EHas.frozen (hown.next hb1) (k * 2 + 1))
      have R := (((hown.next hb1).set (k * 2) (L k)).set (k * 2 + 1) (H k)).congr (fun j _ => upto_two)
      have S := hbel.trans (hb1.mono hbel.size)
      clear d0 d1 z0 z1 hown hb1 hbel
      go_roundw
      case rel => exact ⟨k + 1, by omega, by go_num, R, (S.setCell (Nat.le_refl _) _).setCell (Nat.le_refl _) _⟩
      case measure => simp [intOf]; omega
    · have hkn : k = n := by omega
      subst hkn
      go_wp2
      go_ret
      exact ⟨rfl, hown.congr (fun j hj => by simp [upto, hj]), hbel⟩

theorem szEdgeS_in (ao : Option Addr) (n cap : Nat) (l : Int) (h0 : (n : Int) ≤ l) (hl : l ≤ 1048576) (w : World) :
    Calls Try.prog 9 #[.slice ao n cap, .int .i64 l] w fun e w' => e = .returned (.int .i64 (l - n)) ∧ w' = w := by
  go_enter Try.func9, Try.ntmps9
  go_wp2
  go_ret
  exact ⟨rfl, rfl⟩
theorem szEdgeS_out (ao : Option Addr) (n cap : Nat) (l : Int) (h0 : l < (n : Int)) (h1 : 0 ≤ l) (hl : l ≤ 1048576) (hn : n ≤ 9223372036854775807) (w : World) :
    Calls Try.prog 9 #[.slice ao n cap, .int .i64 l] w fun e w' => e = .returned (.int .i64 (-1)) ∧ w' = w := by
  go_enter Try.func9, Try.ntmps9
  go_wp2
  go_ret
  exact ⟨rfl, rfl⟩

theorem Try.cellsLEdge : Try.prog.cellsOf 66 = 2 := by kernel_rfl
set_option maxRecDepth 100000 in
theorem open_edges {H : Type} {enc : TypeId × Value → H} {w : World} {base : Nat} {spare : Nat → Bool} {held : Bool} {fuel : Nat} {cs : List Value} {x : DataW H × List MemPlace}
    (h : DataW.trod enc Try.prog w base spare held fuel 22 cs = some x) :
    ∃ (ao : Option Addr) (n cap : Nat) (F T : Nat → Int), cs = [.slice ao n cap] ∧ n ≤ maxLen ∧ ERow w ao n F T ∧ (∀ k, k < n → (Lit.int .i64 (F k)).wf = true) ∧ ∀ k, k < n → (Lit.int .i64 (T k)).wf = true := by
  rcases open_slice Try.underlying22 h with ⟨rfl, _⟩ | ⟨a, len, cap, m, n, D, Pl, rfl, hb, hl, hm, hmm, _, hx⟩
  · exact ⟨none, 0, 0, fun _ => 0, fun _ => 0, rfl, Nat.zero_le _, fun k hk => by omega, fun k hk => by omega, fun k hk => by omega⟩
  have hlm : len ≤ m := by rw [hmm]; split <;> omega
  have each : ∀ i, i < len → ∃ q : Int × Int, w.cell? (a.add (i * 2)) = some (.int .i64 q.1) ∧ w.cell? (a.add (i * 2 + 1)) = some (.int .i64 q.2) ∧ (Lit.int .i64 q.1).wf = true ∧ (Lit.int .i64 q.2).wf = true := by
    intro i hi
    obtain ⟨cs', h1, h2⟩ := hx i (by omega)
    rw [Try.cellsLEdge] at h1
    obtain ⟨_, hlen, hcell⟩ := World.cells?_some h1
    obtain ⟨y0, y1, n', _, _, g0, g1⟩ := trod_struct2 Try.underlying66 h2
    match cs', hlen with
    | [v0, v1], _ =>
      simp [Try.cellsInt] at g0 g1
      obtain ⟨q0, r0, _, f0⟩ := DataW.trod_int Try.underlying2 g0
      obtain ⟨q1, r1, _, f1⟩ := DataW.trod_int Try.underlying2 g1
      have e0 := hcell 0 (by omega)
      have e1 := hcell 1 (by omega)
      rw [add_add] at e0 e1
      simp at r0 r1
      subst r0 r1
      exact ⟨(q0, q1), by simpa using e0, by simpa using e1, f0, f1⟩
  obtain ⟨f, hf⟩ := choose_lt each
  refine ⟨some a, len, cap, fun i => (f i).1, fun i => (f i).2, rfl, by omega, fun k hk => ?_, fun k hk => (hf k hk).2.2.1, fun k hk => (hf k hk).2.2.2⟩
  obtain ⟨b, o, spot⟩ := a
  have hspot : spot = none := by
    have := World.cell?_spot (hf 0 (by omega)).1
    simpa [Addr.add] using this
  subst hspot
  have := hf k hk
  rw [Addr.add_mid, Addr.add_mid] at this
  exact ⟨b, o, rfl, this.1, by simpa [Nat.add_assoc] using this.2.1⟩

end Go.Proofs.Ytdgnlpafmkhdjag

/-
  The laws' own comparison of two lists of edges. For every list of at most 2^20 edges.
-/
set_option linter.unusedVariables false
set_option linter.unusedSimpArgs false
namespace Go.Proofs.Ytdgnlpafmkhdjag
open Go.RowKit
attribute [local go_sem ↓] Go.wp_at_zero Go.wp_at_succ
theorem eqEdge_same (f t : Int) (w : World) :
    Calls Try.prog 44 #[.agg #[.int .i64 f, .int .i64 t], .agg #[.int .i64 f, .int .i64 t]] w fun e w' => e = .returned (.bool true) ∧ Below w.heap.size w w' := by
  go_enter Try.func44, Try.ntmps44
  go_wp2
  go_ret
  exact ⟨rfl, ((Below.refl _ _).alloc (Nat.le_refl _) _).alloc (by simp) _⟩

set_option maxHeartbeats 800000 in
theorem eqEdgeS_same (ao ao' : Option Addr) (n cap cap' : Nat) (L H : Nat → Int) (hn : n ≤ 1048576) (w : World) (hr : ERow w ao n L H) (hr' : ERow w ao' n L H) :
    Calls Try.prog 14 #[.slice ao n cap, .slice ao' n cap'] w fun e w' => e = .returned (.bool true) ∧ Below w.heap.size w w' := by
  go_enter Try.func14, Try.ntmps14
  go_wp2
  go_loopw [5] (fun i wr => ∃ k : Nat, k ≤ n ∧ i = .int .i64 k ∧ Below w.heap.size w wr) (fun i _ => n - (intOf i).toNat)
  case atStart => exact ⟨0, Nat.zero_le _, rfl, Below.refl _ _⟩
  case round =>
    obtain ⟨k, hk, rfl, hbel⟩ := hrel
    by_cases hlt : k < n
    rotate_left
    · have hkn : k = n := by omega
      subst hkn
      go_wp2
      go_ret
      exact ⟨rfl, hbel⟩
    obtain ⟨b, o, hao, c0, c1⟩ := (hr.below hbel (Nat.le_refl _)) k hlt
    obtain ⟨b', o', hao', d0, d1⟩ := (hr'.below hbel (Nat.le_refl _)) k hlt
    subst hao
    subst hao'
    have hk1 : (0 : Int) ≤ (k : Int) := by omega
    have hk2 : (k : Int) < (n : Int) := by omega
    go_wp2
    go_region_held3 (fun w' => w'.cell? ⟨b, o + k * 2, none⟩ = some (.int .i64 (L k)) ∧ w'.cell? ⟨b, o + k * 2 + 1, none⟩ = some (.int .i64 (H k)) ∧ w'.cell? ⟨b', o' + k * 2, none⟩ = some (.int .i64 (L k)) ∧ w'.cell? ⟨b', o' + k * 2 + 1, none⟩ = some (.int .i64 (H k)))
        (first | (go_split_ands; refine ⟨?_, ?_, ?_, ?_⟩ <;> exact keep_cell ‹_› (Nat.le_refl _) (by assumption)) | go_keep)
        (first | (go_at_call 44; refine (eqEdge_same _ _ _).mono ?_; rintro e w2 ⟨rfl, hb2⟩))
    go_wp2
    go_roundw
    case rel => exact ⟨k + 1, by omega, by go_num, below_next hbel.drew (Nat.le_refl _) hb2⟩
    case measure => simp [intOf]; omega

end Go.Proofs.Ytdgnlpafmkhdjag

/-
  The exact laws' marks in edges of the law's own.
-/
set_option linter.unusedVariables false
set_option linter.unusedSimpArgs false
namespace Go.Proofs.Ytdgnlpafmkhdjag
open Go.RowKit

/-- The marks: cell j holds k + j. -/
def mke (k : Int) (j : Nat) : Int := k + j

set_option maxHeartbeats 1000000 in
theorem markEdgeS_any (b n cap : Nat) (f : Nat → Int) (k : Int) (hk0 : 0 ≤ k) (hk1 : k ≤ 4000000) (hn : n ≤ 1048576) (w : World) (h : 0 < n → EHas w b n f) (ao : Option Addr) (hao : 0 < n → ao = some ⟨b, 0, none⟩) :
    Calls Try.prog 15 #[.slice ao n cap, .int .i64 k] w fun e w' => e = .returned (.int .i64 (k + 2 * n)) ∧ (0 < n → EHas w' b n (mke k)) ∧ w.grownBy w' (some b) := by
  go_enter Try.func15, Try.ntmps15
  go_wp2
  go_loopw [1, 5] (fun q i wr => ∃ m : Nat, m ≤ n ∧ i = .int .i64 m ∧ q = .int .i64 (k + 2 * m) ∧ (0 < n → EHas wr b n (fun j => if j < 2 * m then mke k j else f j)) ∧ w.grownBy wr (some b)) (fun _ i _ => n - (intOf i).toNat)
  case atStart => exact ⟨0, Nat.zero_le _, rfl, by simp, fun hp => (h hp).congr (fun j _ => by simp), World.grownBy.refl _ _⟩
  case round =>
    obtain ⟨m, hm, rfl, rfl, hh, hg⟩ := hrel
    by_cases hlt : m < n
    rotate_left
    · have e : m = n := by omega
      subst e
      go_wp2
      go_ret
      exact ⟨rfl, fun hp => (hh hp).congr (fun j hj => by rw [if_pos (by omega)]), hg⟩
    obtain rfl := hao (by omega)
    have HH := hh (by omega)
    have d0 := HH.cell (j := m * 2) (by omega)
    have d1 := HH.cell (j := m * 2 + 1) (by omega)
    have z0 := HH.frozen (m * 2)
    have z1 := HH.frozen (m * 2 + 1)
    have R := (HH.set (m * 2) (k + 2 * m)).set (m * 2 + 1) (k + 2 * m + 1)
    have S := (hg.trans (gr_setCell _ b (m * 2) (.int .i64 (k + 2 * m)))).trans (gr_setCell _ b (m * 2 + 1) (.int .i64 (k + 2 * m + 1)))
    clear HH hh
    go_wp2
    go_roundw
    case rel =>
      refine ⟨m + 1, by omega, by go_num, by go_num, fun _ => R.congr (fun j hj => ?_), S⟩
      by_cases e1 : j = m * 2 + 1
      · subst e1; simp [mke]; omega
      by_cases e0 : j = m * 2
      · subst e0; simp [mke]; omega
      simp only [if_neg e1, if_neg e0]
      by_cases hl : j < 2 * m
      · rw [if_pos hl, if_pos (by omega)]
      · rw [if_neg hl, if_neg (by omega)]
    case measure => simp [intOf]; omega

end Go.Proofs.Ytdgnlpafmkhdjag
