/-
  Helpers: Rank, Mesh, Nbrs, Vis, TakeP, FillP, Edge.
-/
import Derived.Test.YthmpliljffmmcaaGreatDoorPack1
import Derived.Sort.QuietIn
set_option linter.unusedVariables false
set_option linter.unusedSimpArgs false
namespace Go.Proofs.YthmpliljffmmcaaGreatDoor
section
def sn (P : Nat → Int) : Nat → Nat → Bool
  | 0, _ => false
  | k + 1, q => (P k == (q : Int)) || sn P k q
theorem sn_succ (P : Nat → Int) (k q : Nat) : sn P (k + 1) q = ((P k == (q : Int)) || sn P k q) := rfl
def rk (P : Nat → Int) (z : Int) : Nat → Nat → Int
  | 0, _ => z
  | k + 1, q => if P k = (q : Int) then (k : Int) else rk P z k q
def eachB (m : Nat) (P : Nat → Int) : Nat → Bool
  | 0 => true
  | k + 1 => eachB m P k && (inB (P k) 0 ((m : Int) - 1) && !sn P k (P k).toNat)
theorem rk_sn (P : Nat → Int) : ∀ k q, (sn P k q = true ↔ 0 ≤ rk P (-1) k q)
  | 0, q => by simp [sn, rk]
  | k + 1, q => by
    unfold sn rk
    have := rk_sn P k q
    by_cases h : P k = (q : Int)
    · simp [h]
    · simp [h, this]
theorem eachB_le {m : Nat} {P : Nat → Int} : ∀ n, eachB m P n = true → ∀ k, k ≤ n → eachB m P k = true
  | 0, h, k, hk => by
    have : k = 0 := by omega
    subst this; rfl
  | n + 1, h, k, hk => by
    by_cases e : k = n + 1
    · subst e; exact h
    · simp [eachB] at h
      exact eachB_le n h.1 k (by omega)
theorem eachB_no {m : Nat} {P : Nat → Int} {k n : Nat} (h : eachB m P (k + 1) = false) (hk : k < n) : eachB m P n = false := by
  cases hn : eachB m P n
  · rfl
  · rw [eachB_le n hn (k + 1) (by omega)] at h; cases h
theorem sn_at {P : Nat → Int} {k q : Nat} (h : P k = (q : Int)) (j : Nat) : sn P (k + 1) j = if j = q then true else sn P k j := by
  rw [sn_succ, h]
  by_cases e : j = q
  · simp [e]
  · have h1 : ((q : Int) == (j : Int)) = false := by rw [Bool.eq_false_iff]; simp; omega
    rw [h1, if_neg e]; rfl
theorem rk_at {P : Nat → Int} {z : Int} {k q : Nat} (h : P k = (q : Int)) (j : Nat) : rk P z (k + 1) j = if j = q then (k : Int) else rk P z k j := by
  show (if P k = (j : Int) then (k : Int) else rk P z k j) = _
  by_cases e : j = q
  · rw [if_pos e, if_pos (by omega)]
  · rw [if_neg e, if_neg (by omega)]
theorem eachB_at {m : Nat} {P : Nat → Int} {k q : Nat} (he : eachB m P k = true) (h : P k = (q : Int)) (hi : inB (P k) 0 ((m : Int) - 1) = true) : eachB m P (k + 1) = !sn P k q := by
  show (eachB m P k && (inB (P k) 0 ((m : Int) - 1) && !sn P k (P k).toNat)) = _
  rw [he, hi, h]
  simp
def cntB (f : Nat → Bool) : Nat → Nat
  | 0 => 0
  | n + 1 => cntB f n + (if f n then 1 else 0)
theorem cntB_le (f : Nat → Bool) : ∀ n, cntB f n ≤ n
  | 0 => Nat.le_refl _
  | n + 1 => by unfold cntB; have := cntB_le f n; split <;> omega
theorem cntB_congr {f g : Nat → Bool} : ∀ n, (∀ q, q < n → f q = g q) → cntB f n = cntB g n
  | 0, _ => rfl
  | n + 1, h => by unfold cntB; rw [cntB_congr n (fun q hq => h q (by omega)), h n (by omega)]
theorem cntB_full {f : Nat → Bool} : ∀ n, cntB f n = n → ∀ q, q < n → f q = true
  | 0, _, q, hq => by omega
  | n + 1, h, q, hq => by
    unfold cntB at h
    have hl := cntB_le f n
    cases hf : f n
    · rw [hf] at h; simp at h; omega
    · rw [hf] at h
      simp at h
      by_cases e : q = n
      · subst e; exact hf
      · exact cntB_full n (by omega) q (by omega)
theorem cntB_set {f g : Nat → Bool} {i : Nat} : ∀ n, i < n → f i = false → (∀ q, q < n → g q = (q == i || f q)) → cntB g n = cntB f n + 1
  | 0, hi, _, _ => by omega
  | n + 1, hi, h0, hg => by
    unfold cntB
    rw [hg n (by omega)]
    by_cases e : i = n
    · subst e
      have e2 : cntB g i = cntB f i := cntB_congr i (fun q hq => by
        rw [hg q (by omega)]
        have : q ≠ i := by omega
        simp [this])
      rw [e2, h0]
      simp
    · have : n ≠ i := fun h => e h.symm
      rw [cntB_set n (by omega) h0 (fun q hq => hg q (by omega))]
      simp [this]; omega
theorem cntB_less {f : Nat → Bool} {i n : Nat} (hi : i < n) (h : f i = false) : cntB f n < n := by
  have h1 := cntB_le f n
  by_cases e : cntB f n = n
  · have := cntB_full n e i hi
    rw [h] at this; cases this
  · omega
theorem cnt_sn {m : Nat} {P : Nat → Int} : ∀ k, eachB m P k = true → cntB (sn P k) m = k
  | 0, _ => by
    have : ∀ n, cntB (sn P 0) n = 0 := fun n => by
      induction n with
      | zero => rfl
      | succ n ih => unfold cntB; rw [ih]; simp [sn]
    exact this m
  | k + 1, h => by
    simp [eachB, inB] at h
    obtain ⟨h1, ⟨h2, h3⟩, h4⟩ := h
    have := cnt_sn k h1
    have e := cntB_set (f := sn P k) (g := sn P (k + 1)) (i := (P k).toNat) m (by omega) h4 (fun q hq => by
      rw [sn_succ]
      congr 1
      rw [Bool.eq_iff_iff, beq_iff_eq, beq_iff_eq]
      omega)
    omega
theorem each_all {n : Nat} {P : Nat → Int} (h : eachB n P n = true) : ∀ q, q < n → sn P n q = true := cntB_full n (cnt_sn n h)
def okR (n : Nat) (P : Nat → Int) : Bool := decide (1 ≤ n) && (decide (n ≤ 24) && eachB n P n)
def lenR (n : Nat) (P : Nat → Int) : Nat := if okR n P then n else 0
theorem lenR_le (n : Nat) (P : Nat → Int) : lenR n P ≤ 24 := by
  unfold lenR
  split
  · next h => simp [okR] at h; omega
  · omega
def upd (B : Nat → Nat → Bool) (x y : Nat) (v : Bool) : Nat → Nat → Bool := fun x' y' => if x' = x ∧ y' = y then v else B x' y'
def upd2 (B : Nat → Nat → Bool) (x y : Nat) (v : Bool) : Nat → Nat → Bool := upd (upd B x y v) y x v
theorem upd2_at (B : Nat → Nat → Bool) (x y : Nat) (v : Bool) (x' y' : Nat) : upd2 B x y v x' y' = if (x' = x ∧ y' = y) ∨ (x' = y ∧ y' = x) then v else B x' y' := by
  unfold upd2 upd
  by_cases h1 : x' = y ∧ y' = x
  · rw [if_pos h1, if_pos (Or.inr h1)]
  · rw [if_neg h1]
    by_cases h2 : x' = x ∧ y' = y
    · rw [if_pos h2, if_pos (Or.inl h2)]
    · rw [if_neg h2, if_neg (fun h => by rcases h with h | h; exact h2 h; exact h1 h)]
def nbA (F T : Nat → Int) : Nat → Nat → Nat → Bool
  | 0 => fun _ _ => false
  | k + 1 => upd2 (nbA F T k) (F k).toNat (T k).toNat true
def tk (B : Nat → Nat → Bool) (a : Nat) : Nat → Nat → Bool := fun x y => if x = a ∨ y = a then false else (B x y || (B a x && (B a y && x != y)))
def Fair (B : Nat → Nat → Bool) : Prop := (∀ x y, B x y = B y x) ∧ ∀ x, B x x = false
theorem fair_nbA {F T : Nat → Int} : ∀ n, (∀ k, k < n → (F k).toNat ≠ (T k).toNat) → Fair (nbA F T n)
  | 0, _ => ⟨fun _ _ => rfl, fun _ => rfl⟩
  | n + 1, h => by
    obtain ⟨h1, h2⟩ := fair_nbA n (fun k hk => h k (by omega))
    have hne := h n (by omega)
    refine ⟨fun x y => ?_, fun x => ?_⟩
    · show upd2 _ _ _ _ _ _ = upd2 _ _ _ _ _ _
      rw [upd2_at, upd2_at, h1 x y]
      by_cases e : (x = (F n).toNat ∧ y = (T n).toNat) ∨ (x = (T n).toNat ∧ y = (F n).toNat)
      · rw [if_pos e, if_pos (by omega)]
      · rw [if_neg e, if_neg (by omega)]
    · show upd2 _ _ _ _ _ _ = _
      rw [upd2_at, if_neg (by omega), h2]
theorem fair_tk {B : Nat → Nat → Bool} (h : Fair B) (a : Nat) : Fair (tk B a) := by
  refine ⟨fun x y => ?_, fun x => ?_⟩
  · unfold tk
    by_cases e : x = a ∨ y = a
    · rw [if_pos e, if_pos e.symm]
    · rw [if_neg e, if_neg (fun h => e h.symm), h.1 x y]
      have : (x != y) = (y != x) := by
        rw [Bool.eq_iff_iff, bne_iff_ne, bne_iff_ne]
        exact ⟨fun h e => h e.symm, fun h e => h e.symm⟩
      rw [this]
      cases B a x <;> cases B a y <;> simp
  · unfold tk
    split
    · rfl
    · rw [h.2]; simp
def pick (p : Nat) (B : Nat → Nat → Bool) (gone : Nat → Bool) : Nat → Nat × Nat
  | 0 => (0, p)
  | k + 1 => if gone k then pick p B gone k else if cntB (B k) p < (pick p B gone k).2 then (k, cntB (B k) p) else pick p B gone k
def noneB (gone : Nat → Bool) : Nat → Bool
  | 0 => true
  | k + 1 => noneB gone k && gone k
theorem noneB_all {gone : Nat → Bool} : ∀ k, noneB gone k = true → cntB gone k = k
  | 0, _ => rfl
  | k + 1, h => by
    simp [noneB] at h
    unfold cntB
    rw [noneB_all k h.1, h.2]; rfl
theorem pick_none {p : Nat} {B : Nat → Nat → Bool} {gone : Nat → Bool} : ∀ k, noneB gone k = true → pick p B gone k = (0, p)
  | 0, _ => rfl
  | k + 1, h => by
    simp [noneB] at h
    unfold pick
    rw [if_pos h.2, pick_none k h.1]
theorem pick_le {p : Nat} {B : Nat → Nat → Bool} {gone : Nat → Bool} : ∀ k, (pick p B gone k).2 ≤ p
  | 0 => Nat.le_refl _
  | k + 1 => by
    unfold pick
    have := pick_le (p := p) (B := B) (gone := gone) k
    split
    · exact this
    · split
      · exact cntB_le _ _
      · exact this
theorem pick_some {p : Nat} {B : Nat → Nat → Bool} {gone : Nat → Bool} (hB : Fair B) : ∀ k, k ≤ p → noneB gone k = false → (pick p B gone k).1 < k ∧ gone (pick p B gone k).1 = false ∧ (pick p B gone k).2 < p
  | 0, _, h => by simp [noneB] at h
  | k + 1, hk, h => by
    have hc : cntB (B k) p < p := cntB_less (i := k) (by omega) (hB.2 k)
    unfold pick
    cases hg : gone k
    · simp only [Bool.false_eq_true, if_false]
      split
      · exact ⟨by simp, hg, hc⟩
      · next hlt =>
        cases hn : noneB gone k
        · have := pick_some (p := p) hB k (Nat.le_of_succ_le hk) hn
          exact ⟨by omega, this.2⟩
        · rw [pick_none k hn] at hlt
          simp at hlt
          omega
    · simp only [if_true]
      have : noneB gone k = false := by
        cases hn : noneB gone k
        · rfl
        · simp [noneB, hn, hg] at h
      have := pick_some (p := p) hB k (Nat.le_of_succ_le hk) this
      exact ⟨by omega, this.2⟩
def goneU (gone : Nat → Bool) (a : Nat) : Nat → Bool := fun q => if q = a then true else gone q
def run3 (p : Nat) (B : Nat → Nat → Bool) : Nat → (Nat → Nat → Bool) × (Nat → Bool) × (Nat → Int)
  | 0 => (B, fun _ => false, fun _ => 0)
  | k + 1 =>
    let s := run3 p B k
    let a := (pick p s.1 s.2.1 p).1
    (tk s.1 a, goneU s.2.1 a, fun j => if j = k then (a : Int) else s.2.2 j)
theorem run3_fair {p : Nat} {B : Nat → Nat → Bool} (h : Fair B) : ∀ k, Fair (run3 p B k).1
  | 0 => h
  | k + 1 => fair_tk (run3_fair h k) _
theorem run3_gone {p : Nat} {B : Nat → Nat → Bool} (h : Fair B) : ∀ k, k ≤ p → cntB (run3 p B k).2.1 p = k ∧ (k < p → noneB (run3 p B k).2.1 p = false)
  | 0, hk => by
    have h0 : ∀ m, cntB (fun _ => false) m = 0 := fun m => by
      induction m with
      | zero => rfl
      | succ m ih => unfold cntB; rw [ih]; rfl
    refine ⟨h0 p, fun hp => ?_⟩
    cases hn : noneB (run3 p B 0).2.1 p
    · rfl
    · have := noneB_all p hn
      have := h0 p
      simp only [run3] at *
      omega
  | k + 1, hk => by
    obtain ⟨h1, h2⟩ := run3_gone (p := p) h k (Nat.le_of_succ_le hk)
    have h3 := pick_some (p := p) (run3_fair (p := p) h k) p nl (h2 (by omega))
    have e : cntB (run3 p B (k + 1)).2.1 p = k + 1 := by
      have := cntB_set (f := (run3 p B k).2.1) (g := (run3 p B (k + 1)).2.1) p h3.1 h3.2.1 (fun q hq => by
        show goneU _ _ q = _
        unfold goneU
        by_cases e : q = (pick p (run3 p B k).1 (run3 p B k).2.1 p).1
        · rw [if_pos e]; simp [e]
        · rw [if_neg e]; simp [e])
      omega
    refine ⟨e, fun hp => ?_⟩
    cases hn : noneB (run3 p B (k + 1)).2.1 p
    · rfl
    · have := noneB_all p hn
      omega
theorem run3_place {p : Nat} {B : Nat → Nat → Bool} (h : Fair B) {k : Nat} (hk : k < p) : (pick p (run3 p B k).1 (run3 p B k).2.1 p).1 < p :=
  (pick_some (run3_fair h k) p nl ((run3_gone h k (by omega)).2 hk)).1
def nf (f : Nat → Bool) : Nat → (Nat → Int)
  | 0 => fun _ => 0
  | k + 1 => if f k then (fun j => if j = cntB f k then (k : Int) else nf f k j) else nf f k
theorem cntB_mono (f : Nat → Bool) {a b : Nat} (h : a ≤ b) : cntB f a ≤ cntB f b := by
  induction b with
  | zero => have : a = 0 := by omega
            subst this; exact Nat.le_refl _
  | succ b ih =>
    by_cases e : a = b + 1
    · subst e; exact Nat.le_refl _
    · have h1 := ih (by omega)
      have h2 : cntB f b ≤ cntB f (b + 1) := by
        show cntB f b ≤ cntB f b + _
        omega
      omega
theorem cntB_succ {f : Nat → Bool} {k : Nat} (h : f k = true) : cntB f (k + 1) = cntB f k + 1 := by simp [cntB, h]
theorem cntB_same {f : Nat → Bool} {k : Nat} (h : f k = false) : cntB f (k + 1) = cntB f k := by simp [cntB, h]
theorem cntB_inj {f : Nat → Bool} {x y : Nat} (hx : f x = true) (hy : f y = true) (h : cntB f x = cntB f y) : x = y := by
  rcases Nat.lt_trichotomy x y with hl | e | hl
  · have h1 := cntB_mono f (show x + 1 ≤ y by omega)
    rw [cntB_succ hx] at h1; omega
  · exact e
  · have h1 := cntB_mono f (show y + 1 ≤ x by omega)
    rw [cntB_succ hy] at h1; omega
theorem nf_at {f : Nat → Bool} : ∀ p i, i < cntB f p → ∃ q : Nat, q < p ∧ nf f p i = (q : Int) ∧ f q = true ∧ cntB f q = i
  | 0, i, h => by simp [cntB] at h
  | p + 1, i, h => by
    unfold nf
    cases hf : f p
    · rw [cntB_same hf] at h
      obtain ⟨q, h1, h2, h3⟩ := nf_at p i h
      exact ⟨q, by omega, by simpa using h2, h3⟩
    · rw [cntB_succ hf] at h
      simp only [if_true]
      by_cases e : i = cntB f p
      · exact ⟨p, by omega, by rw [if_pos e], hf, e.symm⟩
      · obtain ⟨q, h1, h2, h3⟩ := nf_at (f := f) p i (by omega)
        exact ⟨q, by omega, by rw [if_neg e]; exact h2, h3⟩
def am (f : Nat → Bool) (i x : Nat) : Bool := f x && decide (cntB f x < i)
theorem am_zero (f : Nat → Bool) (x : Nat) : am f 0 x = false := by simp [am]
theorem am_succ {f : Nat → Bool} {i q : Nat} (hq : f q = true) (hc : cntB f q = i) (x : Nat) : am f (i + 1) x = (am f i x || x == q) := by
  unfold am
  by_cases e : x = q
  · subst e; simp [hq, hc]
  · cases hx : f x
    · have : (x == q) = false := by simpa using e
      simp [this]
    · have h1 : cntB f x ≠ i := fun h => e (cntB_inj hx hq (by omega))
      have h2 : (x == q) = false := by simpa using e
      rw [h2]
      simp; omega
theorem am_all {f : Nat → Bool} {p x : Nat} (hx : x < p) : am f (cntB f p) x = f x := by
  unfold am
  cases h : f x
  · rfl
  · have := cntB_mono f (show x + 1 ≤ p by omega)
    rw [cntB_succ h] at this
    simp; omega
def mid (B : Nat → Nat → Bool) (a i q k : Nat) : Nat → Nat → Bool := fun x y =>
  if x = a then B a y && !am (B a) i y else if y = a then B a x && !am (B a) i x
  else B x y || ((am (B a) i x && (B a y && x != y)) || (x == q && (am (B a) k y && x != y)))
theorem mid_start {B : Nat → Nat → Bool} (hB : Fair B) (a q x y : Nat) : mid B a 0 q 0 x y = B x y := by
  unfold mid
  simp only [am_zero]
  split
  · next h => subst h; simp
  · split
    · next h => subst h; simp [hB.1 x y]
    · simp
theorem mid_skip {B : Nat → Nat → Bool} {a i q q' x y : Nat} : mid B a i q 0 x y = mid B a i q' 0 x y := by
  unfold mid
  simp only [am_zero]
  simp
theorem mid_join {B : Nat → Nat → Bool} (hB : Fair B) {a i q k q' : Nat} (hq : B a q = true) (hq' : B a q' = true) (hc : cntB (B a) q' = k) (hne : q ≠ q') (x y : Nat) : upd (mid B a i q k) q q' true x y = mid B a i q (k + 1) x y := by
  have ha : q ≠ a := fun e => by rw [e, hB.2] at hq; cases hq
  have ha' : q' ≠ a := fun e => by rw [e, hB.2] at hq'; cases hq'
  unfold upd
  by_cases e : x = q ∧ y = q'
  · obtain ⟨rfl, rfl⟩ := e
    rw [if_pos ⟨rfl, rfl⟩]
    unfold mid
    rw [if_neg ha, if_neg ha', am_succ hq' hc]
    have : (x != y) = true := by simpa using hne
    simp [this]
  · rw [if_neg e]
    unfold mid
    by_cases h1 : x = a
    · rw [if_pos h1, if_pos h1]
    · rw [if_neg h1, if_neg h1]
      by_cases h2 : y = a
      · rw [if_pos h2, if_pos h2]
      · rw [if_neg h2, if_neg h2, am_succ hq' hc]
        by_cases h3 : x = q
        · have h4 : (y == q') = false := by
            have : y ≠ q' := fun h => e ⟨h3, h⟩
            simpa using this
          rw [h4]; simp
        · have h4 : (x == q) = false := by simpa using h3
          rw [h4]; simp
theorem mid_pass {B : Nat → Nat → Bool} {a i q k : Nat} (hq : B a q = true) (hc : cntB (B a) q = k) (x y : Nat) : mid B a i q k x y = mid B a i q (k + 1) x y := by
  unfold mid
  rw [am_succ hq hc]
  by_cases h1 : x = a
  · rw [if_pos h1, if_pos h1]
  · rw [if_neg h1, if_neg h1]
    by_cases h2 : y = a
    · rw [if_pos h2, if_pos h2]
    · rw [if_neg h2, if_neg h2]
      by_cases h3 : x = q
      · by_cases h4 : y = q
        · subst h3 h4; simp
        · have : (y == q) = false := by simpa using h4
          rw [this]; simp
      · have h4 : (x == q) = false := by simpa using h3
        rw [h4]; simp
theorem mid_done {B : Nat → Nat → Bool} (hB : Fair B) {a i q p : Nat} (hq : B a q = true) (hc : cntB (B a) q = i) {x y : Nat} (hx : x < p) (hy : y < p) : upd (upd (mid B a i q (cntB (B a) p)) a q false) q a false x y = mid B a (i + 1) 0 0 x y := by
  have ha : q ≠ a := fun e => by rw [e, hB.2] at hq; cases hq
  have ha' : ¬ a = q := fun e => ha e.symm
  unfold upd
  by_cases e1 : x = q ∧ y = a
  · obtain ⟨rfl, rfl⟩ := e1
    rw [if_pos ⟨rfl, rfl⟩]
    unfold mid
    rw [if_neg ha, if_pos rfl, am_succ hq hc]; simp
  · rw [if_neg e1]
    by_cases e2 : x = a ∧ y = q
    · obtain ⟨rfl, rfl⟩ := e2
      rw [if_pos ⟨rfl, rfl⟩]
      unfold mid
      rw [if_pos rfl, am_succ hq hc]; simp
    · rw [if_neg e2]
      unfold mid
      rw [am_succ hq hc, am_succ hq hc, am_all hy]
      by_cases h1 : x = a
      · rw [if_pos h1, if_pos h1]
        have : (y == q) = false := by
          have : y ≠ q := fun h => e2 ⟨h1, h⟩
          simpa using this
        rw [this]; simp
      · rw [if_neg h1, if_neg h1]
        by_cases h2 : y = a
        · rw [if_pos h2, if_pos h2]
          have : (x == q) = false := by
            have : x ≠ q := fun h => e1 ⟨h, h2⟩
            simpa using this
          rw [this]; simp
        · rw [if_neg h2, if_neg h2, am_zero]
          cases am (B a) i x <;> cases (x == q) <;> simp
theorem mid_end {B : Nat → Nat → Bool} (hB : Fair B) {a p q x y : Nat} (hx : x < p) (hy : y < p) : mid B a (cntB (B a) p) q 0 x y = tk B a x y := by
  unfold mid tk
  rw [am_all hx, am_all hy, am_zero]
  by_cases h1 : x = a
  · rw [if_pos h1, if_pos (Or.inl h1)]; simp
  · rw [if_neg h1]
    by_cases h2 : y = a
    · rw [if_pos h2, if_pos (Or.inr h2)]; simp
    · rw [if_neg h2, if_neg (fun h => by rcases h with h | h; exact h1 h; exact h2 h)]; simp
def vis (bits : List Nat → Nat → Bool) : Nat → List Nat
  | 0 => []
  | k + 1 => if bits (vis bits k) k then vis bits k ++ [k] else vis bits k
def visF (f : Nat → Bool) (k : Nat) : List Nat := vis (fun _ => f) k
theorem visF_len (f : Nat → Bool) : ∀ k, (visF f k).length = cntB f k
  | 0 => rfl
  | k + 1 => by
    show (if f k then visF f k ++ [k] else visF f k).length = cntB f k + _
    have := visF_len f k
    split <;> simp_all
theorem visF_mem (f : Nat → Bool) : ∀ k x, x ∈ visF f k ↔ x < k ∧ f x = true
  | 0, x => by simp [visF, vis]
  | k + 1, x => by
    show x ∈ (if f k then visF f k ++ [k] else visF f k) ↔ _
    have := visF_mem f k x
    by_cases h : f k = true
    · rw [if_pos h, List.mem_append, this, List.mem_singleton]
      constructor
      · rintro (⟨h1, h2⟩ | rfl)
        · exact ⟨by omega, h2⟩
        · exact ⟨by omega, h⟩
      · rintro ⟨h1, h2⟩
        by_cases e : x = k
        · exact .inr e
        · exact .inl ⟨by omega, h2⟩
    · rw [if_neg h, this]
      constructor
      · rintro ⟨h1, h2⟩
        exact ⟨by omega, h2⟩
      · rintro ⟨h1, h2⟩
        refine ⟨?_, h2⟩
        by_cases e : x = k
        · subst e; exact absurd h2 h
        · omega
def Within (p : Nat) (B : Nat → Nat → Bool) : Prop := ∀ x y, B x y = true → x < p ∧ y < p
theorem within_nbA {F T : Nat → Int} {p : Nat} : ∀ n, (∀ k, k < n → (F k).toNat < p ∧ (T k).toNat < p) → Within p (nbA F T n)
  | 0, _, x, y, h => by simp [nbA] at h
  | n + 1, hk, x, y, h => by
    have h' : upd2 (nbA F T n) (F n).toNat (T n).toNat true x y = true := h
    rw [upd2_at] at h'
    have := hk n (by omega)
    by_cases e : (x = (F n).toNat ∧ y = (T n).toNat) ∨ (x = (T n).toNat ∧ y = (F n).toNat)
    · omega
    · rw [if_neg e] at h'
      exact within_nbA n (fun k hk' => hk k (by omega)) x y h'
theorem within_tk {p : Nat} {B : Nat → Nat → Bool} (h : Within p B) (a : Nat) : Within p (tk B a) := fun x y hx => by
  unfold tk at hx
  split at hx
  · cases hx
  · simp at hx
    rcases hx with hx | ⟨h1, h2, _⟩
    · exact h x y hx
    · exact ⟨(h a x h1).2, (h a y h2).2⟩
theorem within_run3 {p : Nat} {B : Nat → Nat → Bool} (h : Within p B) : ∀ k, Within p (run3 p B k).1
  | 0 => h
  | k + 1 => within_tk (within_run3 h k) _
def stI (B : Nat → Nat → Bool) (a : Nat) (pre : List Nat) : Nat → Nat → Bool := fun x y =>
  if x = a then B a y && !pre.contains y else if y = a then B a x && !pre.contains x
  else B x y || (x != y && (B a x && (B a y && (pre.contains x || pre.contains y))))
def stJ (B : Nat → Nat → Bool) (a : Nat) (pre : List Nat) (q : Nat) (pre' : List Nat) : Nat → Nat → Bool := fun x y =>
  if x = a then B a y && !(pre ++ [q]).contains y else if y = a then B a x && !(pre ++ [q]).contains x
  else B x y || ((x != y && (B a x && (B a y && (pre.contains x || pre.contains y)))) || ((x == q && pre'.contains y) || (y == q && pre'.contains x)))
theorem contains_snoc (l : List Nat) (q x : Nat) : (l ++ [q]).contains x = (l.contains x || x == q) := by
  rw [Bool.eq_iff_iff]
  simp
theorem stI_row (B : Nat → Nat → Bool) (a : Nat) (pre : List Nat) : stI B a pre a = fun j => B a j && !pre.contains j := by
  funext j; unfold stI; rw [if_pos rfl]
theorem stJ_row (B : Nat → Nat → Bool) (a : Nat) (pre : List Nat) (q : Nat) (pre' : List Nat) : stJ B a pre q pre' a = fun j => B a j && !(pre ++ [q]).contains j := by
  funext j; unfold stJ; rw [if_pos rfl]
theorem stI_start {B : Nat → Nat → Bool} (hB : Fair B) (a x y : Nat) : stI B a [] x y = B x y := by
  unfold stI
  by_cases h1 : x = a
  · subst h1; simp
  · rw [if_neg h1]
    by_cases h2 : y = a
    · subst h2; simp [hB.1 x y]
    · rw [if_neg h2]; simp
theorem stI_part (B : Nat → Nat → Bool) {a q : Nat} (pre : List Nat) (hq : q ≠ a) (x y : Nat) : upd2 (stI B a pre) a q false x y = stJ B a pre q [] x y := by
  rw [upd2_at]
  unfold stI stJ
  rw [contains_snoc, contains_snoc]
  by_cases h1 : x = a
  · rw [if_pos h1, if_pos h1]
    by_cases h2 : y = q
    · subst h2; rw [if_pos (Or.inl ⟨h1, rfl⟩)]; simp
    · rw [if_neg (by omega)]
      have : (y == q) = false := by simpa using h2
      rw [this]; simp
  · rw [if_neg h1, if_neg h1]
    by_cases h2 : y = a
    · rw [if_pos h2, if_pos h2]
      by_cases h3 : x = q
      · subst h3; rw [if_pos (Or.inr ⟨rfl, h2⟩)]; simp
      · rw [if_neg (by omega)]
        have : (x == q) = false := by simpa using h3
        rw [this]; simp
    · rw [if_neg (by omega), if_neg h2, if_neg h2]; simp
theorem stJ_join (B : Nat → Nat → Bool) {a q b : Nat} (pre pre' : List Nat) (hq : q ≠ a) (hb : b ≠ a) (x y : Nat) : upd2 (stJ B a pre q pre') q b true x y = stJ B a pre q (pre' ++ [b]) x y := by
  rw [upd2_at]
  by_cases e : (x = q ∧ y = b) ∨ (x = b ∧ y = q)
  · rw [if_pos e]
    unfold stJ
    rw [if_neg (by omega), if_neg (by omega), contains_snoc, contains_snoc]
    rcases e with ⟨rfl, rfl⟩ | ⟨rfl, rfl⟩ <;> simp
  · rw [if_neg e]
    unfold stJ
    rw [contains_snoc pre', contains_snoc pre']
    by_cases h1 : x = a
    · rw [if_pos h1, if_pos h1]
    · rw [if_neg h1, if_neg h1]
      by_cases h2 : y = a
      · rw [if_pos h2, if_pos h2]
      · rw [if_neg h2, if_neg h2]
        have e1 : (x == q && (pre'.contains y || y == b)) = (x == q && pre'.contains y) := by
          by_cases hx : x = q
          · have hy : y ≠ b := fun h => e (Or.inl ⟨hx, h⟩)
            have : (y == b) = false := by simpa using hy
            rw [this]; simp
          · have : (x == q) = false := by simpa using hx
            rw [this]; simp
        have e2 : (y == q && (pre'.contains x || x == b)) = (y == q && pre'.contains x) := by
          by_cases hy : y = q
          · have hx : x ≠ b := fun h => e (Or.inr ⟨h, hy⟩)
            have : (x == b) = false := by simpa using hx
            rw [this]; simp
          · have : (y == q) = false := by simpa using hy
            rw [this]; simp
        rw [e1, e2]
theorem visF_contains (f : Nat → Bool) (p x : Nat) : (visF f p).contains x = (decide (x < p) && f x) := by
  rw [Bool.eq_iff_iff]
  simp [visF_mem]
theorem stJ_end {B : Nat → Nat → Bool} {p a q : Nat} {pre : List Nat} (hW : Within p B) (hq : B a q = true) (x y : Nat) : stJ B a pre q (visF (fun j => B a j && !(pre ++ [q]).contains j) p) x y = stI B a (pre ++ [q]) x y := by
  unfold stI stJ
  rw [visF_contains, visF_contains, contains_snoc, contains_snoc]
  by_cases h1 : x = a
  · rw [if_pos h1, if_pos h1]
  · rw [if_neg h1, if_neg h1]
    by_cases h2 : y = a
    · rw [if_pos h2, if_pos h2]
    · rw [if_neg h2, if_neg h2]
      have wx : B a x = true → decide (x < p) = true := fun h => by simpa using (hW a x h).2
      have wy : B a y = true → decide (y < p) = true := fun h => by simpa using (hW a y h).2
      congr 1
      by_cases hx : x = q
      · by_cases hy : y = q
        · subst hx hy; simp
        · have e1 : (x == q) = true := by simpa using hx
          have e2 : (y == q) = false := by simpa using hy
          have e3 : (x != y) = true := by simp; omega
          have e4 : B a x = true := by rw [hx]; exact hq
          rw [e1, e2, e3, e4]
          cases hby : B a y
          · simp
          · rw [wy hby]
            cases pre.contains y <;> simp
      · by_cases hy : y = q
        · have e1 : (x == q) = false := by simpa using hx
          have e2 : (y == q) = true := by simpa using hy
          have e3 : (x != y) = true := by simp; omega
          have e4 : B a y = true := by rw [hy]; exact hq
          rw [e1, e2, e3, e4]
          cases hbx : B a x
          · simp
          · rw [wx hbx]
            cases pre.contains x <;> simp
        · have e1 : (x == q) = false := by simpa using hx
          have e2 : (y == q) = false := by simpa using hy
          rw [e1, e2]; simp
theorem stI_end {B : Nat → Nat → Bool} {p a : Nat} (hW : Within p B) (x y : Nat) : stI B a (visF (B a) p) x y = tk B a x y := by
  unfold stI tk
  rw [visF_contains, visF_contains]
  have wx : (decide (x < p) && B a x) = B a x := by
    cases h : B a x
    · simp
    · have := (hW a x h).2
      simp [this]
  have wy : (decide (y < p) && B a y) = B a y := by
    cases h : B a y
    · simp
    · have := (hW a y h).2
      simp [this]
  rw [wx, wy]
  by_cases h1 : x = a
  · rw [if_pos h1, if_pos (Or.inl h1)]; simp
  · rw [if_neg h1]
    by_cases h2 : y = a
    · rw [if_pos h2, if_pos (Or.inr h2)]; simp
    · rw [if_neg h2, if_neg (fun h => by rcases h with h | h; exact h1 h; exact h2 h)]
      congr 1
      cases B a x <;> cases B a y <;> simp
theorem vis_struck (f : Nat → Bool) : ∀ k, vis (fun pre j => f j && !pre.contains j) k = visF f k
  | 0 => rfl
  | k + 1 => by
    have ih := vis_struck f k
    have hb : (f k && !(visF f k).contains k) = f k := by
      rw [visF_contains]; simp
    show (if f k && !(vis (fun pre j => f j && !pre.contains j) k).contains k then vis (fun pre j => f j && !pre.contains j) k ++ [k] else vis (fun pre j => f j && !pre.contains j) k) = (if f k then visF f k ++ [k] else visF f k)
    rw [ih, hb]
theorem sn_mem {P : Nat → Int} : ∀ k q, sn P k q = true ↔ ∃ j, j < k ∧ P j = (q : Int)
  | 0, q => by simp [sn]
  | k + 1, q => by
    rw [sn_succ, Bool.or_eq_true, sn_mem k q, beq_iff_eq]
    constructor
    · rintro (h | ⟨j, h1, h2⟩)
      · exact ⟨k, by omega, h⟩
      · exact ⟨j, by omega, h2⟩
    · rintro ⟨j, h1, h2⟩
      by_cases e : j = k
      · subst e; exact Or.inl h2
      · exact Or.inr ⟨j, by omega, h2⟩
theorem each_in {m : Nat} {P : Nat → Int} : ∀ n, eachB m P n = true → ∀ k, k < n → (0 ≤ P k ∧ P k < (m : Int)) ∧ sn P k (P k).toNat = false
  | 0, _, k, hk => by omega
  | n + 1, h, k, hk => by
    simp only [eachB, Bool.and_eq_true] at h
    by_cases e : k = n
    · subst e
      have h1 : 0 ≤ P k ∧ P k ≤ (m : Int) - 1 := by simpa [inB] using h.2.1
      exact ⟨by omega, by simpa using h.2.2⟩
    · exact each_in n h.1 k (by omega)
theorem each_inj {m n : Nat} {P : Nat → Int} (h : eachB m P n = true) {i j : Nat} (hi : i < n) (hj : j < n) (e : P i = P j) : i = j := by
  have key : ∀ a b, a < b → b < n → P a ≠ P b := fun a b hab hb e => by
    have h1 := each_in n h b hb
    have : sn P b (P b).toNat = true := (sn_mem b _).2 ⟨a, hab, by omega⟩
    rw [h1.2] at this; cases this
  rcases Nat.lt_trichotomy i j with hl | hl | hl
  · exact absurd e (key i j hl hj)
  · exact hl
  · exact absurd e.symm (key j i hl hi)
theorem rk_is {m : Nat} {P : Nat → Int} (z : Int) : ∀ n, eachB m P n = true → ∀ h, h < n → rk P z n (P h).toNat = (h : Int)
  | 0, _, h, hh => by omega
  | n + 1, he, h, hh => by
    have h0 := each_in (n + 1) he h hh
    show (if P n = (((P h).toNat : Nat) : Int) then (n : Int) else rk P z n (P h).toNat) = (h : Int)
    by_cases e : h = n
    · subst e; rw [if_pos (by omega)]
    · rw [if_neg (fun x => e (each_inj he hh (Nat.lt_succ_self n) (by omega)))]
      simp only [eachB, Bool.and_eq_true] at he
      exact rk_is z n he.1 h (by omega)
theorem rk_of {n : Nat} {P : Nat → Int} (h : eachB n P n = true) (z : Int) {q : Nat} (hq : q < n) : ∃ k, k < n ∧ P k = (q : Int) ∧ rk P z n q = (k : Int) := by
  obtain ⟨k, hk, e⟩ := (sn_mem n q).1 (each_all h q hq)
  refine ⟨k, hk, e, ?_⟩
  have := rk_is z n h k hk
  rw [e] at this
  simpa using this
def sqO (B : Nat → Nat → Bool) (P : Nat → Int) : Nat → Nat → Nat → Bool
  | 0 => B
  | k + 1 => tk (sqO B P k) (P k).toNat
theorem sqO_fair {B : Nat → Nat → Bool} (h : Fair B) (P : Nat → Int) : ∀ k, Fair (sqO B P k)
  | 0 => h
  | k + 1 => fair_tk (sqO_fair h P k) _
theorem sqO_within {p : Nat} {B : Nat → Nat → Bool} (h : Within p B) (P : Nat → Int) : ∀ k, Within p (sqO B P k)
  | 0 => h
  | k + 1 => within_tk (sqO_within h P k) _
theorem sqO_gone {B : Nat → Nat → Bool} (hB : Fair B) (P : Nat → Int) : ∀ k j, j < k → ∀ y, sqO B P k (P j).toNat y = false
  | 0, j, hj, y => by omega
  | k + 1, j, hj, y => by
    show tk (sqO B P k) (P k).toNat (P j).toNat y = false
    unfold tk
    by_cases e : j = k
    · subst e; rw [if_pos (Or.inl rfl)]
    · have h1 := sqO_gone hB P k j (by omega)
      split
      · rfl
      · rw [h1 y, (sqO_fair hB P k).1, h1]; rfl
abbrev Pr : Type := Int × Int
def lt2 (a b : Pr) : Prop := upB a.1 a.2 b.1 b.2 = true
theorem lt2_iff (a b : Pr) : lt2 a b ↔ a.1 < b.1 ∨ (a.1 = b.1 ∧ a.2 < b.2) := by
  unfold lt2 upB; simp
theorem lt2_irr (a : Pr) : ¬ lt2 a a := by rw [lt2_iff]; omega
theorem lt2_trans {a b c : Pr} (h1 : lt2 a b) (h2 : lt2 b c) : lt2 a c := by rw [lt2_iff] at *; omega
theorem le2_trans {a b c : Pr} (h1 : ¬ lt2 b a) (h2 : ¬ lt2 c b) : ¬ lt2 c a := by rw [lt2_iff] at *; omega
def Srt (l : List Pr) : Prop := l.Pairwise (fun a b => ¬ lt2 b a)
theorem srt_unique : ∀ (l1 l2 : List Pr), l1.Pairwise lt2 → Srt l2 → l2.Nodup → (∀ x, x ∈ l1 ↔ x ∈ l2) → l1 = l2
  | [], l2, _, _, _, h => by
    cases l2 with
    | nil => rfl
    | cons b bs => exact absurd ((h b).2 (by simp)) (by simp)
  | a :: xs, [], _, _, _, h => absurd ((h a).1 (by simp)) (by simp)
  | a :: xs, b :: bs, h1, h2, h3, h => by
    rw [List.pairwise_cons] at h1
    unfold Srt at h2
    rw [List.pairwise_cons] at h2
    rw [List.nodup_cons] at h3
    have hab : a = b := by
      by_cases e : a = b
      · exact e
      · have x1 : a ∈ bs := by
          have := (h a).1 (by simp)
          simp at this
          exact this.resolve_left e
        have x2 : b ∈ xs := by
          have := (h b).2 (by simp)
          simp at this
          exact this.resolve_left (fun x => e x.symm)
        exact absurd (h1.1 b x2) (h2.1 a x1)
    subst hab
    rw [srt_unique xs bs h1.2 h2.2 h3.2 (fun x => ?_)]
    constructor
    · intro hx
      have := (h x).1 (by simp [hx])
      simp at this
      rcases this with e | e
      · subst e; exact absurd (h1.1 x hx) (lt2_irr x)
      · exact e
    · intro hx
      have := (h x).2 (by simp [hx])
      simp at this
      rcases this with e | e
      · subst e; exact absurd hx h3.1
      · exact e
section
variable (B : Nat → Nat → Bool) (P : Nat → Int) (p : Nat)
def rowS (r : Nat) : Nat → List Pr
  | 0 => []
  | h + 1 => rowS r h ++ (if r < h ∧ sqO B P r (P r).toNat (P h).toNat = true then [((r : Int), (h : Int))] else [])
def allS : Nat → List Pr
  | 0 => []
  | r + 1 => allS r ++ rowS B P r p
def rowU (r k : Nat) : List Pr := (visF (sqO B P r (P r).toNat) k).map (fun q => ((r : Int), rk P (-1) p q))
def allU : Nat → List Pr
  | 0 => []
  | r + 1 => allU r ++ rowU B P p r p
end
variable {B : Nat → Nat → Bool} {P : Nat → Int} {p : Nat}
theorem mem_rowS (r : Nat) (x : Pr) : ∀ k, x ∈ rowS B P r k ↔ ∃ h, h < k ∧ r < h ∧ sqO B P r (P r).toNat (P h).toNat = true ∧ x = ((r : Int), (h : Int))
  | 0 => by simp [rowS]
  | k + 1 => by
    show x ∈ rowS B P r k ++ _ ↔ _
    rw [List.mem_append, mem_rowS r x k]
    constructor
    · rintro (⟨h, h1, h2⟩ | h)
      · exact ⟨h, by omega, h2⟩
      · split at h
        · next c =>
          simp at h
          exact ⟨k, by omega, c.1, c.2, h⟩
        · simp at h
    · rintro ⟨h, h1, h2, h3, h4⟩
      by_cases e : h = k
      · subst e
        right
        rw [if_pos ⟨h2, h3⟩, h4]; simp
      · exact Or.inl ⟨h, by omega, h2, h3, h4⟩
theorem mem_allS (x : Pr) : ∀ R, x ∈ allS B P p R ↔ ∃ r h, r < R ∧ h < p ∧ r < h ∧ sqO B P r (P r).toNat (P h).toNat = true ∧ x = ((r : Int), (h : Int))
  | 0 => by simp [allS]
  | R + 1 => by
    show x ∈ allS B P p R ++ _ ↔ _
    rw [List.mem_append, mem_allS x R, mem_rowS]
    constructor
    · rintro (⟨r, h, h1, h2⟩ | ⟨h, h1, h2⟩)
      · exact ⟨r, h, by omega, h2⟩
      · exact ⟨R, h, by omega, h1, h2⟩
    · rintro ⟨r, h, h1, h2⟩
      by_cases e : r = R
      · subst e; exact Or.inr ⟨h, h2⟩
      · exact Or.inl ⟨r, h, by omega, h2⟩
theorem mem_allU (x : Pr) : ∀ R, x ∈ allU B P p R ↔ ∃ r q, r < R ∧ q < p ∧ sqO B P r (P r).toNat q = true ∧ x = ((r : Int), rk P (-1) p q)
  | 0 => by simp [allU]
  | R + 1 => by
    show x ∈ allU B P p R ++ rowU B P p R p ↔ _
    rw [List.mem_append, mem_allU x R]
    unfold rowU
    rw [List.mem_map]
    constructor
    · rintro (⟨r, q, h1, h2⟩ | ⟨q, h1, h2⟩)
      · exact ⟨r, q, by omega, h2⟩
      · rw [visF_mem] at h1
        exact ⟨R, q, by omega, h1.1, h1.2, h2.symm⟩
    · rintro ⟨r, q, h1, h2, h3, h4⟩
      by_cases e : r = R
      · subst e; exact Or.inr ⟨q, (visF_mem _ _ _).2 ⟨h2, h3⟩, h4.symm⟩
      · exact Or.inl ⟨r, q, by omega, h2, h3, h4⟩
theorem srt_rowS (r : Nat) : ∀ k, (rowS B P r k).Pairwise lt2
  | 0 => List.Pairwise.nil
  | k + 1 => by
    show (rowS B P r k ++ _).Pairwise lt2
    rw [List.pairwise_append]
    refine ⟨srt_rowS r k, ?_, fun x hx y hy => ?_⟩
    · split <;> simp
    · obtain ⟨h, h1, h2, h3, rfl⟩ := (mem_rowS r x k).1 hx
      split at hy
      · simp at hy
        subst hy
        rw [lt2_iff]; simp; omega
      · simp at hy
theorem srt_allS : ∀ R, (allS B P p R).Pairwise lt2
  | 0 => List.Pairwise.nil
  | R + 1 => by
    show (allS B P p R ++ rowS B P R p).Pairwise lt2
    rw [List.pairwise_append]
    refine ⟨srt_allS R, srt_rowS R p, fun x hx y hy => ?_⟩
    obtain ⟨r, h, h1, _, _, _, rfl⟩ := (mem_allS x R).1 hx
    obtain ⟨h', _, _, _, rfl⟩ := (mem_rowS R y p).1 hy
    rw [lt2_iff]; simp; omega
theorem visF_nodup (f : Nat → Bool) : ∀ k, (visF f k).Nodup
  | 0 => by simp [visF, vis]
  | k + 1 => by
    show (if f k then visF f k ++ [k] else visF f k).Nodup
    split
    · rw [List.nodup_append]
      refine ⟨visF_nodup f k, by simp, fun a ha b hb => ?_⟩
      simp at hb
      have := (visF_mem f k a).1 ha
      omega
    · exact visF_nodup f k
theorem rk_inj (he : eachB p P p = true) {a b : Nat} (ha : a < p) (hb : b < p) (e : rk P (-1) p a = rk P (-1) p b) : a = b := by
  obtain ⟨k, _, h1, h2⟩ := rk_of he (-1) ha
  obtain ⟨k', _, h3, h4⟩ := rk_of he (-1) hb
  have : k = k' := by omega
  subst this
  omega
theorem nodup_allU (he : eachB p P p = true) : ∀ R, (allU B P p R).Nodup
  | 0 => by simp [allU]
  | R + 1 => by
    show (allU B P p R ++ rowU B P p R p).Nodup
    rw [List.nodup_append]
    refine ⟨nodup_allU he R, ?_, fun a ha b hb e => ?_⟩
    · unfold rowU
      rw [List.nodup_iff_pairwise_ne, List.pairwise_map]
      refine (List.nodup_iff_pairwise_ne.1 (visF_nodup (sqO B P R (P R).toNat) p)).imp_of_mem ?_
      intro a b ha hb hab e
      simp at e
      exact hab (rk_inj he ((visF_mem _ _ _).1 ha).1 ((visF_mem _ _ _).1 hb).1 e)
    · obtain ⟨r, q, h1, _, _, h2⟩ := (mem_allU a R).1 ha
      unfold rowU at hb
      rw [List.mem_map] at hb
      obtain ⟨q', _, h3⟩ := hb
      subst e
      rw [h2] at h3
      simp at h3
      omega
theorem mem_same (hB : Fair B) (he : eachB p P p = true) (x : Pr) : x ∈ allS B P p p ↔ x ∈ allU B P p p := by
  rw [mem_allS, mem_allU]
  constructor
  · rintro ⟨r, h, h1, h2, h3, h4, rfl⟩
    have := (each_in p he h h2).1
    exact ⟨r, (P h).toNat, h1, by omega, h4, by rw [rk_is (-1) p he h h2]⟩
  · rintro ⟨r, q, h1, h2, h3, rfl⟩
    obtain ⟨k, hk, e1, e2⟩ := rk_of he (-1) h2
    have hq : (P k).toNat = q := by omega
    refine ⟨r, k, h1, hk, ?_, by rw [hq]; exact h3, by rw [e2]⟩
    rcases Nat.lt_trichotomy r k with hl | hl | hl
    · exact hl
    · subst hl
      rw [hq, (sqO_fair hB P r).2] at h3; cases h3
    · rw [(sqO_fair hB P r).1, ← hq, sqO_gone hB P r k hl] at h3; cases h3
theorem fill_same (hB : Fair B) (he : eachB p P p = true) {l : List Pr} (hp : l.Perm (allU B P p p)) (hs : Srt l) : l = allS B P p p :=
  (srt_unique _ l (srt_allS p) hs (hp.symm.nodup (nodup_allU he p)) (fun x => by rw [mem_same hB he, hp.mem_iff])).symm
end
section
open Go.RowKit
def er (L H : Nat → Int) (j : Nat) : Int := if j % 2 = 0 then L (j / 2) else H (j / 2)
theorem er0 (L H : Nat → Int) (k : Nat) : er L H (k * 2) = L k := by
  unfold er; rw [if_pos (by omega)]; congr 1; omega
theorem er1 (L H : Nat → Int) (k : Nat) : er L H (k * 2 + 1) = H k := by
  unfold er; rw [if_neg (by omega)]; congr 1; omega
def ERow (w : World) (ao : Option Addr) (n : Nat) (L H : Nat → Int) : Prop := ∀ k, k < n → ∃ b o, ao = some ⟨b, o, none⟩ ∧
  w.cell? ⟨b, o + k * 2, none⟩ = some (.int .i64 (L k)) ∧ w.cell? ⟨b, o + k * 2 + 1, none⟩ = some (.int .i64 (H k))
theorem ERow.below {w w' : World} {B : Nat} {ao : Option Addr} {n : Nat} {L H : Nat → Int} (h : ERow w ao n L H) (hb : Below B w w') (hB : w.heap.size ≤ B) : ERow w' ao n L H := fun k hk => by
  obtain ⟨b, o, e, c0, c1⟩ := h k hk
  have hlt := lt_of_cell c0
  exact ⟨b, o, e, by rw [hb.cell (by simp; omega)]; exact c0, by rw [hb.cell (by simp; omega)]; exact c1⟩
theorem ERow.alloc {w : World} {ao : Option Addr} {n : Nat} {L H : Nat → Int} (h : ERow w ao n L H) (o : Obj) : ERow (w.alloc o) ao n L H := h.below ((Below.refl w.heap.size w).alloc nl o) nl
theorem ERow.congr {w : World} {ao : Option Addr} {n : Nat} {L H L' H' : Nat → Int} (h : ERow w ao n L H) (e1 : ∀ k, k < n → L k = L' k) (e2 : ∀ k, k < n → H k = H' k) : ERow w ao n L' H' := fun k hk => by
  obtain ⟨b, o, h1, h2, h3⟩ := h k hk
  exact ⟨b, o, h1, by rw [h2, e1 k hk], by rw [h3, e2 k hk]⟩
theorem ERow.less {w : World} {ao : Option Addr} {n m : Nat} {L H : Nat → Int} (h : ERow w ao n L H) (hm : m ≤ n) : ERow w ao m L H := fun k hk => h k (by omega)
def EHas (w : World) (b n : Nat) (f : Nat → Int) : Prop := ∃ cur : Array Value, w.heap[b]? = some (.cells cur 94 (0, 0)) ∧ n * 2 ≤ cur.size ∧ ∀ j, j < n * 2 → cur[j]? = some (.int .i64 (f j))
theorem EHas.cell {w : World} {b n : Nat} {f : Nat → Int} (h : EHas w b n f) {j : Nat} (hj : j < n * 2) : w.cell? ⟨b, j, none⟩ = some (.int .i64 (f j)) := by
  obtain ⟨c, hb, _, hc⟩ := h
  simp [World.cell?, hb, hc j hj]
theorem EHas.frozen {w : World} {b n : Nat} {f : Nat → Int} (h : EHas w b n f) (j : Nat) : w.frozen? ⟨b, j, none⟩ = false := by
  obtain ⟨c, hb, _, _⟩ := h
  simp [World.frozen?, hb]
theorem EHas.lt {w : World} {b n : Nat} {f : Nat → Int} (h : EHas w b n f) : b < w.heap.size := by
  obtain ⟨c, hb, _, _⟩ := h
  exact (Array.getElem?_eq_some_iff.1 hb).1
theorem EHas.of_block {w w' : World} {b n : Nat} {f : Nat → Int} (h : EHas w b n f) (e : w'.heap[b]? = w.heap[b]?) : EHas w' b n f := by
  obtain ⟨c, hb, hn, hc⟩ := h
  exact ⟨c, e.trans hb, hn, hc⟩
theorem EHas.congr {w : World} {b n : Nat} {f g : Nat → Int} (h : EHas w b n f) (e : ∀ j, j < n * 2 → f j = g j) : EHas w b n g := by
  obtain ⟨c, hb, hn, hc⟩ := h
  exact ⟨c, hb, hn, fun j hj => by rw [hc j hj, e j hj]⟩
theorem EHas.set {w : World} {b n : Nat} {f : Nat → Int} (h : EHas w b n f) (i : Nat) (v : Int) : EHas (w.setCell ⟨b, i, none⟩ (.int .i64 v)) b n (fun j => if j = i then v else f j) := by
  obtain ⟨c, hb, hn, hc⟩ := h
  refine ⟨c.setIfInBounds i (.int .i64 v), ?_, by simpa using hn, fun j hj => ?_⟩
  · simp [World.setCell, Array.getElem?_modify, hb]
  · rw [Array.getElem?_setIfInBounds]
    by_cases e : j = i
    · subst e
      simp; omega
    · rw [if_neg (fun h => e h.symm)]
      show c[j]? = some (.int .i64 (if j = i then v else f j))
      rw [if_neg e]
      exact hc j hj
theorem EHas.row {w : World} {b n : Nat} {L H : Nat → Int} (h : EHas w b n (er L H)) : ERow w (some ⟨b, 0, none⟩) n L H := fun k hk => by
  refine ⟨b, 0, rfl, ?_, ?_⟩
  · have := h.cell (j := k * 2) (by omega); rw [er0] at this; simpa using this
  · have := h.cell (j := k * 2 + 1) (by omega); rw [er1] at this; simpa using this
theorem EHas.below {w w' : World} {b n B : Nat} {f : Nat → Int} (h : EHas w b n f) (hb : Below B w w') (hB : b < B) : EHas w' b n f := h.of_block (hb.block b hB)
theorem EHas.next {w w' : World} {b n : Nat} {f : Nat → Int} (h : EHas w b n f) (hb : Below w.heap.size w w') : EHas w' b n f := h.below hb h.lt
theorem EHas.grown {w w' : World} {b n : Nat} {f : Nat → Int} {row : Option Nat} (h : EHas w b n f) (hg : w.grownBy w' row) (hne : some b ≠ row) : EHas w' b n f := h.of_block (hg.block b h.lt hne)
theorem EHas.of_row {w : World} {b n : Nat} {f : Nat → Int} (h : w.rowIs b 94 (n * 2) (fun j => .int .i64 (f j))) : EHas w b n f := by
  obtain ⟨c, hb, hn, hc⟩ := h
  exact ⟨c, hb, by omega, hc⟩
theorem Tryz.infoEdge : (Tryz.prog.info? 94).map (fun i => (i.zero, i.size, i.bytes)) = some (some (.agg #[.int .i64 0, .int .i64 0]), 2, 16) := by kernel_rfl
def EAns (w w' : World) (e : Ending) (m : Nat) (L H : Nat → Int) : Prop := ∃ ao cap, e = .returned (.slice ao m cap) ∧ (0 < m → ∃ g, ao = some ⟨g, 0, none⟩ ∧ w.heap.size ≤ g ∧ EHas w' g m (er L H)) ∧ Below w.heap.size w w'
end
end Go.Proofs.YthmpliljffmmcaaGreatDoor
