/-
  Helpers, merged: TxtP, Core, Small, In, Ok, CmdP, RdP, Base, CutR, WdsP, Jumps, Ints, Grow, OwnI.
-/
import Derived.Test.YtcmeppjfjledfacDoorRows
import Derived.WalkKit
import Derived.WalkSpells
import Derived.WalkLawsBesides
import Derived.Deep.RegionHeld3
import Derived.Deep.OwnRows
import Derived.Deep.QuietTactic
import Derived.BigQuiet
import Derived.Deep.DrawnRows
import Derived.ProofKit
import Derived.OpenShut
import Derived.ChangeOld
import Derived.Deep.Slices
import Derived.Deep.Strs
import Derived.Lib.SmallJoins
import Derived.Laws.RangeAny
import Derived.Scope
import Derived.Deep.AppendLies
/-
  Numbers in a text, plainly: how the document reads them, how the program does, and that both read the same of numbers that are not below nought.
-/
set_option linter.unusedVariables false
set_option linter.unusedSimpArgs false
namespace Go.Proofs.YtcmeppjfjledfacDoor

def isD (c : UInt8) : Bool := decide (48 ≤ c.toNat) && decide (c.toNat ≤ 57)
def dg (c : UInt8) : Int := (c.toNat : Int) - 48
def val (l : List UInt8) : Int := l.foldl (fun n c => n * 10 + dg c) 0
/-- A number's digits, behind a sign or none. -/
def numD (neg : Bool) (d : List UInt8) : Option Int :=
  if d.length = 0 ∨ 9 < d.length then none else if d.all isD = false then none else if d.head? = some 48 ∧ (neg = true ∨ 1 < d.length) then none else some (if neg = true then - val d else val d)
def num1 (s : List UInt8) : Option Int := if s.head? = some 45 then numD true s.tail else numD false s
/-- The document's numbers: what is there, what is being read. -/
def snums : List UInt8 → List Int → List UInt8 → Option (List Int)
  | [], out, cur => (num1 cur).map fun n => out ++ [n]
  | c :: t, out, cur => if c = 32 then (match num1 cur with | some n => snums t (out ++ [n]) [] | none => none) else snums t out (cur ++ [c])
/-- Where the program stands: ahead of a number, in one, behind one. -/
inductive Sta where
  | ahead (out : List Int)
  | within (n : Int) (out : List Int)
  | behind (out : List Int)
def inums : List UInt8 → Sta → Option (List Int)
  | [], .ahead _ => none
  | [], .within n out => some (out ++ [n])
  | [], .behind out => some out
  | c :: t, .ahead out => if out.length = 30 then none else if c = 48 then inums t (.behind (out ++ [0])) else if isD c = true then inums t (.within (dg c) out) else none
  | c :: t, .within n out => if isD c = true then (if 999999999 < 10 * n + dg c then none else inums t (.within (10 * n + dg c) out)) else if c = 32 then inums t (.ahead (out ++ [n])) else none
  | c :: t, .behind out => if c = 32 then inums t (.ahead out) else none

theorem dg_bd {c : UInt8} (h : isD c = true) : 0 ≤ dg c ∧ dg c ≤ 9 := by
  simp [isD] at h
  unfold dg
  omega
theorem isD_ne {c : UInt8} (h : isD c = true) : c ≠ 32 ∧ c ≠ 45 := by
  constructor <;> (rintro rfl; simp [isD] at h)
theorem val_snoc (l : List UInt8) (c : UInt8) : val (l ++ [c]) = val l * 10 + dg c := by simp [val, List.foldl_append]
theorem fold_bd : ∀ (l : List UInt8) (n : Int), l.all isD = true → 0 ≤ n → n ≤ l.foldl (fun n c => n * 10 + dg c) n
  | [], n, _, _ => Int.le_refl _
  | c :: t, n, h, h0 => by
    simp at h
    have hd := dg_bd h.1
    have := fold_bd t (n * 10 + dg c) (by simpa using h.2) (by omega)
    simp only [List.foldl_cons]
    omega
theorem val_nonneg {l : List UInt8} (h : l.all isD = true) : 0 ≤ val l := by
  have := fold_bd l 0 h (Int.le_refl _)
  exact this
theorem all_snoc {l : List UInt8} {c : UInt8} : (l ++ [c]).all isD = true ↔ l.all isD = true ∧ isD c = true := by simp
theorem fold_pow : ∀ (l : List UInt8) (n : Int), l.all isD = true → 1 ≤ n → n * (10 : Int) ^ l.length ≤ l.foldl (fun n c => n * 10 + dg c) n ∧ l.foldl (fun n c => n * 10 + dg c) n < (n + 1) * (10 : Int) ^ l.length
  | [], n, _, _ => by simp; omega
  | c :: t, n, h, h0 => by
    simp at h
    have hd := dg_bd h.1
    obtain ⟨h1, h2⟩ := fold_pow t (n * 10 + dg c) (by simpa using h.2) (by omega)
    simp only [List.foldl_cons, List.length_cons]
    have hp : (0 : Int) ≤ (10 : Int) ^ t.length := Int.pow_nonneg (by decide)
    have e1 : n * (10 : Int) ^ (t.length + 1) = (n * 10) * (10 : Int) ^ t.length := by rw [Int.pow_succ, Int.mul_comm ((10 : Int) ^ t.length) 10, ← Int.mul_assoc]
    have e2 : (n + 1) * (10 : Int) ^ (t.length + 1) = ((n + 1) * 10) * (10 : Int) ^ t.length := by rw [Int.pow_succ, Int.mul_comm ((10 : Int) ^ t.length) 10, ← Int.mul_assoc]
    have m1 : (n * 10) * (10 : Int) ^ t.length ≤ (n * 10 + dg c) * (10 : Int) ^ t.length := Int.mul_le_mul_of_nonneg_right (by omega) hp
    have m2 : (n * 10 + dg c + 1) * (10 : Int) ^ t.length ≤ ((n + 1) * 10) * (10 : Int) ^ t.length := Int.mul_le_mul_of_nonneg_right (by omega) hp
    rw [e1, e2]
    omega
/-- Nine digits at most, if no nought is ahead: just the numbers up to 999999999. -/
theorem val_nine {l : List UInt8} (h : l.all isD = true) (hl : l ≠ []) (h0 : l.head? ≠ some 48) : (val l ≤ 999999999 ↔ l.length ≤ 9) ∧ 1 ≤ val l := by
  cases l with
  | nil => exact absurd rfl hl
  | cons c t =>
    simp at h h0
    have hd := dg_bd h.1
    have h1 : 1 ≤ dg c := by
      have : dg c ≠ 0 := fun e => h0 (by unfold dg at e; exact UInt8.toNat_inj.1 (by simp; omega))
      omega
    obtain ⟨a, b⟩ := fold_pow t (dg c) (by simpa using h.2) h1
    have e : val (c :: t) = t.foldl (fun n c => n * 10 + dg c) (dg c) := by simp [val]
    rw [e]
    have hp1 : (1 : Int) ≤ (10 : Int) ^ t.length := by
      have := Int.pow_pos (n := 10) (m := t.length) (by decide)
      omega
    have hf := fold_bd t (dg c) (by simpa using h.2) (by omega)
    refine ⟨⟨fun hv => ?_, fun hv => ?_⟩, by omega⟩
    · by_cases hlen : t.length ≤ 8
      · simp; omega
      · exfalso
        have hp : (10 : Int) ^ 9 ≤ (10 : Int) ^ t.length := by
          obtain ⟨k, hk⟩ : ∃ k, t.length = 9 + k := ⟨t.length - 9, by omega⟩
          rw [hk, Int.pow_add]
          have : (1 : Int) ≤ (10 : Int) ^ k := by
            have := Int.pow_pos (n := 10) (m := k) (by decide)
            omega
          have h9 : (0 : Int) ≤ (10 : Int) ^ 9 := by decide
          have := Int.mul_le_mul_of_nonneg_left this h9
          omega
        have : 1 * (10 : Int) ^ t.length ≤ dg c * (10 : Int) ^ t.length := Int.mul_le_mul_of_nonneg_right h1 (by omega)
        have e9 : (10 : Int) ^ 9 = 1000000000 := by decide
        omega
    · simp at hv
      have hp : (10 : Int) ^ t.length ≤ (10 : Int) ^ 8 := by
        obtain ⟨k, hk⟩ : ∃ k, 8 = t.length + k := ⟨8 - t.length, by omega⟩
        rw [hk, Int.pow_add]
        have : (1 : Int) ≤ (10 : Int) ^ k := by
          have := Int.pow_pos (n := 10) (m := k) (by decide)
          omega
        have := Int.mul_le_mul_of_nonneg_left this (by omega : (0 : Int) ≤ (10 : Int) ^ t.length)
        omega
      have : (dg c + 1) * (10 : Int) ^ t.length ≤ 10 * (10 : Int) ^ t.length := Int.mul_le_mul_of_nonneg_right (by omega) (by omega)
      have e8 : (10 : Int) ^ 8 = 100000000 := by decide
      omega

/-- A word that no sign behind it mends. -/
theorem snums_dead : ∀ (l : List UInt8) (out : List Int) (cur : List UInt8), (∀ x, num1 (cur ++ x) = none) → snums l out cur = none
  | [], out, cur, h => by
    have := h []
    simp at this
    simp [snums, this]
  | c :: t, out, cur, h => by
    unfold snums
    by_cases hc : c = 32
    · have := h []
      simp at this
      rw [if_pos hc, this]
    · rw [if_neg hc]
      exact snums_dead t out (cur ++ [c]) (fun x => by rw [List.append_assoc]; exact h _)
theorem snums_pre : ∀ (l : List UInt8) (out : List Int) (cur : List UInt8) (ns : List Int), snums l out cur = some ns → out <+: ns
  | [], out, cur, ns, h => by
    simp [snums] at h
    obtain ⟨n, _, rfl⟩ := h
    exact ⟨[n], rfl⟩
  | c :: t, out, cur, ns, h => by
    unfold snums at h
    by_cases hc : c = 32
    · rw [if_pos hc] at h
      cases hn : num1 cur with
      | none => rw [hn] at h; cases h
      | some n =>
        rw [hn] at h
        have := snums_pre t (out ++ [n]) [] ns h
        exact (List.prefix_append out [n]).trans this
    · rw [if_neg hc] at h
      exact snums_pre t out (cur ++ [c]) ns h
/-- A number behind a sign is below nought. -/
theorem numD_neg {d : List UInt8} {n : Int} (h : numD true d = some n) : n < 0 := by
  unfold numD at h
  split at h
  · cases h
  rename_i h1
  split at h
  · cases h
  rename_i h2
  split at h
  · cases h
  rename_i h3
  simp at h
  have hall : d.all isD = true := by
    cases hh : d.all isD with
    | true => rfl
    | false => exact absurd hh h2
  have := (val_nine hall (by rintro rfl; simp at h1) (fun e => h3 ⟨e, Or.inl rfl⟩)).2
  omega
theorem snums_neg : ∀ (l : List UInt8) (out : List Int) (d : List UInt8) (ns : List Int), snums l out (45 :: d) = some ns → ∃ x, x ∈ ns.drop out.length ∧ x < 0
  | [], out, d, ns, h => by
    simp [snums, num1] at h
    obtain ⟨n, hn, rfl⟩ := h
    exact ⟨n, by simp, numD_neg hn⟩
  | c :: t, out, d, ns, h => by
    unfold snums at h
    by_cases hc : c = 32
    · rw [if_pos hc] at h
      cases hn : num1 (45 :: d) with
      | none => rw [hn] at h; cases h
      | some n =>
        rw [hn] at h
        obtain ⟨y, rfl⟩ := snums_pre t (out ++ [n]) [] ns h
        simp [num1] at hn
        exact ⟨n, by simp, numD_neg hn⟩
    · rw [if_neg hc] at h
      exact snums_neg t out (d ++ [c]) ns (by simpa using h)
/-- What the program wants of the numbers that are new: not below nought, and thirty at most in all. -/
def Fine (k : Nat) (ns : List Int) : Prop := (∀ x ∈ ns.drop k, 0 ≤ x) ∧ ns.length ≤ 30
theorem fine_snoc {out : List Int} {n : Int} {ns : List Int} (hp : (out ++ [n]) <+: ns) (h0 : 0 ≤ n) : Fine out.length ns ↔ Fine (out ++ [n]).length ns := by
  obtain ⟨y, rfl⟩ := hp
  unfold Fine
  simp
  intro _ _
  exact h0
theorem digit_word {cur : List UInt8} (hne : cur ≠ []) (hall : cur.all isD = true) : cur.head? ≠ some 45 := by
  cases cur with
  | nil => exact absurd rfl hne
  | cons c t =>
    simp at hall ⊢
    exact (isD_ne hall.1).2
theorem num1_word {cur : List UInt8} {n : Int} (hne : cur ≠ []) (hall : cur.all isD = true) (h0 : cur.head? ≠ some 48) (hv : val cur = n) (hm : n ≤ 999999999) : num1 cur = some n := by
  have hl := (val_nine hall hne h0).1.1 (by omega)
  have hpos : cur.length ≠ 0 := by simpa using hne
  unfold num1
  rw [if_neg (digit_word hne hall)]
  unfold numD
  rw [if_neg (by omega), if_neg (by simp [hall]), if_neg (fun e => h0 e.1)]
  simp [hv]
theorem dead_long {cur : List UInt8} (hne : cur ≠ []) (h45 : cur.head? ≠ some 45) (hl : 9 < cur.length) (x : List UInt8) : num1 (cur ++ x) = none := by
  unfold num1
  rw [if_neg (by cases cur with | nil => exact absurd rfl hne | cons c t => simpa using h45)]
  unfold numD
  rw [if_pos (Or.inr (by simp; omega))]
theorem dead_sign {cur : List UInt8} {c : UInt8} (hc : isD c = false) (h45 : (cur ++ [c]).head? ≠ some 45) (x : List UInt8) : num1 ((cur ++ [c]) ++ x) = none := by
  unfold num1
  rw [if_neg (by cases cur <;> simpa using h45)]
  unfold numD
  split
  · rfl
  rw [if_pos (by simp [hc])]
theorem dead_nought {d : List UInt8} (hd : d ≠ []) (x : List UInt8) : num1 ((48 :: d) ++ x) = none := by
  unfold num1
  rw [if_neg (by simp)]
  unfold numD
  split
  · rfl
  split
  · rfl
  rw [if_pos ⟨by simp, Or.inr (by cases d with | nil => exact absurd rfl hd | cons c t => simp)⟩]
theorem num1_nought : num1 [48] = some 0 := by decide
theorem num1_nil : num1 [] = none := by decide

theorem nums_same : ∀ (l : List UInt8),
    (∀ out ns, out.length ≤ 30 → (inums l (.ahead out) = some ns ↔ snums l out [] = some ns ∧ Fine out.length ns)) ∧
    (∀ out n cur ns, out.length < 30 → cur ≠ [] → cur.all isD = true → cur.head? ≠ some 48 → val cur = n → n ≤ 999999999 → (inums l (.within n out) = some ns ↔ snums l out cur = some ns ∧ Fine out.length ns)) ∧
    (∀ out ns, out.length < 30 → (inums l (.behind (out ++ [0])) = some ns ↔ snums l out [48] = some ns ∧ Fine out.length ns))
  | [] => by
    refine ⟨fun out ns _ => ?_, fun out n cur ns ho hne hall h0 hv hm => ?_, fun out ns ho => ?_⟩
    · simp [inums, snums, num1_nil]
    · simp only [inums, snums, num1_word hne hall h0 hv hm, Option.map_some, Option.some.injEq]
      have := val_nonneg hall
      exact ⟨fun e => ⟨e, by subst e; exact ⟨by simp; omega, by simp; omega⟩⟩, fun e => e.1⟩
    · simp only [inums, snums, num1_nought, Option.map_some, Option.some.injEq]
      exact ⟨fun e => ⟨e, by subst e; exact ⟨by simp, by simp; omega⟩⟩, fun e => e.1⟩
  | c :: t => by
    obtain ⟨iA, iW, iB⟩ := nums_same t
    refine ⟨fun out ns ho => ?_, fun out n cur ns ho hne hall h0 hv hm => ?_, fun out ns ho => ?_⟩
    · have hs : ∀ h32 : c ≠ 32, snums (c :: t) out [] = snums t out [c] := fun h32 => by simp [snums, h32]
      by_cases h30 : out.length = 30
      · have hL : inums (c :: t) (.ahead out) = none := by simp [inums, h30]
        rw [hL]
        refine ⟨fun h => (by cases h), fun ⟨h1, h2⟩ => ?_⟩
        exfalso
        have hlong : ∀ (l : List UInt8) (cur : List UInt8), snums l out cur = some ns → out.length < ns.length := by
          intro l
          induction l with
          | nil =>
            intro cur h
            simp [snums] at h
            obtain ⟨n, _, rfl⟩ := h
            simp
          | cons d u ih =>
            intro cur h
            unfold snums at h
            split at h
            · cases hn : num1 cur with
              | none => rw [hn] at h; cases h
              | some n =>
                rw [hn] at h
                have := (snums_pre u (out ++ [n]) [] ns h).length_le
                simp at this
                omega
            · exact ih _ h
        have := hlong _ _ h1
        have := h2.2
        omega
      by_cases h48 : c = 48
      · subst h48
        rw [hs (by decide)]
        have hL : inums (48 :: t) (.ahead out) = inums t (.behind (out ++ [0])) := by simp [inums, h30]
        rw [hL]
        exact iB out ns (by omega)
      cases hd : isD c with
      | true =>
        have hb := dg_bd hd
        rw [hs (isD_ne hd).1]
        have hL : inums (c :: t) (.ahead out) = inums t (.within (dg c) out) := by simp [inums, h30, h48, hd]
        rw [hL]
        exact iW out (dg c) [c] ns (by omega) (by simp) (by simp [hd]) (by simpa using h48) (by simp [val]) (by omega)
      | false =>
        have hL : inums (c :: t) (.ahead out) = none := by simp [inums, h30, h48, hd]
        rw [hL]
        refine ⟨fun h => (by cases h), fun ⟨h1, h2⟩ => ?_⟩
        exfalso
        by_cases h32 : c = 32
        · subst h32
          simp [snums, num1_nil] at h1
        rw [hs h32] at h1
        by_cases h45 : c = 45
        · subst h45
          obtain ⟨x, hx, hx0⟩ := snums_neg t out [] ns h1
          have := h2.1 x hx
          omega
        · rw [snums_dead t out [c] (fun x => dead_sign (cur := []) hd (by simpa using h45) x)] at h1
          cases h1
    · cases hd : isD c with
      | true =>
        have hb := dg_bd hd
        have hall' : (cur ++ [c]).all isD = true := all_snoc.2 ⟨hall, hd⟩
        have hne' : cur ++ [c] ≠ [] := by simp
        have h0' : (cur ++ [c]).head? ≠ some 48 := by cases cur with | nil => exact absurd rfl hne | cons d u => simpa using h0
        have hv' : val (cur ++ [c]) = 10 * n + dg c := by rw [val_snoc, hv]; omega
        have hsn : snums (c :: t) out cur = snums t out (cur ++ [c]) := by simp [snums, (isD_ne hd).1]
        rw [hsn]
        by_cases hbig : 999999999 < 10 * n + dg c
        · have hL : inums (c :: t) (.within n out) = none := by simp [inums, hd, hbig]
          rw [hL]
          refine ⟨fun h => (by cases h), fun ⟨h1, _⟩ => ?_⟩
          have hlen : 9 < (cur ++ [c]).length := by
            have := (val_nine hall' hne' h0').1
            rw [hv'] at this
            omega
          rw [snums_dead t out _ (dead_long hne' (digit_word hne' hall') hlen)] at h1
          cases h1
        · have hL : inums (c :: t) (.within n out) = inums t (.within (10 * n + dg c) out) := by simp [inums, hd, hbig]
          rw [hL]
          exact iW out (10 * n + dg c) (cur ++ [c]) ns ho hne' hall' h0' hv' (by omega)
      | false =>
        by_cases h32 : c = 32
        · subst h32
          have hL : inums (32 :: t) (.within n out) = inums t (.ahead (out ++ [n])) := by simp [inums, hd]
          have hsn : snums (32 :: t) out cur = snums t (out ++ [n]) [] := by simp [snums, num1_word hne hall h0 hv hm]
          rw [hL, hsn, iA (out ++ [n]) ns (by simp; omega)]
          have hn0 : 0 ≤ n := by rw [← hv]; exact val_nonneg hall
          exact ⟨fun ⟨a, b⟩ => ⟨a, (fine_snoc (snums_pre _ _ _ _ a) hn0).2 b⟩, fun ⟨a, b⟩ => ⟨a, (fine_snoc (snums_pre _ _ _ _ a) hn0).1 b⟩⟩
        · have hL : inums (c :: t) (.within n out) = none := by simp [inums, hd, h32]
          have hsn : snums (c :: t) out cur = snums t out (cur ++ [c]) := by simp [snums, h32]
          rw [hL, hsn, snums_dead t out _ (dead_sign hd (by cases cur with | nil => exact absurd rfl hne | cons d u => simpa using digit_word hne hall))]
          simp
    · by_cases h32 : c = 32
      · subst h32
        have hL : inums (32 :: t) (.behind (out ++ [0])) = inums t (.ahead (out ++ [0])) := by simp [inums]
        have hsn : snums (32 :: t) out [48] = snums t (out ++ [0]) [] := by simp [snums, num1_nought]
        rw [hL, hsn, iA (out ++ [0]) ns (by simp; omega)]
        exact ⟨fun ⟨a, b⟩ => ⟨a, (fine_snoc (snums_pre _ _ _ _ a) (Int.le_refl _)).2 b⟩, fun ⟨a, b⟩ => ⟨a, (fine_snoc (snums_pre _ _ _ _ a) (Int.le_refl _)).1 b⟩⟩
      · have hL : inums (c :: t) (.behind (out ++ [0])) = none := by simp [inums, h32]
        have hsn : snums (c :: t) out [48] = snums t out [48, c] := by simp [snums, h32]
        rw [hL, hsn, snums_dead t out [48, c] (fun x => dead_nought (d := [c]) (by simp) x)]
        simp

end Go.Proofs.YtcmeppjfjledfacDoor

/-
  What needs no function of the program: cells of an older world in a later one, numbers in bounds, two pairs in their order.
-/
set_option linter.unusedVariables false
set_option linter.unusedSimpArgs false
namespace Go.Proofs.YtcmeppjfjledfacDoor
open Go.RowKit

theorem lt_of_cell {w : World} {b o : Nat} {v : Value} (h : w.cell? ⟨b, o, none⟩ = some v) : b < w.heap.size := by
  by_cases hb : b < w.heap.size
  · exact hb
  · simp [World.cell?, Array.getElem?_eq_none (Nat.le_of_not_lt hb)] at h
/-- Behind a call that has turned nothing old: all old cells and marks read as before. -/
theorem bcell {W w1 : World} (hb : Below W.heap.size W w1) : (∀ b o, b < W.heap.size → w1.cell? ⟨b, o, none⟩ = W.cell? ⟨b, o, none⟩) ∧ (∀ b o, b < W.heap.size → w1.frozen? ⟨b, o, none⟩ = W.frozen? ⟨b, o, none⟩) :=
  ⟨fun _ _ h => hb.cell h, fun _ _ h => hb.frozen h⟩
/-- So far k arcs have been copied; behind them all is nought. -/
def upto (f : Nat → Int) (m j : Nat) : Int := if j < m then f j else 0
def inB (x lo hi : Int) : Bool := decide (lo ≤ x) && decide (x ≤ hi)
def upB (f t f' t' : Int) : Bool := decide (f < f') || (f == f' && decide (t < t'))
theorem upB_yes1 {f t f' t' : Int} (h : f < f') : upB f t f' t' = true := by simp [upB, h]
theorem upB_yes2 {f t f' t' : Int} (h : f ≤ f') (h' : f' ≤ f) (ht : t < t') : upB f t f' t' = true := by
  have : f = f' := by omega
  simp [upB, this, ht]
theorem upB_no1 {f t f' t' : Int} (h : f' < f) : upB f t f' t' = false := by simp [upB]; omega
theorem upB_no2 {f t f' t' : Int} (h : f ≤ f') (h' : f' ≤ f) (ht : t' ≤ t) : upB f t f' t' = false := by simp [upB]; omega
theorem ret_bool {a b : Bool} (h : a = b) : Ending.returned (.bool a) = .returned (.bool b) := by rw [h]
/-- Behind the box of its argument a function has turned nothing old. -/
theorem unbox {w w' : World} {o : Obj} {B : Nat} (h : Below B (w.alloc o) w') (hB : w.heap.size ≤ B) : Below w.heap.size w w' :=
  ((Below.refl _ _).alloc (Nat.le_refl _) _).trans (h.mono hB)
theorem three_lt {w wr w1 : World} {o : Obj} {b : Nat} (h : Below (wr.alloc o).heap.size (wr.alloc o) w1) (h1 : w.heap.size < wr.heap.size) (h2 : b < wr.heap.size) : wr.heap.size < w1.heap.size ∧ w.heap.size < w1.heap.size ∧ b < w1.heap.size := by
  have := h.size; simp at this; omega
theorem keep_cell {W W' : World} {B b o : Nat} {v : Value} (hb : Below B W W') (hB : W.heap.size ≤ B) (h : W.cell? ⟨b, o, none⟩ = some v) : W'.cell? ⟨b, o, none⟩ = some v := by
  have := lt_of_cell h
  rw [hb.cell (by simp; omega)]; exact h
theorem below_next {B : Nat} {a W W' : World} (h : Below B a W) (hB : B ≤ a.heap.size) (hb : Below W.heap.size W W') : Below B a W' := h.trans (hb.mono (Nat.le_trans hB h.size))
/-- The box of an argument of two cells, in a later world. -/
theorem box2 {w W : World} {a0 a1 : Value} {t : TypeId} (h : Below (w.heap.size + 1) (w.alloc (.cells #[a0, a1] t)) W) :
    W.cell? ⟨w.heap.size, 0, none⟩ = some a0 ∧ W.cell? ⟨w.heap.size, 1, none⟩ = some a1 ∧ w.heap.size < W.heap.size := by
  refine ⟨by rw [h.cell (by simp)]; simp [go_sem], by rw [h.cell (by simp)]; simp [go_sem], by have := h.size; simp at this; omega⟩
theorem boxed {w W : World} {o : Obj} (h : Below (w.alloc o).heap.size (w.alloc o) W) : Below (w.heap.size + 1) (w.alloc o) W := h.mono (by simp)

end Go.Proofs.YtcmeppjfjledfacDoor

/-
  The small functions of the exact laws of chapter 1: what each call answers, and that nothing that was there has turned. No condition but those that each theorem names.
-/
set_option linter.unusedVariables false
set_option linter.unusedSimpArgs false
namespace Go.Proofs.YtcmeppjfjledfacDoor
open Go.RowKit


/-- Cell j of n arcs that lie one behind the other. -/
def ar (F T G : Nat → Int) (j : Nat) : Int := if j % 3 = 0 then F (j / 3) else if j % 3 = 1 then T (j / 3) else G (j / 3)
theorem ar0 (F T G : Nat → Int) (k : Nat) : ar F T G (k * 3) = F k := by
  unfold ar; rw [if_pos (by omega)]; congr 1; omega
theorem ar1 (F T G : Nat → Int) (k : Nat) : ar F T G (k * 3 + 1) = T k := by
  unfold ar; rw [if_neg (by omega), if_pos (by omega)]; congr 1; omega
theorem ar2 (F T G : Nat → Int) (k : Nat) : ar F T G (k * 3 + 2) = G k := by
  unfold ar; rw [if_neg (by omega), if_neg (by omega)]; congr 1; omega

/-- n arcs lie behind a slice's address. -/
def Row (w : World) (ao : Option Addr) (n : Nat) (F T G : Nat → Int) : Prop := ∀ k, k < n → ∃ b o, ao = some ⟨b, o, none⟩ ∧
  w.cell? ⟨b, o + k * 3, none⟩ = some (.int .i64 (F k)) ∧ w.cell? ⟨b, o + k * 3 + 1, none⟩ = some (.int .i64 (T k)) ∧ w.cell? ⟨b, o + k * 3 + 2, none⟩ = some (.int .i64 (G k))

theorem Row.below {w w' : World} {B : Nat} {ao : Option Addr} {n : Nat} {F T G : Nat → Int} (h : Row w ao n F T G) (hb : Below B w w') (hB : w.heap.size ≤ B) : Row w' ao n F T G := fun k hk => by
  obtain ⟨b, o, e, c0, c1, c2⟩ := h k hk
  have hlt := lt_of_cell c0
  exact ⟨b, o, e, by rw [hb.cell (by simp; omega)]; exact c0, by rw [hb.cell (by simp; omega)]; exact c1, by rw [hb.cell (by simp; omega)]; exact c2⟩

theorem Row.alloc {w : World} {ao : Option Addr} {n : Nat} {F T G : Nat → Int} (h : Row w ao n F T G) (o : Obj) : Row (w.alloc o) ao n F T G := h.below ((Below.refl w.heap.size w).alloc (Nat.le_refl _) o) (Nat.le_refl _)

/-- n arcs of the call's own, in a block of their own. -/
def Own (w : World) (b n : Nat) (f : Nat → Int) : Prop := w.rowIs b 50 (n * 3) (fun j => .int .i64 (f j))

theorem Own.row {w : World} {b n : Nat} {F T G : Nat → Int} (h : Own w b n (ar F T G)) : Row w (some ⟨b, 0, none⟩) n F T G := fun k hk => by
  refine ⟨b, 0, rfl, ?_, ?_, ?_⟩
  · have := World.rowIs.cell h (i := k * 3) (by omega); rw [ar0] at this; simpa using this
  · have := World.rowIs.cell h (i := k * 3 + 1) (by omega); rw [ar1] at this; simpa using this
  · have := World.rowIs.cell h (i := k * 3 + 2) (by omega); rw [ar2] at this; simpa using this

theorem Own.below {w w' : World} {b n : Nat} {f : Nat → Int} (h : Own w b n f) (hb : Below w.heap.size w w') : Own w' b n f := World.rowIs.of_block h (hb.block b (World.rowIs.lt h))

theorem Own.three {w : World} {b n k : Nat} {F T G : Nat → Int} (h : Own w b n (upto (ar F T G) (k * 3))) (hk : k < n) :
    Own (((w.setCell ⟨b, k * 3, none⟩ (.int .i64 (F k))).setCell ⟨b, k * 3 + 1, none⟩ (.int .i64 (T k))).setCell ⟨b, k * 3 + 2, none⟩ (.int .i64 (G k))) b n (upto (ar F T G) ((k + 1) * 3)) := by
  refine (((World.rowIs.set h (k * 3) _).set (k * 3 + 1) _).set (k * 3 + 2) _).congr fun j hj => ?_
  by_cases e2 : j = k * 3 + 2
  · subst e2; simp only [if_pos]; unfold upto; rw [if_pos (by omega), ar2]
  by_cases e1 : j = k * 3 + 1
  · subst e1; rw [if_neg (by omega), if_pos rfl]; unfold upto; rw [if_pos (by omega), ar1]
  by_cases e0 : j = k * 3
  · subst e0; rw [if_neg (by omega), if_neg (by omega), if_pos rfl]; unfold upto; rw [if_pos (by omega), ar0]
  rw [if_neg e2, if_neg e1, if_neg e0]; unfold upto
  by_cases hl : j < k * 3
  · rw [if_pos hl, if_pos (by omega)]
  · rw [if_neg hl, if_neg (by omega)]

theorem Tryd.infoArc : (Tryd.prog.info? 50).map (fun i => (i.zero, i.size, i.bytes)) = some (some (.agg #[.int .i64 0, .int .i64 0, .int .i64 0]), 3, 24) := by kernel_rfl

theorem made_own (w : World) (n : Nat) (f : Nat → Int) : Own (w.alloc (.cells (madeCells #[.int .i64 0, .int .i64 0, .int .i64 0] (n * 3)) 50)) w.heap.size n (upto f 0) := by
  refine ⟨_, Go.Deep.blk_alloc_new _ _, size_madeCells _ _, fun i hi => ?_⟩
  have h3 : i % 3 = 0 ∨ i % 3 = 1 ∨ i % 3 = 2 := by omega
  simp [madeCells, hi, upto]
  rcases h3 with h | h | h <;> simp [h]

theorem make_arcs (n : Nat) (hn : n ≤ 1048576) (w : World) :
    (Instr.makeSlice 24 (.int .i64 (n : Int)) (.int .i64 (n : Int))).run Tryd.prog w = .ok (.slice (some ⟨w.heap.size, 0, none⟩) n n) (w.alloc (.cells (madeCells #[.int .i64 0, .int .i64 0, .int .i64 0] (n * 3)) 50)) := by
  obtain ⟨i, hi, hz0, hz1, hz2⟩ := info_parts Tryd.infoArc
  have hr := run_make (P := Tryd.prog) w 24 50 i _ Tryd.underlying24 hi hz0 .i64 .i64 n n (by omega) (Int.le_refl _) (by rw [hz2]; omega) (by omega)
  simpa [hz1, Value.cells] using hr

end Go.Proofs.YtcmeppjfjledfacDoor

/-
  Is a number within two others: the document's and the program's question. No condition.
-/
set_option linter.unusedVariables false
set_option linter.unusedSimpArgs false
namespace Go.Proofs.YtcmeppjfjledfacDoor
open Go.RowKit

theorem l1In_any (x lo hi : Int) (w : World) :
    Calls Tryd.prog 35 #[.int .i64 x, .int .i64 lo, .int .i64 hi] w fun e w' => e = .returned (.bool (inB x lo hi)) ∧ w' = w := by
  by_cases h1 : lo ≤ x <;> by_cases h2 : x ≤ hi <;>
  · go_enter Tryd.func35, Tryd.ntmps35
    go_wp2
    go_ret
    exact ⟨by simp [inB, h1, h2], rfl⟩
theorem placeOk_any (x p : Int) (w : World) :
    Calls Tryd.prog 79 #[.int .i64 x, .int .i64 p] w fun e w' => e = .returned (.bool (inB x 0 (p - 1))) ∧ w' = w := by
  by_cases h1 : 0 ≤ x <;> by_cases h2 : x < p <;>
  · go_enter Tryd.func79, Tryd.ntmps79
    go_wp2
    go_ret
    exact ⟨by simp [inB, h1]; omega, rfl⟩

end Go.Proofs.YtcmeppjfjledfacDoor

/-
  GraphOk: the document's and the program's, each held against one plain function of the arcs.
-/
set_option linter.unusedVariables false
set_option linter.unusedSimpArgs false
namespace Go.Proofs.YtcmeppjfjledfacDoor
open Go.RowKit

def arcB (f t g p : Int) : Bool := inB f 0 (p - 1) && (inB t 0 (p - 1) && (f != t && inB g 1 1000000))
def arcsB (p : Int) (F T G : Nat → Int) : Nat → Bool
  | 0 => true
  | k + 1 => arcsB p F T G k && (arcB (F k) (T k) (G k) p && (k == 0 || upB (F (k - 1)) (T (k - 1)) (F k) (T k)))
def graphB (p : Int) (n : Nat) (F T G : Nat → Int) : Bool := inB p 1 24 && (decide (n ≤ 100) && arcsB p F T G n)
set_option maxHeartbeats 800000 in
theorem l1Arc_any (f t g p : Int) (hp : 1 ≤ p) (hp' : p ≤ 24) (w : World) :
    Calls Tryd.prog 34 #[.agg #[.int .i64 f, .int .i64 t, .int .i64 g], .int .i64 p] w fun e w' => e = .returned (.bool (arcB f t g p)) ∧ Below w.heap.size w w' := by
  unfold arcB
  rcases Bool.eq_false_or_eq_true (inB f 0 (p - 1)) with h1 | h1
  · rcases Bool.eq_false_or_eq_true (inB t 0 (p - 1)) with h2 | h2
    · rcases Bool.eq_false_or_eq_true (f != t) with h3 | h3 <;>
      · go_enter Tryd.func34, Tryd.ntmps34
        go_wp2_with (go_at_call 35; refine (l1In_any _ _ _ _).mono ?_; rintro e w1 ⟨rfl, rfl⟩)
        go_ret
        exact ⟨by simp [h1, h2, h3], (Below.refl _ _).alloc (Nat.le_refl _) _⟩
    · go_enter Tryd.func34, Tryd.ntmps34
      go_wp2_with (go_at_call 35; refine (l1In_any _ _ _ _).mono ?_; rintro e w1 ⟨rfl, rfl⟩)
      go_ret
      exact ⟨by simp [h1, h2], (Below.refl _ _).alloc (Nat.le_refl _) _⟩
  · go_enter Tryd.func34, Tryd.ntmps34
    go_wp2_with (go_at_call 35; refine (l1In_any _ _ _ _).mono ?_; rintro e w1 ⟨rfl, rfl⟩)
    go_ret
    exact ⟨by simp [h1], (Below.refl _ _).alloc (Nat.le_refl _) _⟩

end Go.Proofs.YtcmeppjfjledfacDoor

/-
  Which commands are right: a plain function.
-/
set_option linter.unusedVariables false
set_option linter.unusedSimpArgs false
namespace Go.Proofs.YtcmeppjfjledfacDoor

def batB (F T G : Nat → Int) : Nat → Bool
  | 0 => true
  | k + 1 => batB F T G k && arcB (F k) (T k) (G k) 24
def batchB (F T G : Nat → Int) (n : Nat) : Bool := decide (1 ≤ n) && (decide (n ≤ 10) && batB F T G n)
/-- Whether a command is right. -/
def cmdB (K : Int) (n : Nat) (F T G : Nat → Int) (a b : Int) : Bool :=
  if K = 1 then decide (n = 0) && (decide (a = 0) && decide (b = 0))
  else if K = 2 then batchB F T G n && (decide (a = 0) && decide (b = 0))
  else if K = 3 then decide (n = 0) && (inB a 0 23 && inB b 0 23)
  else false
theorem batB_no {F T G : Nat → Int} : ∀ {n k : Nat}, k < n → arcB (F k) (T k) (G k) 24 = false → batB F T G n = false
  | 0, k, h, _ => by omega
  | n + 1, k, h, hb => by
    unfold batB
    by_cases e : k = n
    · subst e; rw [hb]; simp
    · rw [batB_no (n := n) (k := k) (by omega) hb]; simp


end Go.Proofs.YtcmeppjfjledfacDoor

/-
  A command out of its text, plainly: the document's reading and the program's are one.
-/
set_option linter.unusedVariables false
set_option linter.unusedSimpArgs false
namespace Go.Proofs.YtcmeppjfjledfacDoor

def isL (c : UInt8) : Bool := decide (97 ≤ c.toNat) && decide (c.toNat ≤ 122)
def at3 (ns : List Int) (j k : Nat) : Int := ns.getD (3 * k + j) 0
def txNone : List UInt8 := [110, 111, 110, 101]
def txAsk : List UInt8 := [97, 115, 107]
def txWeigh : List UInt8 := [119, 101, 105, 103, 104]
/-- Is a command of this kind with these numbers right? -/
def okC (K : Int) (ns : List Int) : Bool :=
  if K = 1 then true else if K = 2 then cmdB 2 (ns.length / 3) (at3 ns 0) (at3 ns 1) (at3 ns 2) 0 0 else cmdB 3 0 (at3 ns 0) (at3 ns 0) (at3 ns 0) (ns.getD 0 0) (ns.getD 1 0)
/-- The document's reading, ahead of the question whether it is right. -/
def rdS (l : List UInt8) : Option (Int × List Int) :=
  if l = txNone then some (1, []) else
  if 4 < l.length ∧ l.take 4 = txAsk ++ [32] then (match snums (l.drop 4) [] [] with | some ns => if ns.length = 2 then some (3, ns) else none | none => none) else
  if 6 < l.length ∧ l.take 6 = txWeigh ++ [32] then (match snums (l.drop 6) [] [] with | some ns => if ns.length % 3 = 0 then some (2, ns) else none | none => none) else none
/-- The program's name and numbers. -/
def wds (l : List UInt8) : Option (List UInt8 × List Int) :=
  match l.dropWhile isL with
  | [] => some (l, [])
  | c :: t => if c = 32 then (inums t (.ahead [])).map (fun ns => (l.takeWhile isL, ns)) else none
def cmdOf (nm : List UInt8) (ns : List Int) : Option (Int × List Int) :=
  if nm = txNone then (if ns.length = 0 then some (1, []) else none) else
  if nm = txWeigh then (if ns.length % 3 = 0 then some (2, ns) else none) else
  if nm = txAsk then (if ns.length = 2 then some (3, ns) else none) else none
def rdI (l : List UInt8) : Option (Int × List Int) := match wds l with | some (nm, ns) => cmdOf nm ns | none => none
def onlyOk (r : Option (Int × List Int)) : Option (Int × List Int) := match r with | some (K, ns) => if okC K ns = true then some (K, ns) else none | none => none

theorem inB_iff {x lo hi : Int} : inB x lo hi = true ↔ lo ≤ x ∧ x ≤ hi := by simp [inB]
theorem arcB_iff {f t g p : Int} : arcB f t g p = true ↔ (0 ≤ f ∧ f ≤ p - 1) ∧ (0 ≤ t ∧ t ≤ p - 1) ∧ f ≠ t ∧ 1 ≤ g ∧ g ≤ 1000000 := by simp [arcB, inB]
theorem batB_at {F T G : Nat → Int} : ∀ {n k : Nat}, batB F T G n = true → k < n → arcB (F k) (T k) (G k) 24 = true
  | 0, k, _, h => by omega
  | n + 1, k, hb, h => by
    unfold batB at hb
    rw [Bool.and_eq_true] at hb
    by_cases e : k = n
    · subst e; exact hb.2
    · exact batB_at hb.1 (by omega)
theorem fine3 {ns : List Int} (hl : ns.length = 2) (h : okC 3 ns = true) : Fine 0 ns := by
  match ns, hl with
  | [a, b], _ =>
    simp [okC, cmdB, inB_iff] at h
    exact ⟨by simp; omega, by simp⟩
theorem fine2 {ns : List Int} (hl : ns.length % 3 = 0) (h : okC 2 ns = true) : Fine 0 ns := by
  simp [okC, cmdB, batchB] at h
  obtain ⟨h1, h2, h3⟩ := h
  refine ⟨fun x hx => ?_, by omega⟩
  simp at hx
  obtain ⟨i, hi, rfl⟩ := List.getElem_of_mem hx
  have hb := arcB_iff.1 (batB_at (k := i / 3) h3 (by omega))
  have hg : ∀ j, 3 * (i / 3) + j = i → at3 ns j (i / 3) = ns[i] := fun j e => by
    unfold at3
    rw [e]
    simp [List.getD, hi]
  have hm : i % 3 = 0 ∨ i % 3 = 1 ∨ i % 3 = 2 := by omega
  rcases hm with hm | hm | hm
  · rw [← hg 0 (by omega)]; omega
  · rw [← hg 1 (by omega)]; omega
  · rw [← hg 2 (by omega)]; omega
theorem drop_split (l : List UInt8) : l = l.takeWhile isL ++ l.dropWhile isL := (List.takeWhile_append_dropWhile).symm
theorem take_ask {l : List UInt8} (h : l.take 4 = txAsk ++ [32]) : l.takeWhile isL = txAsk ∧ l.dropWhile isL = 32 :: l.drop 4 := by
  match l, h with
  | a :: b :: c :: d :: t, h =>
    simp [txAsk] at h
    obtain ⟨rfl, rfl, rfl, rfl⟩ := h
    exact ⟨rfl, rfl⟩
  | [a, b, c], h => simp [txAsk] at h
  | [a, b], h => simp [txAsk] at h
  | [a], h => simp [txAsk] at h
  | [], h => simp [txAsk] at h
theorem take_weigh {l : List UInt8} (h : l.take 6 = txWeigh ++ [32]) : l.takeWhile isL = txWeigh ∧ l.dropWhile isL = 32 :: l.drop 6 := by
  match l, h with
  | a :: b :: c :: d :: e :: f :: t, h =>
    simp [txWeigh] at h
    obtain ⟨rfl, rfl, rfl, rfl, rfl, rfl⟩ := h
    exact ⟨rfl, rfl⟩
  | [a, b, c, d, e], h => simp [txWeigh] at h
  | [a, b, c, d], h => simp [txWeigh] at h
  | [a, b, c], h => simp [txWeigh] at h
  | [a, b], h => simp [txWeigh] at h
  | [a], h => simp [txWeigh] at h
  | [], h => simp [txWeigh] at h
theorem none_drop : txNone.dropWhile isL = [] ∧ txNone.takeWhile isL = txNone := by decide
theorem nums_zero {t : List UInt8} {ns : List Int} : inums t (.ahead []) = some ns ↔ snums t [] [] = some ns ∧ Fine 0 ns := (nums_same t).1 [] ns (by simp)
theorem snums_nil : snums [] [] [] = none := by simp [snums, num1_nil]
/-- One kind's numbers, read either way. -/
theorem only_kind {t : List UInt8} {K : Int} {C : List Int → Prop} [DecidablePred C] (hf : ∀ ns, C ns → okC K ns = true → Fine 0 ns) :
    onlyOk (match inums t (.ahead []) with | some ns => if C ns then some (K, ns) else none | none => none) = onlyOk (match snums t [] [] with | some ns => if C ns then some (K, ns) else none | none => none) := by
  cases hs : snums t [] [] with
  | none =>
    have hi : inums t (.ahead []) = none := by
      cases hi : inums t (.ahead []) with
      | none => rfl
      | some ns => have := (nums_zero.1 hi).1; rw [hs] at this; cases this
    rw [hi]
  | some ns =>
    by_cases hF : Fine 0 ns
    · rw [nums_zero.2 ⟨hs, hF⟩]
    · have hi : inums t (.ahead []) = none := by
        cases hi : inums t (.ahead []) with
        | none => rfl
        | some ns' =>
          have := nums_zero.1 hi
          rw [hs] at this
          obtain ⟨e, hF'⟩ := this
          cases e
          exact absurd hF' hF
      rw [hi]
      by_cases hC : C ns
      · have hk : okC K ns = false := by
          cases hk : okC K ns with
          | false => rfl
          | true => exact absurd (hf ns hC hk) hF
        simp [onlyOk, hC, hk]
      · simp [onlyOk, hC]
theorem read_same (l : List UInt8) : onlyOk (rdI l) = onlyOk (rdS l) := by
  by_cases h1 : l = txNone
  · subst h1
    have e1 : rdI txNone = some (1, []) := by decide
    have e2 : rdS txNone = some (1, []) := by simp [rdS]
    rw [e1, e2]
  by_cases h2 : l.take 4 = txAsk ++ [32]
  · obtain ⟨hn, hd⟩ := take_ask h2
    have e1 : rdI l = match inums (l.drop 4) (.ahead []) with | some ns => if ns.length = 2 then some (3, ns) else none | none => none := by
      unfold rdI wds
      rw [hd, hn]
      simp only [if_pos]
      cases inums (l.drop 4) (.ahead []) with
      | none => rfl
      | some ns => simp [cmdOf, txAsk, txNone, txWeigh]
    rw [e1, only_kind (fun ns hC hk => fine3 hC hk)]
    by_cases h4 : 4 < l.length
    · unfold rdS
      rw [if_neg h1, if_pos ⟨h4, h2⟩]
    · have hdr : l.drop 4 = [] := List.drop_eq_nil_of_le (by omega)
      have h6 : ¬ 6 < l.length := by omega
      unfold rdS
      rw [if_neg h1, if_neg (fun e => h4 e.1), if_neg (fun e => h6 e.1), hdr, snums_nil]
  by_cases h3 : l.take 6 = txWeigh ++ [32]
  · obtain ⟨hn, hd⟩ := take_weigh h3
    have e1 : rdI l = match inums (l.drop 6) (.ahead []) with | some ns => if ns.length % 3 = 0 then some (2, ns) else none | none => none := by
      unfold rdI wds
      rw [hd, hn]
      simp only [if_pos]
      cases inums (l.drop 6) (.ahead []) with
      | none => rfl
      | some ns => simp [cmdOf, txAsk, txNone, txWeigh]
    rw [e1, only_kind (fun ns hC hk => fine2 hC hk)]
    by_cases h6 : 6 < l.length
    · unfold rdS
      rw [if_neg h1, if_neg (fun e => h2 e.2), if_pos ⟨h6, h3⟩]
    · have hdr : l.drop 6 = [] := List.drop_eq_nil_of_le (by omega)
      unfold rdS
      rw [if_neg h1, if_neg (fun e => h2 e.2), if_neg (fun e => h6 e.1), hdr, snums_nil]
  have e2 : rdS l = none := by
    unfold rdS
    rw [if_neg h1, if_neg (fun e => h2 e.2), if_neg (fun e => h3 e.2)]
  rw [e2]
  have hsp := drop_split l
  unfold rdI wds
  cases hd : l.dropWhile isL with
  | nil =>
    simp only []
    unfold cmdOf
    rw [if_neg h1]
    by_cases hw : l = txWeigh
    · subst hw
      simp [onlyOk, okC, cmdB, batchB]
    · rw [if_neg hw]
      by_cases ha : l = txAsk
      · rw [if_pos ha]; simp [onlyOk]
      · rw [if_neg ha]
  | cons c t =>
    simp only []
    by_cases hc : c = 32
    · rw [if_pos hc]
      subst hc
      rw [hd] at hsp
      cases hi : inums t (.ahead []) with
      | none => rfl
      | some ns =>
        simp only [Option.map_some]
        unfold cmdOf
        by_cases ha : l.takeWhile isL = txAsk
        · exact absurd (by rw [hsp, ha]; simp [txAsk]) h2
        by_cases hw : l.takeWhile isL = txWeigh
        · exact absurd (by rw [hsp, hw]; simp [txWeigh]) h3
        rw [if_neg hw, if_neg ha]
        by_cases hno : l.takeWhile isL = txNone
        · rw [if_pos hno]
          by_cases h0 : ns.length = 0
          · have : ns = [] := List.length_eq_zero_iff.1 h0
            subst this
            have hs := (nums_zero.1 hi).1
            exfalso
            have hlong : ∀ (l cur : List UInt8), snums l [] cur ≠ some [] := by
              intro l
              induction l with
              | nil => intro cur; simp [snums]
              | cons d u ih =>
                intro cur
                unfold snums
                split
                · cases hn : num1 cur with
                  | none => simp
                  | some n =>
                    simp only []
                    intro h
                    have := (snums_pre u ([] ++ [n]) [] [] h).length_le
                    simp at this
                · exact ih _
            exact hlong _ _ hs
          · rw [if_neg h0]
        · rw [if_neg hno]
    · rw [if_neg hc]

end Go.Proofs.YtcmeppjfjledfacDoor

/-
  What every law's shell asks of the program as a whole, and the size of a number.
-/
set_option linter.unusedVariables false
set_option linter.unusedSimpArgs false
namespace Go.Proofs.YtcmeppjfjledfacDoor
open Go.ChangeShapes Go.WideShapes Go.ChangeAt Go.RowKit Go.Deep Go.Joins

theorem Tryd.own : ownKnob Tryd.prog.godebug = none := by kernel_rfl
theorem Tryd.laidOut : laidOutB Tryd.prog = true := by kernel_rfl
theorem Tryd.cellsInt : Tryd.prog.cellsOf 2 = 1 := by kernel_rfl

theorem gr_setCell (w : World) (b o : Nat) (v : Value) : w.grownBy (w.setCell ⟨b, o, none⟩ v) (some b) :=
  ⟨rfl, rfl, rfl, by simp [World.setCell], fun k _ hne => Below.heap_setCell _ _ _ _ (fun e => hne (by rw [e]))⟩
theorem gr_below {w w' : World} {b B : Nat} (h : w.grownBy w' (some b)) (hb : B ≤ b) (hB : B ≤ w.heap.size) : Below B w w' :=
  ⟨h.os, h.tape, h.output, h.size, fun k hk => h.block k (by omega) (fun e => by simp at e; omega)⟩

end Go.Proofs.YtcmeppjfjledfacDoor

/-
  The first rune of a text and what is behind it; whether a rune is a digit.
-/
set_option linter.unusedVariables false
set_option linter.unusedSimpArgs false
namespace Go.Proofs.YtcmeppjfjledfacDoor
open Go.RowKit
attribute [local go_sem ↓] Go.wp_at_zero Go.wp_at_succ

/-- What a text is cut into: nothing; a sign of one byte; another one, which is none of those that are asked for. -/
def Cut (l : List UInt8) (r : Int) (l' : List UInt8) : Prop :=
  match l with
  | [] => r = -1 ∧ l' = []
  | c :: t => l'.length ≤ t.length ∧ ((c.toNat < 128 ∧ r = (c.toNat : Int) ∧ l' = t) ∨ (128 ≤ c.toNat ∧ 128 ≤ r ∧ r ≤ 2147483647))
theorem Cut.bd {l l' : List UInt8} {r : Int} (h : Cut l r l') : -1 ≤ r ∧ r ≤ 2147483647 := by
  cases l with
  | nil => simp [Cut] at h; omega
  | cons c t =>
    obtain ⟨_, h | h⟩ := h
    · omega
    · omega
theorem Cut.len {l l' : List UInt8} {r : Int} (h : Cut l r l') : l'.length ≤ l.length ∧ (0 ≤ r → l'.length < l.length) := by
  cases l with
  | nil => simp [Cut] at h; simp [h]
  | cons c t =>
    have := h.1
    simp; omega
theorem width_pos (s : ByteArray) (pos : Nat) (h : pos < s.size) : 1 ≤ (Utf8.decode s pos).2 := by
  by_cases ha : (s[pos]'h).toNat < 128
  · rw [decode_ascii s pos h ha]
    exact Nat.le_refl _
  · exact (decode_high s pos h (by omega)).2
theorem iter_below (w : World) (s : ByteArray) (pos : Nat) : Below w.heap.size w (w.iter s pos) := (Below.refl _ _).alloc (Nat.le_refl _) _
theorem below_dn {B : Nat} {a w : World} (h : Below B a w) (n : Nat) : Below B a (w.drewN n) := ⟨h.os, h.tape, h.output, h.size, h.block⟩
theorem list_of (s : ByteArray) (h : 0 < s.size) : s.data.toList = s[0] :: s.data.toList.tail := by
  have h' : 0 < s.data.toList.length := by simpa using h
  have e : s[0] = s.data.toList[0] := by simp; rfl
  rw [e]
  exact (fun (l : List UInt8) (h : 0 < l.length) => show l = l[0] :: l.tail from by
    cases l with
    | nil => simp at h
    | cons c t => simp) s.data.toList h'
theorem cut_of (s : ByteArray) (h : 0 < s.size) (l' : List UInt8) (h1 : l' = s.data.toList.drop (Utf8.decode s 0).2) : Cut s.data.toList ((Utf8.decode s 0).1 : Int) l' := by
  have hw := width_pos s 0 h
  rw [list_of s h] at h1 ⊢
  have hlen : s.data.toList.tail.length = s.size - 1 := by simp
  by_cases ha : (s[0]'h).toNat < 128
  · rw [decode_ascii s 0 h ha] at h1 ⊢
    simp at h1
    subst h1
    exact ⟨Nat.le_refl _, .inl ⟨ha, rfl, rfl⟩⟩
  · have hd := decode_high s 0 h (by omega)
    have hle := decode_le s 0
    refine ⟨?_, .inr ⟨by omega, by omega, by omega⟩⟩
    rw [h1, List.length_drop]
    simp only [List.length_cons]
    omega
theorem drop_extract (s : ByteArray) (k : Nat) : (s.extract k s.size).data.toList = s.data.toList.drop k := by
  simp [ByteArray.data_extract]
  exact List.take_of_length_le (by simp)

set_option maxHeartbeats 1000000 in
set_option maxRecDepth 20000 in
theorem cutRune_any (s : ByteArray) (hs : s.size ≤ 1048576) (w : World) :
    Calls Tryd.prog 65 #[.string s] w fun e w' => ∃ (r : Int) (t : ByteArray), e = .returned (.tuple #[.int .i32 r, .string t]) ∧ Cut s.data.toList r t.data.toList ∧ Below w.heap.size w w' := by
  go_enter Tryd.func65, Tryd.ntmps65
  go_wp2
  go_loopw [4] (fun f w' => ∃ pos : Nat, w' = w.iter s pos ∧ ((pos = 0 ∧ f = .int .i32 (-1)) ∨ (0 < s.size ∧ pos = (Utf8.decode s 0).2 ∧ f = .int .i32 (Utf8.decode s 0).1))) (fun _ w' => s.size - w'.iterPos w.heap.size)
  case atStart => exact ⟨0, rfl, .inl ⟨rfl, rfl⟩⟩
  case round =>
    obtain ⟨pos, rfl, h⟩ := hrel
    by_cases hp : pos < s.size
    · have hnx : ∀ ty, (Instr.next (.pointer (some ⟨w.heap.size, 0, none⟩)) true ty).run Tryd.prog (w.iter s pos) = _ := fun ty => run_next_any w s pos ty hp
      have hwd := width_pos s pos hp
      rcases h with ⟨rfl, rfl⟩ | ⟨h0, rfl, rfl⟩
      · go_wp2
        go_roundw
        case rel => exact ⟨(Utf8.decode s 0).2, by simp, .inr ⟨hp, rfl, rfl⟩⟩
        case measure => simp; omega
      · have hw0 := width_pos s 0 h0
        have hpos : (0 : Int) < ((Utf8.decode s 0).2 : Int) := by omega
        go_wp2
        go_quiet (fail)
        go_wp2
        go_ret2
        exact ⟨_, _, rfl, cut_of s h0 _ (drop_extract s _), below_dn (iter_below _ _ _) _⟩
    · have hnx : ∀ ty, (Instr.next (.pointer (some ⟨w.heap.size, 0, none⟩)) true ty).run Tryd.prog (w.iter s pos) = _ := fun ty => run_next_end w s pos ty hp
      rcases h with ⟨rfl, rfl⟩ | ⟨h0, rfl, rfl⟩
      · have hsz : s.size = 0 := by omega
        have hl : s.data.toList = [] := List.eq_nil_of_length_eq_zero (by simpa using hsz)
        go_wp2
        go_ret2
        exact ⟨_, _, rfl, by rw [hl]; exact ⟨rfl, rfl⟩, iter_below _ _ _⟩
      · go_wp2
        go_ret2
        exact ⟨_, _, rfl, cut_of s h0 _ (by rw [List.drop_eq_nil_of_le (by simp; omega)]), iter_below _ _ _⟩

def digB (r : Int) : Bool := decide (48 ≤ r) && decide (r ≤ 57)
theorem isDigit_any (r : Int) (w : World) :
    Calls Tryd.prog 66 #[.int .i32 r] w fun e w' => e = .returned (.bool (digB r)) ∧ w' = w := by
  by_cases h1 : 48 ≤ r <;> by_cases h2 : r ≤ 57 <;>
  · go_enter Tryd.func66, Tryd.ntmps66
    go_wp2
    go_ret
    exact ⟨by simp [digB, h1, h2], rfl⟩

end Go.Proofs.YtcmeppjfjledfacDoor

/-
  Where the reading of a name stands, and what comes of the sign behind it.
-/
set_option linter.unusedVariables false
set_option linter.unusedSimpArgs false
namespace Go.Proofs.YtcmeppjfjledfacDoor

/-- So far there were letters alone. -/
def NameAt (l rest : List UInt8) : Prop := ∃ pre, l = pre ++ rest ∧ pre.all isL = true
theorem drop_pre {pre rest : List UInt8} (h : pre.all isL = true) (hr : ∀ c t, rest = c :: t → isL c = false) : (pre ++ rest).dropWhile isL = rest ∧ (pre ++ rest).takeWhile isL = pre := by
  induction pre with
  | nil =>
    cases rest with
    | nil => exact ⟨rfl, rfl⟩
    | cons c t => simp [hr c t rfl]
  | cons d u ih =>
    simp at h
    obtain ⟨h1, h2⟩ := ih (by simpa using h.2)
    simp [h.1, h1, h2]
theorem isL_iff {c : UInt8} : isL c = true ↔ 97 ≤ (c.toNat : Int) ∧ (c.toNat : Int) ≤ 122 := by simp [isL]; omega
theorem name_letter {l rest rest' : List UInt8} {r : Int} (h : NameAt l rest) (hc : Cut rest r rest') (h1 : 97 ≤ r) (h2 : r ≤ 122) : NameAt l rest' := by
  obtain ⟨pre, e, hp⟩ := h
  cases rest with
  | nil => simp [Cut] at hc; omega
  | cons c t =>
    rcases hc.2 with ⟨g1, g2, g3⟩ | ⟨g1, g2, _⟩
    · subst g3
      exact ⟨pre ++ [c], by rw [e]; simp, by rw [List.all_append, hp]; simp; exact isL_iff.2 (by omega)⟩
    · omega
theorem name_end {l rest rest' : List UInt8} (h : NameAt l rest) (hc : Cut rest (-1) rest') : wds l = some (l, []) := by
  obtain ⟨pre, e, hp⟩ := h
  cases rest with
  | nil =>
    have := drop_pre (rest := []) hp (fun c t h => by cases h)
    rw [← e] at this
    unfold wds
    rw [this.1]
  | cons c t =>
    rcases hc.2 with ⟨g1, g2, g3⟩ | ⟨g1, g2, _⟩
    · omega
    · omega
theorem name_blank {l rest rest' : List UInt8} (h : NameAt l rest) (hc : Cut rest 32 rest') : wds l = (inums rest' (.ahead [])).map (fun ns => (l.take (l.length - rest'.length - 1), ns)) ∧ rest'.length + 1 ≤ l.length := by
  obtain ⟨pre, e, hp⟩ := h
  cases rest with
  | nil => simp [Cut] at hc
  | cons c t =>
    rcases hc.2 with ⟨g1, g2, g3⟩ | ⟨g1, g2, _⟩
    · subst g3
      have h32 : c = 32 := UInt8.toNat_inj.1 (by simp; omega)
      subst h32
      have := drop_pre (rest := 32 :: rest') hp (fun c t h => by cases h; decide)
      rw [← e] at this
      have hl : l.take (l.length - rest'.length - 1) = pre := by
        rw [e]
        have : (pre ++ 32 :: rest').length - rest'.length - 1 = pre.length := by simp; omega
        rw [this]
        simp
      refine ⟨?_, by rw [e]; simp⟩
      rw [hl]
      unfold wds
      rw [this.1, this.2]
      simp
    · omega
theorem name_other {l rest rest' : List UInt8} {r : Int} (h : NameAt l rest) (hc : Cut rest r rest') (h1 : ¬ (97 ≤ r ∧ r ≤ 122)) (h2 : r ≠ 32) (h3 : r ≠ -1) : wds l = none := by
  obtain ⟨pre, e, hp⟩ := h
  cases rest with
  | nil => simp [Cut] at hc; omega
  | cons c t =>
    have hl : isL c = false := by
      cases hl : isL c with
      | false => rfl
      | true =>
        have := isL_iff.1 hl
        rcases hc.2 with ⟨g1, g2, g3⟩ | ⟨g1, g2, _⟩
        · omega
        · omega
    have h32 : c ≠ 32 := by
      rintro rfl
      rcases hc.2 with ⟨g1, g2, g3⟩ | ⟨g1, g2, _⟩
      · simp at g2; omega
      · simp at g1
    have := drop_pre (rest := c :: t) hp (fun d u h => by cases h; exact hl)
    rw [← e] at this
    unfold wds
    rw [this.1]
    simp [h32]
/-- Ahead of a number. -/
theorem ahead_cut {rest rest' : List UInt8} {r : Int} {out : List Int} (hc : Cut rest r rest') (ho : out.length ≠ 30) :
    (r = 48 → inums rest (.ahead out) = inums rest' (.behind (out ++ [0]))) ∧ (49 ≤ r ∧ r ≤ 57 → inums rest (.ahead out) = inums rest' (.within (r - 48) out)) ∧ (¬ (48 ≤ r ∧ r ≤ 57) → inums rest (.ahead out) = none) := by
  cases rest with
  | nil =>
    simp [Cut] at hc
    exact ⟨fun h => by omega, fun h => by omega, fun _ => rfl⟩
  | cons c t =>
    have hi : inums (c :: t) (.ahead out) = if c = 48 then inums t (.behind (out ++ [0])) else if isD c = true then inums t (.within (dg c) out) else none := by simp [inums, ho]
    rw [hi]
    rcases hc.2 with ⟨g1, g2, g3⟩ | ⟨g1, g2, _⟩
    · subst g3
      refine ⟨fun h => ?_, fun h => ?_, fun h => ?_⟩
      · have : c = 48 := UInt8.toNat_inj.1 (by simp; omega)
        simp [this]
      · have h48 : c ≠ 48 := fun e => by rw [e] at g2; simp at g2; omega
        have hd : isD c = true := by simp [isD]; omega
        have hg : dg c = r - 48 := by unfold dg; omega
        simp [h48, hd, hg]
      · have h48 : c ≠ 48 := fun e => by rw [e] at g2; simp at g2; omega
        have hd : isD c = false := by simp [isD]; omega
        simp [h48, hd]
    · have h48 : c ≠ 48 := fun e => by rw [e] at g1; simp at g1
      have hd : isD c = false := by simp [isD]; omega
      exact ⟨fun h => by omega, fun h => by omega, fun h => by simp [h48, hd]⟩
/-- Behind a number. -/
def bhd (r : Int) (rest : List UInt8) (out : List Int) : Option (List Int) := if r = 32 then inums rest (.ahead out) else if r = -1 then some out else none
theorem behind_cut {rest rest' : List UInt8} {r : Int} {out : List Int} (hc : Cut rest r rest') : inums rest (.behind out) = bhd r rest' out := by
  unfold bhd
  cases rest with
  | nil =>
    simp [Cut] at hc
    simp [hc, inums]
  | cons c t =>
    rcases hc.2 with ⟨g1, g2, g3⟩ | ⟨g1, g2, _⟩
    · subst g3
      by_cases h : c = 32
      · subst h
        have : r = 32 := by simpa using g2
        simp [inums, this]
      · have h32 : r ≠ 32 := fun e => h (UInt8.toNat_inj.1 (by simp; omega))
        have h1 : r ≠ -1 := by omega
        simp [inums, h, h32, h1]
    · have h : c ≠ 32 := fun e => by rw [e] at g1; simp at g1
      have h32 : r ≠ 32 := by omega
      have h1 : r ≠ -1 := by omega
      simp [inums, h, h32, h1]
theorem within_cut {rest rest' : List UInt8} {r n : Int} {out : List Int} (hc : Cut rest r rest') :
    (48 ≤ r ∧ r ≤ 57 → inums rest (.within n out) = if 999999999 < 10 * n + (r - 48) then none else inums rest' (.within (10 * n + (r - 48)) out)) ∧ (¬ (48 ≤ r ∧ r ≤ 57) → inums rest (.within n out) = bhd r rest' (out ++ [n])) := by
  unfold bhd
  cases rest with
  | nil =>
    simp [Cut] at hc
    exact ⟨fun h => by omega, fun h => by simp [hc, inums]⟩
  | cons c t =>
    rcases hc.2 with ⟨g1, g2, g3⟩ | ⟨g1, g2, _⟩
    · subst g3
      refine ⟨fun h => ?_, fun h => ?_⟩
      · have hd : isD c = true := by simp [isD]; omega
        have hg : dg c = r - 48 := by unfold dg; omega
        simp [inums, hd, hg]
      · have hd : isD c = false := by simp [isD]; omega
        by_cases h3 : c = 32
        · subst h3
          have : r = 32 := by simpa using g2
          simp [inums, hd, this]
        · have h32 : r ≠ 32 := fun e => h3 (UInt8.toNat_inj.1 (by simp; omega))
          have h1 : r ≠ -1 := by omega
          simp [inums, hd, h3, h32, h1]
    · have hd : isD c = false := by simp [isD]; omega
      have h3 : c ≠ 32 := fun e => by rw [e] at g1; simp at g1
      have h32 : r ≠ 32 := by omega
      have h1 : r ≠ -1 := by omega
      exact ⟨fun h => by omega, fun h => by simp [inums, hd, h3, h32, h1]⟩

end Go.Proofs.YtcmeppjfjledfacDoor

/-
  A scope in which the run jumps to several labels: what holds at each label's jumps, and a measure that each pass from a label lowers.
-/
set_option linter.unusedVariables false
set_option linter.unusedSimpArgs false
namespace Go.Proofs.YtcmeppjfjledfacDoor
open Go

/-- As Q; by a goto to label l: J l. -/
def jumps (J : Nat → Act → World → Prop) (Q : Exit → Act → World → Prop) : Exit → Act → World → Prop
  | .goto l, a, w => J l a w
  | e, a, w => Q e a w
section
variable {P : Program} {a : Act} {w : World} {Q : Exit → Act → World → Prop}
theorem jumps_normal (J : Nat → Act → World → Prop) : jumps J Q .normal a w = Q .normal a w := rfl
theorem jumps_exit (J : Nat → Act → World → Prop) (id : Nat) : jumps J Q (.exit id) a w = Q (.exit id) a w := rfl
theorem jumps_ret (J : Nat → Act → World → Prop) : jumps J Q .ret a w = Q .ret a w := rfl
theorem jumps_goto (J : Nat → Act → World → Prop) (l : Nat) : jumps J Q (.goto l) a w = J l a w := rfl
theorem wp_mono' {c : Code} {Q' : Exit → Act → World → Prop} (h : ∀ e a w, Q e a w → Q' e a w) (hc : c.wp P Q a w) : c.wp P Q' a w := fun b k cs =>
  let ⟨e, a₁, w₁, hq, harr⟩ := hc b k cs
  ⟨e, a₁, w₁, h _ _ _ hq, harr⟩
theorem jumps_mono {J J' : Nat → Act → World → Prop} (h : ∀ l a w, J l a w → J' l a w) : ∀ e a w, jumps J Q e a w → jumps J' Q e a w
  | .goto l, a, w, hq => h l a w hq
  | .normal, _, _, hq => hq
  | .exit _, _, _, hq => hq
  | .ret, _, _, hq => hq
  | .panic _, _, _, hq => hq
  | .outgrown, _, _, hq => hq
theorem wp_scope_many {c : Code} (J : Nat → Act → World → Prop) (μ : Nat → Act → World → Nat) (R : Nat → Code) (hf : ∀ l a w, J l a w → findLabel c l = some (R l))
    (first : c.wp P (jumps J Q) a w)
    (pass : ∀ l a w, J l a w → (R l).wp P (jumps (fun l' a' w' => J l' a' w' ∧ μ l' a' w' < μ l a w) Q) a w) : (Code.scope c).wp P Q a w := by
  intro b k cs
  have hg : ∀ l, findLabel c l = some (R l) → gotoIn l (.inScope c :: k) = some (.code (R l) :: .inScope c :: k) := fun l hf => by simp [gotoIn, hf]
  have key : ∀ n l a w, μ l a w = n → J l a w → ∃ e a' w', Q e a' w' ∧ Arrives P (lone (b.at a (.code (R l) :: .inScope c :: k)) cs w) b k cs e a' w' := by
    intro n
    induction n using Nat.strongRecOn with
    | _ n ih =>
      intro l a w hn hJ
      obtain ⟨e, a₁, w₁, hq, harr⟩ := pass l a w hJ b (.inScope c :: k) cs
      cases e with
      | normal => exact ⟨.normal, a₁, w₁, hq, Steps.trans harr (.one step_inScope)⟩
      | exit id => exact ⟨.exit id, a₁, w₁, hq, fun k' hk => harr k' (by simp [exitTo, hk])⟩
      | goto l' =>
        obtain ⟨hJ', hlt⟩ := hq
        obtain ⟨e₂, a₂, w₂, hq₂, harr₂⟩ := ih _ (by omega) l' a₁ w₁ rfl hJ'
        exact ⟨e₂, a₂, w₂, hq₂, .of_steps (harr _ (hg l' (hf l' a₁ w₁ hJ'))) harr₂⟩
      | ret => exact ⟨_, a₁, w₁, hq, harr⟩
      | panic ch => exact ⟨_, a₁, w₁, hq, harr⟩
      | outgrown => exact ⟨_, a₁, w₁, hq, harr⟩
  obtain ⟨e, a₁, w₁, hq, harr⟩ := first b (.inScope c :: k) cs
  cases e with
  | normal => exact ⟨.normal, a₁, w₁, hq, .head step_scope (Steps.trans harr (.one step_inScope))⟩
  | exit id => exact ⟨.exit id, a₁, w₁, hq, fun k' hk => .head step_scope (harr k' (by simp [exitTo, hk]))⟩
  | goto l' =>
    have hJ' : J l' a₁ w₁ := hq
    obtain ⟨e₂, a₂, w₂, hq₂, harr₂⟩ := key _ l' a₁ w₁ rfl hJ'
    exact ⟨e₂, a₂, w₂, hq₂, .of_steps (.head step_scope (harr _ (hg l' (hf l' a₁ w₁ hJ')))) harr₂⟩
  | ret => exact ⟨_, a₁, w₁, hq, .of_steps (.one step_scope) harr⟩
  | panic ch => exact ⟨_, a₁, w₁, hq, .of_steps (.one step_scope) harr⟩
  | outgrown => exact ⟨_, a₁, w₁, hq, .of_steps (.one step_scope) harr⟩
/-- Five labels' facts in one. -/
def lab5 (J0 J1 J2 J3 J4 : Act → World → Prop) : Nat → Act → World → Prop
  | 0 => J0
  | 1 => J1
  | 2 => J2
  | 3 => J3
  | 4 => J4
  | _ => fun _ _ => False
def cod5 (R0 R1 R2 R3 R4 : Code) : Nat → Code
  | 0 => R0
  | 1 => R1
  | 2 => R2
  | 3 => R3
  | _ => R4
/-- What a pass from a label owes: a fact at each jump, and a lower measure. -/
def owes (J : Nat → Act → World → Prop) (μ : Nat → Act → World → Nat) (n : Nat) (l' : Nat) (a' : Act) (w' : World) : Prop := J l' a' w' ∧ μ l' a' w' < n
theorem owes_mono {J : Nat → Act → World → Prop} {μ : Nat → Act → World → Nat} {n m : Nat} (h : n ≤ m) : ∀ l a w, owes J μ n l a w → owes J μ m l a w := fun _ _ _ ⟨h1, h2⟩ => ⟨h1, Nat.lt_of_lt_of_le h2 h⟩
theorem pass_on {c : Code} {J : Nat → Act → World → Prop} {μ : Nat → Act → World → Nat} {n m : Nat} (h : n ≤ m) (hc : c.wp P (jumps (owes J μ n) Q) a w) : c.wp P (jumps (owes J μ m) Q) a w := wp_mono' (jumps_mono (owes_mono h)) hc
theorem pass_in {c : Code} {J : Nat → Act → World → Prop} {μ : Nat → Act → World → Nat} {n : Nat} (hc : c.wp P (jumps (owes J μ n) Q) a w) : c.wp P (jumps J Q) a w := wp_mono' (jumps_mono (fun _ _ _ h => h.1)) hc
/-- A scope of five labels: 2 is the last in the text, ahead of it 3, 4, 1, 0: each pass may go on into the next one's text. -/
theorem wp_scope5 {c R0 R1 R2 R3 R4 : Code} (f0 : findLabel c 0 = some (Code.skip.seq R0)) (f1 : findLabel c 1 = some (Code.skip.seq R1)) (f2 : findLabel c 2 = some (Code.skip.seq R2)) (f3 : findLabel c 3 = some (Code.skip.seq R3)) (f4 : findLabel c 4 = some (Code.skip.seq R4))
    (J0 J1 J2 J3 J4 : Act → World → Prop) (μ : Nat → Act → World → Nat)
    (p2 : ∀ a w, J2 a w → R2.wp P (jumps (owes (lab5 J0 J1 J2 J3 J4) μ (μ 2 a w)) Q) a w)
    (p3 : (∀ a w, J2 a w → R2.wp P (jumps (owes (lab5 J0 J1 J2 J3 J4) μ (μ 2 a w)) Q) a w) → ∀ a w, J3 a w → R3.wp P (jumps (owes (lab5 J0 J1 J2 J3 J4) μ (μ 3 a w)) Q) a w)
    (p4 : (∀ a w, J3 a w → R3.wp P (jumps (owes (lab5 J0 J1 J2 J3 J4) μ (μ 3 a w)) Q) a w) → ∀ a w, J4 a w → R4.wp P (jumps (owes (lab5 J0 J1 J2 J3 J4) μ (μ 4 a w)) Q) a w)
    (p1 : (∀ a w, J4 a w → R4.wp P (jumps (owes (lab5 J0 J1 J2 J3 J4) μ (μ 4 a w)) Q) a w) → ∀ a w, J1 a w → R1.wp P (jumps (owes (lab5 J0 J1 J2 J3 J4) μ (μ 1 a w)) Q) a w)
    (p0 : ∀ a w, J0 a w → R0.wp P (jumps (owes (lab5 J0 J1 J2 J3 J4) μ (μ 0 a w)) Q) a w)
    (first : (∀ a w, J0 a w → R0.wp P (jumps (owes (lab5 J0 J1 J2 J3 J4) μ (μ 0 a w)) Q) a w) → c.wp P (jumps (lab5 J0 J1 J2 J3 J4) Q) a w) : (Code.scope c).wp P Q a w := by
  refine wp_scope_many (lab5 J0 J1 J2 J3 J4) μ (cod5 (Code.skip.seq R0) (Code.skip.seq R1) (Code.skip.seq R2) (Code.skip.seq R3) (Code.skip.seq R4)) (fun l a w h => ?_) (first p0) (fun l a w h => ?_)
  · match l, h with
    | 0, _ => exact f0
    | 1, _ => exact f1
    | 2, _ => exact f2
    | 3, _ => exact f3
    | 4, _ => exact f4
    | _ + 5, h => exact h.elim
  · match l, h with
    | 0, h => exact wp_seq (wp_skip (p0 a w h))
    | 1, h => exact wp_seq (wp_skip (p1 (p4 (p3 p2)) a w h))
    | 2, h => exact wp_seq (wp_skip (p2 a w h))
    | 3, h => exact wp_seq (wp_skip (p3 p2 a w h))
    | 4, h => exact wp_seq (wp_skip (p4 (p3 p2) a w h))
    | _ + 5, h => exact h.elim
end

end Go.Proofs.YtcmeppjfjledfacDoor

/-
  Lists of numbers: read behind an address, of the call's own, copied, held against each other, marked. For every list of at most 2^20 numbers.
-/
set_option linter.unusedVariables false
set_option linter.unusedSimpArgs false
namespace Go.Proofs.YtcmeppjfjledfacDoor
open Go.RowKit
attribute [local go_sem ↓] Go.wp_at_zero Go.wp_at_succ

/-- n numbers lie behind a slice's address. -/
def IRow (w : World) (ao : Option Addr) (n : Nat) (f : Nat → Int) : Prop := ∀ k, k < n → ∃ b o, ao = some ⟨b, o, none⟩ ∧ w.cell? ⟨b, o + k, none⟩ = some (.int .i64 (f k))
theorem IRow.below {w w' : World} {B : Nat} {ao : Option Addr} {n : Nat} {f : Nat → Int} (h : IRow w ao n f) (hb : Below B w w') (hB : w.heap.size ≤ B) : IRow w' ao n f := fun k hk => by
  obtain ⟨b, o, e, c0⟩ := h k hk
  have hlt := lt_of_cell c0
  exact ⟨b, o, e, by rw [hb.cell (by simp; omega)]; exact c0⟩
theorem IRow.alloc {w : World} {ao : Option Addr} {n : Nat} {f : Nat → Int} (h : IRow w ao n f) (o : Obj) : IRow (w.alloc o) ao n f := h.below ((Below.refl w.heap.size w).alloc (Nat.le_refl _) o) (Nat.le_refl _)
theorem IRow.congr {w : World} {ao : Option Addr} {n : Nat} {f g : Nat → Int} (h : IRow w ao n f) (e : ∀ k, k < n → f k = g k) : IRow w ao n g := fun k hk => by
  obtain ⟨b, o, h1, h2⟩ := h k hk
  exact ⟨b, o, h1, by rw [h2, e k hk]⟩

/-- Block b begins with n numbers of the call's own, which may be written. -/
def IHas (w : World) (b n : Nat) (f : Nat → Int) : Prop := ∃ cur : Array Value, w.heap[b]? = some (.cells cur 2 (0, 0)) ∧ n ≤ cur.size ∧ ∀ j, j < n → cur[j]? = some (.int .i64 (f j))
theorem IHas.cell {w : World} {b n : Nat} {f : Nat → Int} (h : IHas w b n f) {j : Nat} (hj : j < n) : w.cell? ⟨b, j, none⟩ = some (.int .i64 (f j)) := by
  obtain ⟨c, hb, _, hc⟩ := h
  simp [World.cell?, hb, hc j hj]
theorem IHas.frozen {w : World} {b n : Nat} {f : Nat → Int} (h : IHas w b n f) (j : Nat) : w.frozen? ⟨b, j, none⟩ = false := by
  obtain ⟨c, hb, _, _⟩ := h
  simp [World.frozen?, hb]
theorem IHas.lt {w : World} {b n : Nat} {f : Nat → Int} (h : IHas w b n f) : b < w.heap.size := by
  obtain ⟨c, hb, _, _⟩ := h
  exact (Array.getElem?_eq_some_iff.1 hb).1
theorem IHas.of_block {w w' : World} {b n : Nat} {f : Nat → Int} (h : IHas w b n f) (e : w'.heap[b]? = w.heap[b]?) : IHas w' b n f := by
  obtain ⟨c, hb, hn, hc⟩ := h
  exact ⟨c, e.trans hb, hn, hc⟩
theorem IHas.congr {w : World} {b n : Nat} {f g : Nat → Int} (h : IHas w b n f) (e : ∀ j, j < n → f j = g j) : IHas w b n g := by
  obtain ⟨c, hb, hn, hc⟩ := h
  exact ⟨c, hb, hn, fun j hj => by rw [hc j hj, e j hj]⟩
theorem IHas.set {w : World} {b n : Nat} {f : Nat → Int} (h : IHas w b n f) (i : Nat) (v : Int) : IHas (w.setCell ⟨b, i, none⟩ (.int .i64 v)) b n (fun j => if j = i then v else f j) := by
  obtain ⟨c, hb, hn, hc⟩ := h
  refine ⟨c.setIfInBounds i (.int .i64 v), ?_, by simpa using hn, fun j hj => ?_⟩
  · simp [World.setCell, Array.getElem?_modify, hb]
  · rw [Array.getElem?_setIfInBounds]
    by_cases e : j = i
    · subst e
      simp; omega
    · rw [if_neg (fun h => e h.symm)]
      show c[j]? = some (.int .i64 (if j = i then v else f j))
      rw [if_neg e]
      exact hc j hj
theorem IHas.row {w : World} {b n : Nat} {f : Nat → Int} (h : IHas w b n f) : IRow w (some ⟨b, 0, none⟩) n f := fun k hk => ⟨b, 0, rfl, by simpa using h.cell hk⟩
theorem IHas.below {w w' : World} {b n B : Nat} {f : Nat → Int} (h : IHas w b n f) (hb : Below B w w') (hB : b < B) : IHas w' b n f := h.of_block (hb.block b hB)
theorem IHas.grown {w w' : World} {b n : Nat} {f : Nat → Int} {row : Option Nat} (h : IHas w b n f) (hg : w.grownBy w' row) (hne : some b ≠ row) : IHas w' b n f := h.of_block (hg.block b h.lt hne)
theorem IHas.of_row {w : World} {b n : Nat} {f : Nat → Int} (h : w.rowIs b 2 n (fun j => .int .i64 (f j))) : IHas w b n f := by
  obtain ⟨c, hb, hn, hc⟩ := h
  exact ⟨c, hb, by omega, hc⟩

theorem Tryd.infoInt : (Tryd.prog.info? 2).map (fun i => (i.zero, i.size, i.bytes)) = some (some (.int .i64 0), 1, 8) := by kernel_rfl
theorem make_ints (n : Nat) (hn : n ≤ 1048576) (w : World) :
    (Instr.makeSlice 55 (.int .i64 (n : Int)) (.int .i64 (n : Int))).run Tryd.prog w = .ok (.slice (some ⟨w.heap.size, 0, none⟩) n n) (w.alloc (.cells (madeCells #[.int .i64 0] n) 2)) :=
  run_make_row' 55 2 _ 8 Tryd.underlying55 Tryd.infoInt rfl .i64 .i64 n (by omega) (by omega) w
theorem made_ints (w : World) (n : Nat) : IHas (w.alloc (.cells (madeCells #[.int .i64 0] n) 2)) w.heap.size n (fun _ => 0) := IHas.of_row (World.rowIs_made w _ n _)





end Go.Proofs.YtcmeppjfjledfacDoor

/-
  Lists of numbers of the call's own that grow by one: the law for the walk.
-/
set_option linter.unusedVariables false
set_option linter.unusedSimpArgs false
namespace Go.Proofs.YtcmeppjfjledfacDoor
open Go.RowKit

def icells (f : Nat → Int) (n : Nat) : List Value := (List.range n).map fun j => .int .i64 (f j)
theorem icells_at {f : Nat → Int} {n j : Nat} (hj : j < n) : (icells f n)[j]? = some (.int .i64 (f j)) := by
  rw [icells, List.getElem?_map, List.getElem?_range hj]; rfl
theorem icells_len (f : Nat → Int) (n : Nat) : (icells f n).length = n := by simp [icells]
theorem icells_congr {f g : Nat → Int} {n : Nat} (h : ∀ j, j < n → f j = g j) : icells f n = icells g n := by
  apply List.ext_getElem?
  intro j
  by_cases hj : j < n
  · rw [icells_at hj, icells_at hj, h j hj]
  · rw [List.getElem?_eq_none (by rw [icells_len]; omega), List.getElem?_eq_none (by rw [icells_len]; omega)]
theorem icells_put {f g : Nat → Int} {n : Nat} (v : Int) (h1 : ∀ j, j < n → f j = g j) (h2 : g n = v) : icells f n ++ [.int .i64 v] = icells g (n + 1) := by
  rw [icells_congr h1]
  simp [icells, List.range_succ, h2]

/-- n numbers in a block of the call's own, from block base on, with room for cap of them. -/
def IOwn (w : World) (base g cap n : Nat) (f : Nat → Int) : Prop := w.ownsRow base 2 1 (.slice (some ⟨g, 0, none⟩) n cap) n (icells f n)
theorem IOwn.has {w : World} {base g cap n : Nat} {f : Nat → Int} (h : IOwn w base g cap n f) : IHas w g n f := by
  obtain ⟨hl, h0 | ⟨g', cap', cur, hv, hb, hh, h1, h2, h3, h4⟩⟩ := h
  · simp at h0
  · simp at hv
    obtain ⟨rfl, rfl⟩ := hv
    refine ⟨cur, hh, by omega, fun j hj => ?_⟩
    have : (cur.toList.take (n * 1))[j]? = (icells f n)[j]? := by rw [h4]
    rw [List.getElem?_take_of_lt (by omega), icells_at hj] at this
    simpa using this
theorem IOwn.base {w : World} {base g cap n : Nat} {f : Nat → Int} (h : IOwn w base g cap n f) : base ≤ g := (World.ownsRow.lt h g rfl).1
theorem IOwn.congr {w : World} {base g cap n : Nat} {f f' : Nat → Int} (h : IOwn w base g cap n f) (e : ∀ j, j < n → f j = f' j) : IOwn w base g cap n f' := by
  unfold IOwn at h ⊢
  rw [← icells_congr e]; exact h
theorem IOwn.below {w w' : World} {base g cap n B : Nat} {f : Nat → Int} (h : IOwn w base g cap n f) (hb : Below B w w') (hB : g < B) : IOwn w' base g cap n f := by
  refine ⟨h.1, ?_⟩
  rcases h.2 with hn | ⟨g', cap', cur, hv, hb', hgg, rest⟩
  · exact .inl hn
  · simp at hv
    obtain ⟨rfl, rfl⟩ := hv
    exact .inr ⟨g, cap, cur, rfl, hb', (hb.block g hB).trans hgg, rest⟩
theorem IOwn.lt {w : World} {base g cap n : Nat} {f : Nat → Int} (h : IOwn w base g cap n f) : g < w.heap.size := (World.ownsRow.lt h g rfl).2
theorem IOwn.grown {w w' : World} {base g cap n : Nat} {f : Nat → Int} {b : Nat} (h : IOwn w base g cap n f) (hg : w.grownBy w' (some b)) (hne : g ≠ b) : IOwn w' base g cap n f := by
  refine ⟨h.1, ?_⟩
  rcases h.2 with hn | ⟨g', cap', cur, hv, hb', hgg, rest⟩
  · exact .inl hn
  · simp at hv
    obtain ⟨rfl, rfl⟩ := hv
    exact .inr ⟨g, cap, cur, rfl, hb', (hg.block g h.lt (by simp; exact hne)).trans hgg, rest⟩

theorem IOwn.room {w : World} {base g cap n : Nat} {f : Nat → Int} (h : IOwn w base g cap n f) : n ≤ cap := by
  obtain ⟨hl, h0 | ⟨g', cap', cur, hv, hb, hh, h1, h2, h3, h4⟩⟩ := h
  · simp at h0
  · simp at hv
    omega
/-- A new empty list. -/
theorem IOwn.empty (w : World) {base : Nat} (hb : base ≤ w.heap.size) (f : Nat → Int) : IOwn (w.alloc (.cells #[] 2)) base w.heap.size 0 0 f := by
  have := World.ownsRow_lit (base := base) (e := 2) (size := 1) w #[] 0 hb (by simp) (by simp)
  simpa [IOwn, icells] using this

theorem wpList_append_int {w : World} {ops : Array Oper} {rest : List Oper} {o : Oper} {a : Act} {Q : Exit → Act → World → Prop} (hgd : o.guard = none) (s x : Operand)
    (ho : o.op = .call { callee := .builtin .append, args := #[s, x], argTypes := #[55, 55] }) (base g cap n : Nat) (f : Nat → Int) (hs : a.eval s = .slice (some ⟨g, 0, none⟩) n cap)
    (hown : IOwn w base g cap n f) (ad : Addr) (c : Nat) (v : Int) (hx : a.eval x = .slice (some ad) 1 c) (h0 : w.cell? (ad.add 0) = some (.int .i64 v)) (hn : n ≤ 1000000000) (hbase : base ≤ w.heap.size)
    (h : ∀ g' cap' w', (∀ f', (∀ j, j < n → f' j = f j) → f' n = v → IOwn w' base g' cap' (n + 1) f') → w.grownBy w' (some g) → (g' = g ∨ g' = w.heap.size) → wpList Tryd.prog ops Q rest (a.put o.dst (.slice (some ⟨g', 0, none⟩) (n + 1) cap')) w') : wpList Tryd.prog ops Q (o :: rest) a w := by
  obtain ⟨i, hi, hz0, hz1, hz2⟩ := info_parts Tryd.infoInt
  refine wpList_append_lies w hgd s x 55 ho base 2 i _ 1 8 Tryd.underlying55 hi hz0 hz1 hz2 rfl (by omega) _ n (icells f n) hs hown ad 1 c [.int .i64 v] hx rfl ?_ ?_ (by omega) (by unfold maxLen; omega) (by omega) hbase w.heap.size rfl ?_
  · intro j u hu
    match j, hu with
    | 0, hu => simp at hu; subst hu; exact h0
    | j + 1, hu => simp at hu
  · intro u hu
    simp at hu
    subst hu; rfl
  · intro g' cap' w' hown' hgrow hat hlt
    refine h g' cap' w' (fun f' e1 e2 => ?_) hgrow ?_
    · rw [icells_put v (fun j hj => (e1 j hj).symm) e2] at hown'
      exact hown'
    · rcases hat with e | e
      · simp [Value.ownBlock] at e; exact Or.inl e.symm
      · exact Or.inr e

end Go.Proofs.YtcmeppjfjledfacDoor

/-
  A list of numbers of the call's own, or none yet, that grows by one.
-/
set_option linter.unusedVariables false
set_option linter.unusedSimpArgs false
namespace Go.Proofs.YtcmeppjfjledfacDoor
open Go.RowKit

/-- n numbers behind a slice of the call's own, or a slice that is nil. -/
def OwnE (w : World) (base : Nat) (go : Option Addr) (n cap : Nat) (f : Nat → Int) : Prop := w.ownsRow base 2 1 (.slice go n cap) n (icells f n)
theorem OwnE.nil (w : World) (base : Nat) (f : Nat → Int) : OwnE w base none 0 0 f := ⟨by simp [icells], .inl ⟨rfl, rfl⟩⟩
theorem OwnE.at {w : World} {base n cap x : Nat} {go : Option Addr} {f : Nat → Int} (h : OwnE w base go n cap f) (e : (Value.slice go n cap).ownBlock = some x) : base ≤ x ∧ x < w.heap.size := World.ownsRow.lt h x e
theorem OwnE.of_block {w w' : World} {base n cap : Nat} {go : Option Addr} {f : Nat → Int} (h : OwnE w base go n cap f) (e : ∀ x, (Value.slice go n cap).ownBlock = some x → w'.heap[x]? = w.heap[x]?) : OwnE w' base go n cap f := by
  refine ⟨h.1, ?_⟩
  rcases h.2 with hn | ⟨g', cap', cur, hv, hb', hgg, rest⟩
  · exact .inl hn
  · have e2 := e g' (by rw [hv]; rfl)
    exact .inr ⟨g', cap', cur, hv, hb', e2.trans hgg, rest⟩
theorem OwnE.next {w w' : World} {base n cap : Nat} {go : Option Addr} {f : Nat → Int} (h : OwnE w base go n cap f) (hb : Below w.heap.size w w') : OwnE w' base go n cap f := h.of_block (fun x e => hb.block x (h.at e).2)
theorem OwnE.grown {w w' : World} {base n cap : Nat} {go : Option Addr} {f : Nat → Int} {row : Option Nat} (h : OwnE w base go n cap f) (hg : w.grownBy w' row) (hne : ∀ x, (Value.slice go n cap).ownBlock = some x → row ≠ some x) : OwnE w' base go n cap f := h.of_block (fun x e => hg.block x (h.at e).2 (fun q => hne x e q.symm))
theorem OwnE.has {w : World} {base n cap : Nat} {go : Option Addr} {f : Nat → Int} (h : OwnE w base go n cap f) (hn : 0 < n) : ∃ g, go = some ⟨g, 0, none⟩ ∧ base ≤ g ∧ IHas w g n f := by
  have h' := h
  obtain ⟨hl, h0 | ⟨g', cap', cur, hv, hb, hh, h1, h2, h3, h4⟩⟩ := h
  · omega
  · simp at hv
    obtain ⟨rfl, rfl⟩ := hv
    refine ⟨g', rfl, hb, cur, hh, by omega, fun j hj => ?_⟩
    have : (cur.toList.take (n * 1))[j]? = (icells f n)[j]? := by rw [h4]
    rw [List.getElem?_take_of_lt (by omega), icells_at hj] at this
    simpa using this
/-- The room of a list of numbers is what its slice says. -/
def Cap (w : World) (b cap : Nat) : Prop := ∃ cur : Array Value, w.heap[b]? = some (.cells cur 2 (0, 0)) ∧ cap ≤ maxLen ∧ cur.size = cap
theorem Cap.of_block {w w' : World} {b cap : Nat} (h : Cap w b cap) (e : w'.heap[b]? = w.heap[b]?) : Cap w' b cap := by
  obtain ⟨c, h1, h2, h3⟩ := h
  exact ⟨c, e.trans h1, h2, h3⟩
theorem Cap.lt {w : World} {b cap : Nat} (h : Cap w b cap) : b < w.heap.size := by
  obtain ⟨c, h1, h2, h3⟩ := h
  exact (Array.getElem?_eq_some_iff.1 h1).1
theorem Cap.set {w : World} {b cap : Nat} (h : Cap w b cap) (j : Nat) (v : Value) : Cap (w.setCell ⟨b, j, none⟩ v) b cap := by
  obtain ⟨c, h1, h2, h3⟩ := h
  exact ⟨c.setIfInBounds j v, by simp [World.setCell, Array.getElem?_modify, h1], h2, by simpa using h3⟩
theorem Cap.own {w : World} {b n cap base : Nat} {f : Nat → Int} (h : Cap w b cap) (hi : IHas w b n f) (hb : base ≤ b) : OwnE w base (some ⟨b, 0, none⟩) n cap f := by
  obtain ⟨c, h1, h2, h3⟩ := h
  obtain ⟨d, g1, g2, g3⟩ := hi
  rw [h1] at g1
  simp at g1
  subst g1
  refine ⟨by simp [icells], .inr ⟨b, cap, c, rfl, hb, h1, by omega, h2, by omega, ?_⟩⟩
  apply List.ext_getElem?
  intro j
  by_cases hj : j < n
  · rw [List.getElem?_take_of_lt (by omega), icells_at hj]
    simpa using g3 j hj
  · rw [List.getElem?_eq_none (by simp; omega), List.getElem?_eq_none (by simp [icells]; omega)]
theorem OwnE.capAt {w : World} {base n cap g : Nat} {go : Option Addr} {f : Nat → Int} (h : OwnE w base go n cap f) (e : go = some ⟨g, 0, none⟩) : Cap w g cap := by
  obtain ⟨hl, h0 | ⟨g', cap', cur, hv, hb, hh, h1, h2, h3, h4⟩⟩ := h
  · rw [e] at h0; simp at h0
  · rw [e] at hv
    simp at hv
    obtain ⟨rfl, rfl⟩ := hv
    exact ⟨cur, hh, h2, by omega⟩
theorem OwnE.room {w : World} {base n cap g : Nat} {go : Option Addr} {f : Nat → Int} (h : OwnE w base go n cap f) (e : go = some ⟨g, 0, none⟩) : n ≤ cap := by
  obtain ⟨hl, h0 | ⟨g', cap', cur, hv, hb, hh, h1, h2, h3, h4⟩⟩ := h
  · rw [e] at h0; simp at h0
  · rw [e] at hv
    simp at hv
    obtain ⟨rfl, rfl⟩ := hv
    exact h1
theorem own_blk {ao : Option Addr} {n cap x : Nat} (e : (Value.slice ao n cap).ownBlock = some x) : ∃ a, ao = some a ∧ a.block = x := by
  cases ao with
  | none => simp [Value.ownBlock] at e
  | some a => exact ⟨a, rfl, by simpa [Value.ownBlock] using e⟩
theorem wp_append_own {o : Oper} {a : Act} {w : World} {K : Act → World → Prop} {Q : Exit → Act → World → Prop} (s x : Operand)
    (ho : o.op = .call { callee := .builtin .append, args := #[s, x], argTypes := #[55, 55] }) (base k gc : Nat) (go : Option Addr) (f : Nat → Int) (hs : a.eval s = .slice go k gc) (hown : OwnE w base go k gc f) (B : Nat) (hx : a.eval x = .slice (some ⟨B, 0, none⟩) 1 1)
    (hB : w.cell? ⟨B, 0, none⟩ = some (.int .i64 (f k))) (hk : k ≤ 100000000) (hbase : base ≤ w.heap.size)
    (h : ∀ g' gc' w', OwnE w' base (some ⟨g', 0, none⟩) (k + 1) gc' f → w.grownBy w' (Value.slice go k gc).ownBlock → ((Value.slice go k gc).ownBlock = some g' ∨ g' = w.heap.size) → K (a.put o.dst (.slice (some ⟨g', 0, none⟩) (k + 1) gc')) w') : o.wp Tryd.prog a w K Q := by
  obtain ⟨i0, hi0, hz0, hz1, hz2⟩ := info_parts Tryd.infoInt
  refine wp_append_lies w s x 55 ho base 2 i0 _ 1 8 Tryd.underlying55 hi0 hz0 hz1 hz2 rfl (by omega) _ k (icells f k) hs hown ⟨B, 0, none⟩ 1 1 [.int .i64 (f k)] hx rfl ?_ ?_ (by omega) (by unfold maxLen; omega) (by omega) hbase w.heap.size rfl ?_
  · intro j u hu
    match j, hu with
    | 0, hu => simp at hu; subst hu; exact hB
    | j + 1, hu => simp at hu
  · intro u hu
    simp at hu
    subst hu; rfl
  · intro g' gc' w' hown' hgrow hat _
    rw [icells_put (f k) (fun _ _ => rfl) rfl] at hown'
    exact h g' gc' w' hown' hgrow hat
theorem step_append_own {ops : Array Oper} {o : Oper} {a : Act} {w : World} {K : Act → World → Prop} {Q : Exit → Act → World → Prop} {E : Prop} (hgd : o.guard = none) (s x : Operand)
    (ho : o.op = .call { callee := .builtin .append, args := #[s, x], argTypes := #[55, 55] }) (base k gc : Nat) (go : Option Addr) (f : Nat → Int) (hs : a.eval s = .slice go k gc) (hown : OwnE w base go k gc f) (B : Nat) (hx : a.eval x = .slice (some ⟨B, 0, none⟩) 1 1)
    (hB : w.cell? ⟨B, 0, none⟩ = some (.int .i64 (f k))) (hk : k ≤ 100000000) (hbase : base ≤ w.heap.size)
    (h : ∀ g' gc' w', OwnE w' base (some ⟨g', 0, none⟩) (k + 1) gc' f → w.grownBy w' (Value.slice go k gc).ownBlock → ((Value.slice go k gc).ownBlock = some g' ∨ g' = w.heap.size) → K (a.put o.dst (.slice (some ⟨g', 0, none⟩) (k + 1) gc')) w') :
    if Region.wanted o (yielded ops a.tmps) = true then Oper.wp Tryd.prog o a w K Q else E := by
  have hw : Region.wanted o (yielded ops a.tmps) = true := by simp [Region.wanted, hgd]
  rw [if_pos hw]
  exact wp_append_own s x ho base k gc go f hs hown B hx hB hk hbase h

end Go.Proofs.YtcmeppjfjledfacDoor
