/-
  Helpers, merged: Rw, TxtP, CmdP, RdP, Vh, Ints, ArcL, Grow.
-/
import Derived.Test.YticckgmkhgnmfaaDoorPack1
import Derived.Test.YticckgmkhgnmfaaDoorRows
import Derived.Deep.RegionLaw
import Derived.Deep.AppendLies
/-
  Reweigh by plain functions: which weights come out, and that the document's Reweigh answers just that.
-/
set_option linter.unusedVariables false
set_option linter.unusedSimpArgs false
namespace Go.Proofs.YticckgmkhgnmfaaDoor
open Go.RowKit Go.Maps

def hit (F T : Nat → Int) (a b : Int) : Nat → Bool
  | 0 => false
  | k + 1 => hit F T a b k || (F k == a && T k == b)
def put (F T H : Nat → Int) (a b c : Int) (i : Nat) : Int := if F i = a ∧ T i = b then c else H i
def part (F T H : Nat → Int) (a b c : Int) (k i : Nat) : Int := if i < k ∧ F i = a ∧ T i = b then c else H i
def rw' (F T G A B C : Nat → Int) (n : Nat) : Nat → Option (Nat → Int)
  | 0 => some G
  | i + 1 => match rw' F T G A B C n i with
    | none => none
    | some H => if hit F T (A i) (B i) n && inB (C i) 1 1000000 then some (put F T H (A i) (B i) (C i)) else none
def resOf (p : Int) (n : Nat) (F T G : Nat → Int) (m : Nat) (A B C : Nat → Int) : Option (Nat → Int) := if graphB p n F T G then rw' F T G A B C n m else none
def IsRes (r : Option (Nat → Int)) (p : Int) (n : Nat) (p' : Int) (n' : Nat) (H : Nat → Int) (ok : Bool) : Prop :=
  (r = some H ∧ p' = p ∧ n' = n ∧ ok = true) ∨ (r = none ∧ p' = 0 ∧ n' = 0 ∧ ok = false)

theorem rw'_none {F T G A B C : Nat → Int} {n k : Nat} (h : rw' F T G A B C n k = none) : ∀ m, k ≤ m → rw' F T G A B C n m = none
  | 0, hk => by
    have : k = 0 := by omega
    subst this; exact h
  | m + 1, hk => by
    by_cases e : k = m + 1
    · subst e; exact h
    · rw [rw', rw'_none h m (by omega)]
theorem rw'_yes {F T G A B C H : Nat → Int} {n i : Nat} (h : rw' F T G A B C n i = some H) (h1 : hit F T (A i) (B i) n = true) (h2 : inB (C i) 1 1000000 = true) : rw' F T G A B C n (i + 1) = some (put F T H (A i) (B i) (C i)) := by
  simp [rw', h, h1, h2]
theorem rw'_no {F T G A B C H : Nat → Int} {n i : Nat} (h : rw' F T G A B C n i = some H) (hf : hit F T (A i) (B i) n = false ∨ inB (C i) 1 1000000 = false) : rw' F T G A B C n (i + 1) = none := by
  rcases hf with hf | hf <;> simp [rw', h, hf]
theorem part_zero {F T H : Nat → Int} {a b c : Int} (i : Nat) : part F T H a b c 0 i = H i := by simp [part]
theorem part_all {F T H : Nat → Int} {a b c : Int} {n i : Nat} (hi : i < n) : part F T H a b c n i = put F T H a b c i := by simp [part, put, hi]
theorem ar_congr {F T G G' : Nat → Int} {n : Nat} (h : ∀ i, i < n → G i = G' i) : ∀ j, j < n * 3 → ar F T G j = ar F T G' j := fun j hj => by
  unfold ar
  split
  · rfl
  · split
    · rfl
    · exact h _ (by omega)
theorem Has.weights {w : World} {b n : Nat} {F T G G' : Nat → Int} (h : Has w b n (ar F T G)) (e : ∀ i, i < n → G i = G' i) : Has w b n (ar F T G') := h.congr (ar_congr e)
theorem ar_set (F T H : Nat → Int) (k : Nat) (c : Int) (j : Nat) : (if j = k * 3 + 2 then c else ar F T H j) = ar F T (fun i => if i = k then c else H i) j := by
  unfold ar
  by_cases h0 : j % 3 = 0
  · rw [if_pos h0, if_pos h0, if_neg (by omega)]
  · by_cases h1 : j % 3 = 1
    · rw [if_neg h0, if_neg h0, if_pos h1, if_pos h1, if_neg (by omega)]
    · rw [if_neg h0, if_neg h0, if_neg h1, if_neg h1]
      by_cases e : j = k * 3 + 2
      · have : j / 3 = k := by omega
        simp [e, this] <;> omega
      · have : ¬ j / 3 = k := by omega
        simp [e, this]
theorem Has.weigh {w : World} {b n : Nat} {F T H : Nat → Int} (h : Has w b n (ar F T H)) (k : Nat) (c : Int) : Has (w.setCell ⟨b, k * 3 + 2, none⟩ (.int .i64 c)) b n (ar F T (fun i => if i = k then c else H i)) :=
  (h.set (k * 3 + 2) c).congr (fun j _ => ar_set F T H k c j)
theorem part_hit {F T H : Nat → Int} {a b c : Int} {k : Nat} (hF : F k = a) (hT : T k = b) (i : Nat) : (if i = k then c else part F T H a b c k i) = part F T H a b c (k + 1) i := by
  unfold part
  by_cases e : i = k
  · subst e; rw [if_pos rfl, if_pos ⟨by omega, hF, hT⟩]
  · rw [if_neg e]
    by_cases h : i < k ∧ F i = a ∧ T i = b
    · rw [if_pos h, if_pos ⟨by omega, h.2⟩]
    · rw [if_neg h, if_neg (fun h' => h ⟨by omega, h'.2⟩)]
theorem part_miss {F T H : Nat → Int} {a b c : Int} {k : Nat} (hm : ¬ (F k = a ∧ T k = b)) (i : Nat) : part F T H a b c k i = part F T H a b c (k + 1) i := by
  unfold part
  by_cases h : i < k ∧ F i = a ∧ T i = b
  · rw [if_pos h, if_pos ⟨by omega, h.2⟩]
  · rw [if_neg h, if_neg (fun h' => by
      by_cases e : i = k
      · subst e; exact hm h'.2
      · exact h ⟨by omega, h'.2⟩)]

end Go.Proofs.YticckgmkhgnmfaaDoor

/-
  Numbers in a text, plainly: how the document reads them, how the program does, and that both read the same of numbers that are not below nought.
-/
set_option linter.unusedVariables false
set_option linter.unusedSimpArgs false
namespace Go.Proofs.YticckgmkhgnmfaaDoor

def isD (c : UInt8) : Bool := decide (48 ≤ c.toNat) && decide (c.toNat ≤ 57)
def dg (c : UInt8) : Int := (c.toNat : Int) - 48
def val (l : List UInt8) : Int := l.foldl (fun n c => n * 10 + dg c) 0
/-- A number's digits, behind a sign or none. -/
def numD (neg : Bool) (d : List UInt8) : Option Int :=
  if d.length = 0 ∨ 9 < d.length then none else if d.all isD = false then none else if d.head? = some 48 ∧ (neg = true ∨ 1 < d.length) then none else some (if neg = true then - val d else val d)
def num1 (s : List UInt8) : Option Int := if s.head? = some 45 then numD true s.tail else numD false s
/-- The document's numbers: what is there, what is being read. -/
def snums : List UInt8 → List Int → List UInt8 → Option (List Int)
  | [], out, cur => (num1 cur).map fun n => out ++ [n]
  | c :: t, out, cur => if c = 32 then (match num1 cur with | some n => snums t (out ++ [n]) [] | none => none) else snums t out (cur ++ [c])
/-- Where the program stands: ahead of a number, in one, behind one. -/
inductive Sta where
  | ahead (out : List Int)
  | within (n : Int) (out : List Int)
  | behind (out : List Int)
def inums : List UInt8 → Sta → Option (List Int)
  | [], .ahead _ => none
  | [], .within n out => some (out ++ [n])
  | [], .behind out => some out
  | c :: t, .ahead out => if out.length = 30 then none else if c = 48 then inums t (.behind (out ++ [0])) else if isD c = true then inums t (.within (dg c) out) else none
  | c :: t, .within n out => if isD c = true then (if 999999999 < 10 * n + dg c then none else inums t (.within (10 * n + dg c) out)) else if c = 32 then inums t (.ahead (out ++ [n])) else none
  | c :: t, .behind out => if c = 32 then inums t (.ahead out) else none

theorem dg_bd {c : UInt8} (h : isD c = true) : 0 ≤ dg c ∧ dg c ≤ 9 := by
  simp [isD] at h
  unfold dg
  omega
theorem isD_ne {c : UInt8} (h : isD c = true) : c ≠ 32 ∧ c ≠ 45 := by
  constructor <;> (rintro rfl; simp [isD] at h)
theorem val_snoc (l : List UInt8) (c : UInt8) : val (l ++ [c]) = val l * 10 + dg c := by simp [val, List.foldl_append]
theorem fold_bd : ∀ (l : List UInt8) (n : Int), l.all isD = true → 0 ≤ n → n ≤ l.foldl (fun n c => n * 10 + dg c) n
  | [], n, _, _ => Int.le_refl _
  | c :: t, n, h, h0 => by
    simp at h
    have hd := dg_bd h.1
    have := fold_bd t (n * 10 + dg c) (by simpa using h.2) (by omega)
    simp only [List.foldl_cons]
    omega
theorem val_nonneg {l : List UInt8} (h : l.all isD = true) : 0 ≤ val l := by
  have := fold_bd l 0 h (Int.le_refl _)
  exact this
theorem all_snoc {l : List UInt8} {c : UInt8} : (l ++ [c]).all isD = true ↔ l.all isD = true ∧ isD c = true := by simp
theorem fold_pow : ∀ (l : List UInt8) (n : Int), l.all isD = true → 1 ≤ n → n * (10 : Int) ^ l.length ≤ l.foldl (fun n c => n * 10 + dg c) n ∧ l.foldl (fun n c => n * 10 + dg c) n < (n + 1) * (10 : Int) ^ l.length
  | [], n, _, _ => by simp; omega
  | c :: t, n, h, h0 => by
    simp at h
    have hd := dg_bd h.1
    obtain ⟨h1, h2⟩ := fold_pow t (n * 10 + dg c) (by simpa using h.2) (by omega)
    simp only [List.foldl_cons, List.length_cons]
    have hp : (0 : Int) ≤ (10 : Int) ^ t.length := Int.pow_nonneg (by decide)
    have e1 : n * (10 : Int) ^ (t.length + 1) = (n * 10) * (10 : Int) ^ t.length := by rw [Int.pow_succ, Int.mul_comm ((10 : Int) ^ t.length) 10, ← Int.mul_assoc]
    have e2 : (n + 1) * (10 : Int) ^ (t.length + 1) = ((n + 1) * 10) * (10 : Int) ^ t.length := by rw [Int.pow_succ, Int.mul_comm ((10 : Int) ^ t.length) 10, ← Int.mul_assoc]
    have m1 : (n * 10) * (10 : Int) ^ t.length ≤ (n * 10 + dg c) * (10 : Int) ^ t.length := Int.mul_le_mul_of_nonneg_right (by omega) hp
    have m2 : (n * 10 + dg c + 1) * (10 : Int) ^ t.length ≤ ((n + 1) * 10) * (10 : Int) ^ t.length := Int.mul_le_mul_of_nonneg_right (by omega) hp
    rw [e1, e2]
    omega
/-- Nine digits at most, if no nought is ahead: just the numbers up to 999999999. -/
theorem val_nine {l : List UInt8} (h : l.all isD = true) (hl : l ≠ []) (h0 : l.head? ≠ some 48) : (val l ≤ 999999999 ↔ l.length ≤ 9) ∧ 1 ≤ val l := by
  cases l with
  | nil => exact absurd rfl hl
  | cons c t =>
    simp at h h0
    have hd := dg_bd h.1
    have h1 : 1 ≤ dg c := by
      have : dg c ≠ 0 := fun e => h0 (by unfold dg at e; exact UInt8.toNat_inj.1 (by simp; omega))
      omega
    obtain ⟨a, b⟩ := fold_pow t (dg c) (by simpa using h.2) h1
    have e : val (c :: t) = t.foldl (fun n c => n * 10 + dg c) (dg c) := by simp [val]
    rw [e]
    have hp1 : (1 : Int) ≤ (10 : Int) ^ t.length := by
      have := Int.pow_pos (n := 10) (m := t.length) (by decide)
      omega
    have hf := fold_bd t (dg c) (by simpa using h.2) (by omega)
    refine ⟨⟨fun hv => ?_, fun hv => ?_⟩, by omega⟩
    · by_cases hlen : t.length ≤ 8
      · simp; omega
      · exfalso
        have hp : (10 : Int) ^ 9 ≤ (10 : Int) ^ t.length := by
          obtain ⟨k, hk⟩ : ∃ k, t.length = 9 + k := ⟨t.length - 9, by omega⟩
          rw [hk, Int.pow_add]
          have : (1 : Int) ≤ (10 : Int) ^ k := by
            have := Int.pow_pos (n := 10) (m := k) (by decide)
            omega
          have h9 : (0 : Int) ≤ (10 : Int) ^ 9 := by decide
          have := Int.mul_le_mul_of_nonneg_left this h9
          omega
        have : 1 * (10 : Int) ^ t.length ≤ dg c * (10 : Int) ^ t.length := Int.mul_le_mul_of_nonneg_right h1 (by omega)
        have e9 : (10 : Int) ^ 9 = 1000000000 := by decide
        omega
    · simp at hv
      have hp : (10 : Int) ^ t.length ≤ (10 : Int) ^ 8 := by
        obtain ⟨k, hk⟩ : ∃ k, 8 = t.length + k := ⟨8 - t.length, by omega⟩
        rw [hk, Int.pow_add]
        have : (1 : Int) ≤ (10 : Int) ^ k := by
          have := Int.pow_pos (n := 10) (m := k) (by decide)
          omega
        have := Int.mul_le_mul_of_nonneg_left this (by omega : (0 : Int) ≤ (10 : Int) ^ t.length)
        omega
      have : (dg c + 1) * (10 : Int) ^ t.length ≤ 10 * (10 : Int) ^ t.length := Int.mul_le_mul_of_nonneg_right (by omega) (by omega)
      have e8 : (10 : Int) ^ 8 = 100000000 := by decide
      omega

/-- A word that no sign behind it mends. -/
theorem snums_dead : ∀ (l : List UInt8) (out : List Int) (cur : List UInt8), (∀ x, num1 (cur ++ x) = none) → snums l out cur = none
  | [], out, cur, h => by
    have := h []
    simp at this
    simp [snums, this]
  | c :: t, out, cur, h => by
    unfold snums
    by_cases hc : c = 32
    · have := h []
      simp at this
      rw [if_pos hc, this]
    · rw [if_neg hc]
      exact snums_dead t out (cur ++ [c]) (fun x => by rw [List.append_assoc]; exact h _)
theorem snums_pre : ∀ (l : List UInt8) (out : List Int) (cur : List UInt8) (ns : List Int), snums l out cur = some ns → out <+: ns
  | [], out, cur, ns, h => by
    simp [snums] at h
    obtain ⟨n, _, rfl⟩ := h
    exact ⟨[n], rfl⟩
  | c :: t, out, cur, ns, h => by
    unfold snums at h
    by_cases hc : c = 32
    · rw [if_pos hc] at h
      cases hn : num1 cur with
      | none => rw [hn] at h; cases h
      | some n =>
        rw [hn] at h
        have := snums_pre t (out ++ [n]) [] ns h
        exact (List.prefix_append out [n]).trans this
    · rw [if_neg hc] at h
      exact snums_pre t out (cur ++ [c]) ns h
/-- A number behind a sign is below nought. -/
theorem numD_neg {d : List UInt8} {n : Int} (h : numD true d = some n) : n < 0 := by
  unfold numD at h
  split at h
  · cases h
  rename_i h1
  split at h
  · cases h
  rename_i h2
  split at h
  · cases h
  rename_i h3
  simp at h
  have hall : d.all isD = true := by
    cases hh : d.all isD with
    | true => rfl
    | false => exact absurd hh h2
  have := (val_nine hall (by rintro rfl; simp at h1) (fun e => h3 ⟨e, Or.inl rfl⟩)).2
  omega
theorem snums_neg : ∀ (l : List UInt8) (out : List Int) (d : List UInt8) (ns : List Int), snums l out (45 :: d) = some ns → ∃ x, x ∈ ns.drop out.length ∧ x < 0
  | [], out, d, ns, h => by
    simp [snums, num1] at h
    obtain ⟨n, hn, rfl⟩ := h
    exact ⟨n, by simp, numD_neg hn⟩
  | c :: t, out, d, ns, h => by
    unfold snums at h
    by_cases hc : c = 32
    · rw [if_pos hc] at h
      cases hn : num1 (45 :: d) with
      | none => rw [hn] at h; cases h
      | some n =>
        rw [hn] at h
        obtain ⟨y, rfl⟩ := snums_pre t (out ++ [n]) [] ns h
        simp [num1] at hn
        exact ⟨n, by simp, numD_neg hn⟩
    · rw [if_neg hc] at h
      exact snums_neg t out (d ++ [c]) ns (by simpa using h)
/-- What the program wants of the numbers that are new: not below nought, and thirty at most in all. -/
def Fine (k : Nat) (ns : List Int) : Prop := (∀ x ∈ ns.drop k, 0 ≤ x) ∧ ns.length ≤ 30
theorem fine_snoc {out : List Int} {n : Int} {ns : List Int} (hp : (out ++ [n]) <+: ns) (h0 : 0 ≤ n) : Fine out.length ns ↔ Fine (out ++ [n]).length ns := by
  obtain ⟨y, rfl⟩ := hp
  unfold Fine
  simp
  intro _ _
  exact h0
theorem digit_word {cur : List UInt8} (hne : cur ≠ []) (hall : cur.all isD = true) : cur.head? ≠ some 45 := by
  cases cur with
  | nil => exact absurd rfl hne
  | cons c t =>
    simp at hall ⊢
    exact (isD_ne hall.1).2
theorem num1_word {cur : List UInt8} {n : Int} (hne : cur ≠ []) (hall : cur.all isD = true) (h0 : cur.head? ≠ some 48) (hv : val cur = n) (hm : n ≤ 999999999) : num1 cur = some n := by
  have hl := (val_nine hall hne h0).1.1 (by omega)
  have hpos : cur.length ≠ 0 := by simpa using hne
  unfold num1
  rw [if_neg (digit_word hne hall)]
  unfold numD
  rw [if_neg (by omega), if_neg (by simp [hall]), if_neg (fun e => h0 e.1)]
  simp [hv]
theorem dead_long {cur : List UInt8} (hne : cur ≠ []) (h45 : cur.head? ≠ some 45) (hl : 9 < cur.length) (x : List UInt8) : num1 (cur ++ x) = none := by
  unfold num1
  rw [if_neg (by cases cur with | nil => exact absurd rfl hne | cons c t => simpa using h45)]
  unfold numD
  rw [if_pos (Or.inr (by simp; omega))]
theorem dead_sign {cur : List UInt8} {c : UInt8} (hc : isD c = false) (h45 : (cur ++ [c]).head? ≠ some 45) (x : List UInt8) : num1 ((cur ++ [c]) ++ x) = none := by
  unfold num1
  rw [if_neg (by cases cur <;> simpa using h45)]
  unfold numD
  split
  · rfl
  rw [if_pos (by simp [hc])]
theorem dead_nought {d : List UInt8} (hd : d ≠ []) (x : List UInt8) : num1 ((48 :: d) ++ x) = none := by
  unfold num1
  rw [if_neg (by simp)]
  unfold numD
  split
  · rfl
  split
  · rfl
  rw [if_pos ⟨by simp, Or.inr (by cases d with | nil => exact absurd rfl hd | cons c t => simp)⟩]
theorem num1_nought : num1 [48] = some 0 := by decide
theorem num1_nil : num1 [] = none := by decide

theorem nums_same : ∀ (l : List UInt8),
    (∀ out ns, out.length ≤ 30 → (inums l (.ahead out) = some ns ↔ snums l out [] = some ns ∧ Fine out.length ns)) ∧
    (∀ out n cur ns, out.length < 30 → cur ≠ [] → cur.all isD = true → cur.head? ≠ some 48 → val cur = n → n ≤ 999999999 → (inums l (.within n out) = some ns ↔ snums l out cur = some ns ∧ Fine out.length ns)) ∧
    (∀ out ns, out.length < 30 → (inums l (.behind (out ++ [0])) = some ns ↔ snums l out [48] = some ns ∧ Fine out.length ns))
  | [] => by
    refine ⟨fun out ns _ => ?_, fun out n cur ns ho hne hall h0 hv hm => ?_, fun out ns ho => ?_⟩
    · simp [inums, snums, num1_nil]
    · simp only [inums, snums, num1_word hne hall h0 hv hm, Option.map_some, Option.some.injEq]
      have := val_nonneg hall
      exact ⟨fun e => ⟨e, by subst e; exact ⟨by simp; omega, by simp; omega⟩⟩, fun e => e.1⟩
    · simp only [inums, snums, num1_nought, Option.map_some, Option.some.injEq]
      exact ⟨fun e => ⟨e, by subst e; exact ⟨by simp, by simp; omega⟩⟩, fun e => e.1⟩
  | c :: t => by
    obtain ⟨iA, iW, iB⟩ := nums_same t
    refine ⟨fun out ns ho => ?_, fun out n cur ns ho hne hall h0 hv hm => ?_, fun out ns ho => ?_⟩
    · have hs : ∀ h32 : c ≠ 32, snums (c :: t) out [] = snums t out [c] := fun h32 => by simp [snums, h32]
      by_cases h30 : out.length = 30
      · have hL : inums (c :: t) (.ahead out) = none := by simp [inums, h30]
        rw [hL]
        refine ⟨fun h => (by cases h), fun ⟨h1, h2⟩ => ?_⟩
        exfalso
        have hlong : ∀ (l : List UInt8) (cur : List UInt8), snums l out cur = some ns → out.length < ns.length := by
          intro l
          induction l with
          | nil =>
            intro cur h
            simp [snums] at h
            obtain ⟨n, _, rfl⟩ := h
            simp
          | cons d u ih =>
            intro cur h
            unfold snums at h
            split at h
            · cases hn : num1 cur with
              | none => rw [hn] at h; cases h
              | some n =>
                rw [hn] at h
                have := (snums_pre u (out ++ [n]) [] ns h).length_le
                simp at this
                omega
            · exact ih _ h
        have := hlong _ _ h1
        have := h2.2
        omega
      by_cases h48 : c = 48
      · subst h48
        rw [hs (by decide)]
        have hL : inums (48 :: t) (.ahead out) = inums t (.behind (out ++ [0])) := by simp [inums, h30]
        rw [hL]
        exact iB out ns (by omega)
      cases hd : isD c with
      | true =>
        have hb := dg_bd hd
        rw [hs (isD_ne hd).1]
        have hL : inums (c :: t) (.ahead out) = inums t (.within (dg c) out) := by simp [inums, h30, h48, hd]
        rw [hL]
        exact iW out (dg c) [c] ns (by omega) (by simp) (by simp [hd]) (by simpa using h48) (by simp [val]) (by omega)
      | false =>
        have hL : inums (c :: t) (.ahead out) = none := by simp [inums, h30, h48, hd]
        rw [hL]
        refine ⟨fun h => (by cases h), fun ⟨h1, h2⟩ => ?_⟩
        exfalso
        by_cases h32 : c = 32
        · subst h32
          simp [snums, num1_nil] at h1
        rw [hs h32] at h1
        by_cases h45 : c = 45
        · subst h45
          obtain ⟨x, hx, hx0⟩ := snums_neg t out [] ns h1
          have := h2.1 x hx
          omega
        · rw [snums_dead t out [c] (fun x => dead_sign (cur := []) hd (by simpa using h45) x)] at h1
          cases h1
    · cases hd : isD c with
      | true =>
        have hb := dg_bd hd
        have hall' : (cur ++ [c]).all isD = true := all_snoc.2 ⟨hall, hd⟩
        have hne' : cur ++ [c] ≠ [] := by simp
        have h0' : (cur ++ [c]).head? ≠ some 48 := by cases cur with | nil => exact absurd rfl hne | cons d u => simpa using h0
        have hv' : val (cur ++ [c]) = 10 * n + dg c := by rw [val_snoc, hv]; omega
        have hsn : snums (c :: t) out cur = snums t out (cur ++ [c]) := by simp [snums, (isD_ne hd).1]
        rw [hsn]
        by_cases hbig : 999999999 < 10 * n + dg c
        · have hL : inums (c :: t) (.within n out) = none := by simp [inums, hd, hbig]
          rw [hL]
          refine ⟨fun h => (by cases h), fun ⟨h1, _⟩ => ?_⟩
          have hlen : 9 < (cur ++ [c]).length := by
            have := (val_nine hall' hne' h0').1
            rw [hv'] at this
            omega
          rw [snums_dead t out _ (dead_long hne' (digit_word hne' hall') hlen)] at h1
          cases h1
        · have hL : inums (c :: t) (.within n out) = inums t (.within (10 * n + dg c) out) := by simp [inums, hd, hbig]
          rw [hL]
          exact iW out (10 * n + dg c) (cur ++ [c]) ns ho hne' hall' h0' hv' (by omega)
      | false =>
        by_cases h32 : c = 32
        · subst h32
          have hL : inums (32 :: t) (.within n out) = inums t (.ahead (out ++ [n])) := by simp [inums, hd]
          have hsn : snums (32 :: t) out cur = snums t (out ++ [n]) [] := by simp [snums, num1_word hne hall h0 hv hm]
          rw [hL, hsn, iA (out ++ [n]) ns (by simp; omega)]
          have hn0 : 0 ≤ n := by rw [← hv]; exact val_nonneg hall
          exact ⟨fun ⟨a, b⟩ => ⟨a, (fine_snoc (snums_pre _ _ _ _ a) hn0).2 b⟩, fun ⟨a, b⟩ => ⟨a, (fine_snoc (snums_pre _ _ _ _ a) hn0).1 b⟩⟩
        · have hL : inums (c :: t) (.within n out) = none := by simp [inums, hd, h32]
          have hsn : snums (c :: t) out cur = snums t out (cur ++ [c]) := by simp [snums, h32]
          rw [hL, hsn, snums_dead t out _ (dead_sign hd (by cases cur with | nil => exact absurd rfl hne | cons d u => simpa using digit_word hne hall))]
          simp
    · by_cases h32 : c = 32
      · subst h32
        have hL : inums (32 :: t) (.behind (out ++ [0])) = inums t (.ahead (out ++ [0])) := by simp [inums]
        have hsn : snums (32 :: t) out [48] = snums t (out ++ [0]) [] := by simp [snums, num1_nought]
        rw [hL, hsn, iA (out ++ [0]) ns (by simp; omega)]
        exact ⟨fun ⟨a, b⟩ => ⟨a, (fine_snoc (snums_pre _ _ _ _ a) (Int.le_refl _)).2 b⟩, fun ⟨a, b⟩ => ⟨a, (fine_snoc (snums_pre _ _ _ _ a) (Int.le_refl _)).1 b⟩⟩
      · have hL : inums (c :: t) (.behind (out ++ [0])) = none := by simp [inums, h32]
        have hsn : snums (c :: t) out [48] = snums t out [48, c] := by simp [snums, h32]
        rw [hL, hsn, snums_dead t out [48, c] (fun x => dead_nought (d := [c]) (by simp) x)]
        simp

end Go.Proofs.YticckgmkhgnmfaaDoor

/-
  Which commands are right: a plain function.
-/
set_option linter.unusedVariables false
set_option linter.unusedSimpArgs false
namespace Go.Proofs.YticckgmkhgnmfaaDoor

def batB (F T G : Nat → Int) : Nat → Bool
  | 0 => true
  | k + 1 => batB F T G k && arcB (F k) (T k) (G k) 24
def batchB (F T G : Nat → Int) (n : Nat) : Bool := decide (1 ≤ n) && (decide (n ≤ 10) && batB F T G n)
/-- Whether a command is right. -/
def cmdB (K : Int) (n : Nat) (F T G : Nat → Int) (a b : Int) : Bool :=
  if K = 1 then decide (n = 0) && (decide (a = 0) && decide (b = 0))
  else if K = 2 then batchB F T G n && (decide (a = 0) && decide (b = 0))
  else if K = 3 then decide (n = 0) && (inB a 0 23 && inB b 0 23)
  else false
theorem batB_no {F T G : Nat → Int} : ∀ {n k : Nat}, k < n → arcB (F k) (T k) (G k) 24 = false → batB F T G n = false
  | 0, k, h, _ => by omega
  | n + 1, k, h, hb => by
    unfold batB
    by_cases e : k = n
    · subst e; rw [hb]; simp
    · rw [batB_no (n := n) (k := k) (by omega) hb]; simp


end Go.Proofs.YticckgmkhgnmfaaDoor

/-
  A command out of its text, plainly: the document's reading and the program's are one.
-/
set_option linter.unusedVariables false
set_option linter.unusedSimpArgs false
namespace Go.Proofs.YticckgmkhgnmfaaDoor

def isL (c : UInt8) : Bool := decide (97 ≤ c.toNat) && decide (c.toNat ≤ 122)
def at3 (ns : List Int) (j k : Nat) : Int := ns.getD (3 * k + j) 0
def txNone : List UInt8 := [110, 111, 110, 101]
def txAsk : List UInt8 := [97, 115, 107]
def txWeigh : List UInt8 := [119, 101, 105, 103, 104]
/-- Is a command of this kind with these numbers right? -/
def okC (K : Int) (ns : List Int) : Bool :=
  if K = 1 then true else if K = 2 then cmdB 2 (ns.length / 3) (at3 ns 0) (at3 ns 1) (at3 ns 2) 0 0 else cmdB 3 0 (at3 ns 0) (at3 ns 0) (at3 ns 0) (ns.getD 0 0) (ns.getD 1 0)
/-- The document's reading, ahead of the question whether it is right. -/
def rdS (l : List UInt8) : Option (Int × List Int) :=
  if l = txNone then some (1, []) else
  if 4 < l.length ∧ l.take 4 = txAsk ++ [32] then (match snums (l.drop 4) [] [] with | some ns => if ns.length = 2 then some (3, ns) else none | none => none) else
  if 6 < l.length ∧ l.take 6 = txWeigh ++ [32] then (match snums (l.drop 6) [] [] with | some ns => if ns.length % 3 = 0 then some (2, ns) else none | none => none) else none
/-- The program's name and numbers. -/
def wds (l : List UInt8) : Option (List UInt8 × List Int) :=
  match l.dropWhile isL with
  | [] => some (l, [])
  | c :: t => if c = 32 then (inums t (.ahead [])).map (fun ns => (l.takeWhile isL, ns)) else none
def cmdOf (nm : List UInt8) (ns : List Int) : Option (Int × List Int) :=
  if nm = txNone then (if ns.length = 0 then some (1, []) else none) else
  if nm = txWeigh then (if ns.length % 3 = 0 then some (2, ns) else none) else
  if nm = txAsk then (if ns.length = 2 then some (3, ns) else none) else none
def rdI (l : List UInt8) : Option (Int × List Int) := match wds l with | some (nm, ns) => cmdOf nm ns | none => none
def onlyOk (r : Option (Int × List Int)) : Option (Int × List Int) := match r with | some (K, ns) => if okC K ns = true then some (K, ns) else none | none => none

theorem inB_iff {x lo hi : Int} : inB x lo hi = true ↔ lo ≤ x ∧ x ≤ hi := by simp [inB]
theorem arcB_iff {f t g p : Int} : arcB f t g p = true ↔ (0 ≤ f ∧ f ≤ p - 1) ∧ (0 ≤ t ∧ t ≤ p - 1) ∧ f ≠ t ∧ 1 ≤ g ∧ g ≤ 1000000 := by simp [arcB, inB]
theorem batB_at {F T G : Nat → Int} : ∀ {n k : Nat}, batB F T G n = true → k < n → arcB (F k) (T k) (G k) 24 = true
  | 0, k, _, h => by omega
  | n + 1, k, hb, h => by
    unfold batB at hb
    rw [Bool.and_eq_true] at hb
    by_cases e : k = n
    · subst e; exact hb.2
    · exact batB_at hb.1 (by omega)
theorem fine3 {ns : List Int} (hl : ns.length = 2) (h : okC 3 ns = true) : Fine 0 ns := by
  match ns, hl with
  | [a, b], _ =>
    simp [okC, cmdB, inB_iff] at h
    exact ⟨by simp; omega, by simp⟩
theorem fine2 {ns : List Int} (hl : ns.length % 3 = 0) (h : okC 2 ns = true) : Fine 0 ns := by
  simp [okC, cmdB, batchB] at h
  obtain ⟨h1, h2, h3⟩ := h
  refine ⟨fun x hx => ?_, by omega⟩
  simp at hx
  obtain ⟨i, hi, rfl⟩ := List.getElem_of_mem hx
  have hb := arcB_iff.1 (batB_at (k := i / 3) h3 (by omega))
  have hg : ∀ j, 3 * (i / 3) + j = i → at3 ns j (i / 3) = ns[i] := fun j e => by
    unfold at3
    rw [e]
    simp [List.getD, hi]
  have hm : i % 3 = 0 ∨ i % 3 = 1 ∨ i % 3 = 2 := by omega
  rcases hm with hm | hm | hm
  · rw [← hg 0 (by omega)]; omega
  · rw [← hg 1 (by omega)]; omega
  · rw [← hg 2 (by omega)]; omega
theorem drop_split (l : List UInt8) : l = l.takeWhile isL ++ l.dropWhile isL := (List.takeWhile_append_dropWhile).symm
theorem take_ask {l : List UInt8} (h : l.take 4 = txAsk ++ [32]) : l.takeWhile isL = txAsk ∧ l.dropWhile isL = 32 :: l.drop 4 := by
  match l, h with
  | a :: b :: c :: d :: t, h =>
    simp [txAsk] at h
    obtain ⟨rfl, rfl, rfl, rfl⟩ := h
    exact ⟨rfl, rfl⟩
  | [a, b, c], h => simp [txAsk] at h
  | [a, b], h => simp [txAsk] at h
  | [a], h => simp [txAsk] at h
  | [], h => simp [txAsk] at h
theorem take_weigh {l : List UInt8} (h : l.take 6 = txWeigh ++ [32]) : l.takeWhile isL = txWeigh ∧ l.dropWhile isL = 32 :: l.drop 6 := by
  match l, h with
  | a :: b :: c :: d :: e :: f :: t, h =>
    simp [txWeigh] at h
    obtain ⟨rfl, rfl, rfl, rfl, rfl, rfl⟩ := h
    exact ⟨rfl, rfl⟩
  | [a, b, c, d, e], h => simp [txWeigh] at h
  | [a, b, c, d], h => simp [txWeigh] at h
  | [a, b, c], h => simp [txWeigh] at h
  | [a, b], h => simp [txWeigh] at h
  | [a], h => simp [txWeigh] at h
  | [], h => simp [txWeigh] at h
theorem none_drop : txNone.dropWhile isL = [] ∧ txNone.takeWhile isL = txNone := by decide
theorem nums_zero {t : List UInt8} {ns : List Int} : inums t (.ahead []) = some ns ↔ snums t [] [] = some ns ∧ Fine 0 ns := (nums_same t).1 [] ns (by simp)
theorem snums_nil : snums [] [] [] = none := by simp [snums, num1_nil]
/-- One kind's numbers, read either way. -/
theorem only_kind {t : List UInt8} {K : Int} {C : List Int → Prop} [DecidablePred C] (hf : ∀ ns, C ns → okC K ns = true → Fine 0 ns) :
    onlyOk (match inums t (.ahead []) with | some ns => if C ns then some (K, ns) else none | none => none) = onlyOk (match snums t [] [] with | some ns => if C ns then some (K, ns) else none | none => none) := by
  cases hs : snums t [] [] with
  | none =>
    have hi : inums t (.ahead []) = none := by
      cases hi : inums t (.ahead []) with
      | none => rfl
      | some ns => have := (nums_zero.1 hi).1; rw [hs] at this; cases this
    rw [hi]
  | some ns =>
    by_cases hF : Fine 0 ns
    · rw [nums_zero.2 ⟨hs, hF⟩]
    · have hi : inums t (.ahead []) = none := by
        cases hi : inums t (.ahead []) with
        | none => rfl
        | some ns' =>
          have := nums_zero.1 hi
          rw [hs] at this
          obtain ⟨e, hF'⟩ := this
          cases e
          exact absurd hF' hF
      rw [hi]
      by_cases hC : C ns
      · have hk : okC K ns = false := by
          cases hk : okC K ns with
          | false => rfl
          | true => exact absurd (hf ns hC hk) hF
        simp [onlyOk, hC, hk]
      · simp [onlyOk, hC]
theorem read_same (l : List UInt8) : onlyOk (rdI l) = onlyOk (rdS l) := by
  by_cases h1 : l = txNone
  · subst h1
    have e1 : rdI txNone = some (1, []) := by decide
    have e2 : rdS txNone = some (1, []) := by simp [rdS]
    rw [e1, e2]
  by_cases h2 : l.take 4 = txAsk ++ [32]
  · obtain ⟨hn, hd⟩ := take_ask h2
    have e1 : rdI l = match inums (l.drop 4) (.ahead []) with | some ns => if ns.length = 2 then some (3, ns) else none | none => none := by
      unfold rdI wds
      rw [hd, hn]
      simp only [if_pos]
      cases inums (l.drop 4) (.ahead []) with
      | none => rfl
      | some ns => simp [cmdOf, txAsk, txNone, txWeigh]
    rw [e1, only_kind (fun ns hC hk => fine3 hC hk)]
    by_cases h4 : 4 < l.length
    · unfold rdS
      rw [if_neg h1, if_pos ⟨h4, h2⟩]
    · have hdr : l.drop 4 = [] := List.drop_eq_nil_of_le (by omega)
      have h6 : ¬ 6 < l.length := by omega
      unfold rdS
      rw [if_neg h1, if_neg (fun e => h4 e.1), if_neg (fun e => h6 e.1), hdr, snums_nil]
  by_cases h3 : l.take 6 = txWeigh ++ [32]
  · obtain ⟨hn, hd⟩ := take_weigh h3
    have e1 : rdI l = match inums (l.drop 6) (.ahead []) with | some ns => if ns.length % 3 = 0 then some (2, ns) else none | none => none := by
      unfold rdI wds
      rw [hd, hn]
      simp only [if_pos]
      cases inums (l.drop 6) (.ahead []) with
      | none => rfl
      | some ns => simp [cmdOf, txAsk, txNone, txWeigh]
    rw [e1, only_kind (fun ns hC hk => fine2 hC hk)]
    by_cases h6 : 6 < l.length
    · unfold rdS
      rw [if_neg h1, if_neg (fun e => h2 e.2), if_pos ⟨h6, h3⟩]
    · have hdr : l.drop 6 = [] := List.drop_eq_nil_of_le (by omega)
      unfold rdS
      rw [if_neg h1, if_neg (fun e => h2 e.2), if_neg (fun e => h6 e.1), hdr, snums_nil]
  have e2 : rdS l = none := by
    unfold rdS
    rw [if_neg h1, if_neg (fun e => h2 e.2), if_neg (fun e => h3 e.2)]
  rw [e2]
  have hsp := drop_split l
  unfold rdI wds
  cases hd : l.dropWhile isL with
  | nil =>
    simp only []
    unfold cmdOf
    rw [if_neg h1]
    by_cases hw : l = txWeigh
    · subst hw
      simp [onlyOk, okC, cmdB, batchB]
    · rw [if_neg hw]
      by_cases ha : l = txAsk
      · rw [if_pos ha]; simp [onlyOk]
      · rw [if_neg ha]
  | cons c t =>
    simp only []
    by_cases hc : c = 32
    · rw [if_pos hc]
      subst hc
      rw [hd] at hsp
      cases hi : inums t (.ahead []) with
      | none => rfl
      | some ns =>
        simp only [Option.map_some]
        unfold cmdOf
        by_cases ha : l.takeWhile isL = txAsk
        · exact absurd (by rw [hsp, ha]; simp [txAsk]) h2
        by_cases hw : l.takeWhile isL = txWeigh
        · exact absurd (by rw [hsp, hw]; simp [txWeigh]) h3
        rw [if_neg hw, if_neg ha]
        by_cases hno : l.takeWhile isL = txNone
        · rw [if_pos hno]
          by_cases h0 : ns.length = 0
          · have : ns = [] := List.length_eq_zero_iff.1 h0
            subst this
            have hs := (nums_zero.1 hi).1
            exfalso
            have hlong : ∀ (l cur : List UInt8), snums l [] cur ≠ some [] := by
              intro l
              induction l with
              | nil => intro cur; simp [snums]
              | cons d u ih =>
                intro cur
                unfold snums
                split
                · cases hn : num1 cur with
                  | none => simp
                  | some n =>
                    simp only []
                    intro h
                    have := (snums_pre u ([] ++ [n]) [] [] h).length_le
                    simp at this
                · exact ih _
            exact hlong _ _ hs
          · rw [if_neg h0]
        · rw [if_neg hno]
    · rw [if_neg hc]

end Go.Proofs.YticckgmkhgnmfaaDoor

/-
  Memory of the call's own, cell by cell: a block that may be written and whose first cells are known.
-/
set_option linter.unusedVariables false
set_option linter.unusedSimpArgs false
namespace Go.Proofs.YticckgmkhgnmfaaDoor
open Go.RowKit

/-- Block b, of type t, begins with the n cells f and may be written. -/
def VHas (w : World) (b : Nat) (t : TypeId) (n : Nat) (f : Nat → Value) : Prop := ∃ cur : Array Value, w.heap[b]? = some (.cells cur t (0, 0)) ∧ n ≤ cur.size ∧ ∀ j, j < n → cur[j]? = some (f j)
theorem VHas.cell {w : World} {b n : Nat} {t : TypeId} {f : Nat → Value} (h : VHas w b t n f) {j : Nat} (hj : j < n) : w.cell? ⟨b, j, none⟩ = some (f j) := by
  obtain ⟨c, hb, _, hc⟩ := h
  simp [World.cell?, hb, hc j hj]
theorem VHas.frozen {w : World} {b n : Nat} {t : TypeId} {f : Nat → Value} (h : VHas w b t n f) (j : Nat) : w.frozen? ⟨b, j, none⟩ = false := by
  obtain ⟨c, hb, _, _⟩ := h
  simp [World.frozen?, hb]
theorem VHas.lt {w : World} {b n : Nat} {t : TypeId} {f : Nat → Value} (h : VHas w b t n f) : b < w.heap.size := by
  obtain ⟨c, hb, _, _⟩ := h
  exact (Array.getElem?_eq_some_iff.1 hb).1
theorem VHas.of_block {w w' : World} {b n : Nat} {t : TypeId} {f : Nat → Value} (h : VHas w b t n f) (e : w'.heap[b]? = w.heap[b]?) : VHas w' b t n f := by
  obtain ⟨c, hb, hn, hc⟩ := h
  exact ⟨c, e.trans hb, hn, hc⟩
theorem VHas.congr {w : World} {b n : Nat} {t : TypeId} {f g : Nat → Value} (h : VHas w b t n f) (e : ∀ j, j < n → f j = g j) : VHas w b t n g := by
  obtain ⟨c, hb, hn, hc⟩ := h
  exact ⟨c, hb, hn, fun j hj => by rw [hc j hj, e j hj]⟩
theorem VHas.set {w : World} {b n : Nat} {t : TypeId} {f : Nat → Value} (h : VHas w b t n f) (i : Nat) (v : Value) : VHas (w.setCell ⟨b, i, none⟩ v) b t n (fun j => if j = i then v else f j) := by
  obtain ⟨c, hb, hn, hc⟩ := h
  refine ⟨c.setIfInBounds i v, ?_, by simpa using hn, fun j hj => ?_⟩
  · simp [World.setCell, Array.getElem?_modify, hb]
  · rw [Array.getElem?_setIfInBounds]
    by_cases e : j = i
    · subst e
      simp; omega
    · rw [if_neg (fun h => e h.symm)]
      show c[j]? = some (if j = i then v else f j)
      rw [if_neg e]
      exact hc j hj
theorem VHas.other {w : World} {b n c i : Nat} {t : TypeId} {f : Nat → Value} (h : VHas w b t n f) (hne : b ≠ c) (v : Value) : VHas (w.setCell ⟨c, i, none⟩ v) b t n f := h.of_block (Below.heap_setCell _ _ _ _ (fun e => hne (by simpa using e)))
theorem VHas.below {w w' : World} {b n B : Nat} {t : TypeId} {f : Nat → Value} (h : VHas w b t n f) (hb : Below B w w') (hB : b < B) : VHas w' b t n f := h.of_block (hb.block b hB)
theorem VHas.next {w w' : World} {b n : Nat} {t : TypeId} {f : Nat → Value} (h : VHas w b t n f) (hb : Below w.heap.size w w') : VHas w' b t n f := h.below hb h.lt
theorem VHas.alloc {w : World} {b n : Nat} {t : TypeId} {f : Nat → Value} (h : VHas w b t n f) (o : Obj) : VHas (w.alloc o) b t n f := h.next ((Below.refl _ _).alloc (Nat.le_refl _) _)
theorem VHas.grown {w w' : World} {b n : Nat} {t : TypeId} {f : Nat → Value} {row : Option Nat} (h : VHas w b t n f) (hg : w.grownBy w' row) (hne : some b ≠ row) : VHas w' b t n f := h.of_block (hg.block b h.lt hne)
theorem VHas.of_row {w : World} {b n : Nat} {t : TypeId} {f : Nat → Value} (h : w.rowIs b t n f) : VHas w b t n f := by
  obtain ⟨c, hb, hn, hc⟩ := h
  exact ⟨c, hb, by omega, hc⟩

end Go.Proofs.YticckgmkhgnmfaaDoor

/-
  Lists of numbers: read behind an address, of the call's own, copied, held against each other, marked. For every list of at most 2^20 numbers.
-/
set_option linter.unusedVariables false
set_option linter.unusedSimpArgs false
namespace Go.Proofs.YticckgmkhgnmfaaDoor
open Go.RowKit
attribute [local go_sem ↓] Go.wp_at_zero Go.wp_at_succ

/-- n numbers lie behind a slice's address. -/
def IRow (w : World) (ao : Option Addr) (n : Nat) (f : Nat → Int) : Prop := ∀ k, k < n → ∃ b o, ao = some ⟨b, o, none⟩ ∧ w.cell? ⟨b, o + k, none⟩ = some (.int .i64 (f k))
theorem IRow.below {w w' : World} {B : Nat} {ao : Option Addr} {n : Nat} {f : Nat → Int} (h : IRow w ao n f) (hb : Below B w w') (hB : w.heap.size ≤ B) : IRow w' ao n f := fun k hk => by
  obtain ⟨b, o, e, c0⟩ := h k hk
  have hlt := lt_of_cell c0
  exact ⟨b, o, e, by rw [hb.cell (by simp; omega)]; exact c0⟩
theorem IRow.alloc {w : World} {ao : Option Addr} {n : Nat} {f : Nat → Int} (h : IRow w ao n f) (o : Obj) : IRow (w.alloc o) ao n f := h.below ((Below.refl w.heap.size w).alloc (Nat.le_refl _) o) (Nat.le_refl _)
theorem IRow.congr {w : World} {ao : Option Addr} {n : Nat} {f g : Nat → Int} (h : IRow w ao n f) (e : ∀ k, k < n → f k = g k) : IRow w ao n g := fun k hk => by
  obtain ⟨b, o, h1, h2⟩ := h k hk
  exact ⟨b, o, h1, by rw [h2, e k hk]⟩

/-- Block b begins with n numbers of the call's own, which may be written. -/
def IHas (w : World) (b n : Nat) (f : Nat → Int) : Prop := ∃ cur : Array Value, w.heap[b]? = some (.cells cur 2 (0, 0)) ∧ n ≤ cur.size ∧ ∀ j, j < n → cur[j]? = some (.int .i64 (f j))
theorem IHas.cell {w : World} {b n : Nat} {f : Nat → Int} (h : IHas w b n f) {j : Nat} (hj : j < n) : w.cell? ⟨b, j, none⟩ = some (.int .i64 (f j)) := by
  obtain ⟨c, hb, _, hc⟩ := h
  simp [World.cell?, hb, hc j hj]
theorem IHas.frozen {w : World} {b n : Nat} {f : Nat → Int} (h : IHas w b n f) (j : Nat) : w.frozen? ⟨b, j, none⟩ = false := by
  obtain ⟨c, hb, _, _⟩ := h
  simp [World.frozen?, hb]
theorem IHas.lt {w : World} {b n : Nat} {f : Nat → Int} (h : IHas w b n f) : b < w.heap.size := by
  obtain ⟨c, hb, _, _⟩ := h
  exact (Array.getElem?_eq_some_iff.1 hb).1
theorem IHas.of_block {w w' : World} {b n : Nat} {f : Nat → Int} (h : IHas w b n f) (e : w'.heap[b]? = w.heap[b]?) : IHas w' b n f := by
  obtain ⟨c, hb, hn, hc⟩ := h
  exact ⟨c, e.trans hb, hn, hc⟩
theorem IHas.congr {w : World} {b n : Nat} {f g : Nat → Int} (h : IHas w b n f) (e : ∀ j, j < n → f j = g j) : IHas w b n g := by
  obtain ⟨c, hb, hn, hc⟩ := h
  exact ⟨c, hb, hn, fun j hj => by rw [hc j hj, e j hj]⟩
theorem IHas.set {w : World} {b n : Nat} {f : Nat → Int} (h : IHas w b n f) (i : Nat) (v : Int) : IHas (w.setCell ⟨b, i, none⟩ (.int .i64 v)) b n (fun j => if j = i then v else f j) := by
  obtain ⟨c, hb, hn, hc⟩ := h
  refine ⟨c.setIfInBounds i (.int .i64 v), ?_, by simpa using hn, fun j hj => ?_⟩
  · simp [World.setCell, Array.getElem?_modify, hb]
  · rw [Array.getElem?_setIfInBounds]
    by_cases e : j = i
    · subst e
      simp; omega
    · rw [if_neg (fun h => e h.symm)]
      show c[j]? = some (.int .i64 (if j = i then v else f j))
      rw [if_neg e]
      exact hc j hj
theorem IHas.row {w : World} {b n : Nat} {f : Nat → Int} (h : IHas w b n f) : IRow w (some ⟨b, 0, none⟩) n f := fun k hk => ⟨b, 0, rfl, by simpa using h.cell hk⟩
theorem IHas.below {w w' : World} {b n B : Nat} {f : Nat → Int} (h : IHas w b n f) (hb : Below B w w') (hB : b < B) : IHas w' b n f := h.of_block (hb.block b hB)
theorem IHas.grown {w w' : World} {b n : Nat} {f : Nat → Int} {row : Option Nat} (h : IHas w b n f) (hg : w.grownBy w' row) (hne : some b ≠ row) : IHas w' b n f := h.of_block (hg.block b h.lt hne)
theorem IHas.of_row {w : World} {b n : Nat} {f : Nat → Int} (h : w.rowIs b 2 n (fun j => .int .i64 (f j))) : IHas w b n f := by
  obtain ⟨c, hb, hn, hc⟩ := h
  exact ⟨c, hb, by omega, hc⟩

theorem Tryd.infoInt : (Tryd.prog.info? 2).map (fun i => (i.zero, i.size, i.bytes)) = some (some (.int .i64 0), 1, 8) := by kernel_rfl
theorem make_ints (n : Nat) (hn : n ≤ 1048576) (w : World) :
    (Instr.makeSlice 49 (.int .i64 (n : Int)) (.int .i64 (n : Int))).run Tryd.prog w = .ok (.slice (some ⟨w.heap.size, 0, none⟩) n n) (w.alloc (.cells (madeCells #[.int .i64 0] n) 2)) :=
  run_make_row' 49 2 _ 8 Tryd.underlying49 Tryd.infoInt rfl .i64 .i64 n (by omega) (by omega) w
theorem made_ints (w : World) (n : Nat) : IHas (w.alloc (.cells (madeCells #[.int .i64 0] n) 2)) w.heap.size n (fun _ => 0) := IHas.of_row (World.rowIs_made w _ n _)





end Go.Proofs.YticckgmkhgnmfaaDoor

/-
  A list of arcs of the call's own, or none yet, that grows by one, its numbers known: the law for the walk. A command's box, and a command that is answered.
-/
set_option linter.unusedVariables false
set_option linter.unusedSimpArgs false
namespace Go.Proofs.YticckgmkhgnmfaaDoor
open Go.RowKit Go.Maps

/-- n arcs behind a slice of the call's own, or a slice that is nil. -/
def OwnA (w : World) (base : Nat) (go : Option Addr) (n cap : Nat) (f : Nat → Int) : Prop := w.ownsRow base 82 3 (.slice go n cap) n (cellsOf f (n * 3))
theorem OwnA.nil (w : World) (base : Nat) (f : Nat → Int) : OwnA w base none 0 0 f := ⟨by simp [cellsOf], .inl ⟨rfl, rfl⟩⟩
theorem OwnA.at {w : World} {base n cap x : Nat} {go : Option Addr} {f : Nat → Int} (h : OwnA w base go n cap f) (e : (Value.slice go n cap).ownBlock = some x) : base ≤ x ∧ x < w.heap.size := World.ownsRow.lt h x e
theorem OwnA.of_block {w w' : World} {base n cap : Nat} {go : Option Addr} {f : Nat → Int} (h : OwnA w base go n cap f) (e : ∀ x, (Value.slice go n cap).ownBlock = some x → w'.heap[x]? = w.heap[x]?) : OwnA w' base go n cap f := by
  refine ⟨h.1, ?_⟩
  rcases h.2 with hn | ⟨g', cap', cur, hv, hb', hgg, rest⟩
  · exact .inl hn
  · have e2 := e g' (by rw [hv]; rfl)
    exact .inr ⟨g', cap', cur, hv, hb', e2.trans hgg, rest⟩
theorem OwnA.next {w w' : World} {base n cap : Nat} {go : Option Addr} {f : Nat → Int} (h : OwnA w base go n cap f) (hb : Below w.heap.size w w') : OwnA w' base go n cap f := h.of_block (fun x e => hb.block x (h.at e).2)
theorem OwnA.grown {w w' : World} {base n cap : Nat} {go : Option Addr} {f : Nat → Int} {row : Option Nat} (h : OwnA w base go n cap f) (hg : w.grownBy w' row) (hne : ∀ x, (Value.slice go n cap).ownBlock = some x → row ≠ some x) : OwnA w' base go n cap f := h.of_block (fun x e => hg.block x (h.at e).2 (fun q => hne x e q.symm))
theorem OwnA.owns {w : World} {base n cap : Nat} {go : Option Addr} {f : Nat → Int} (h : OwnA w base go n cap f) : OwnS w base go n f := fun k hk => by
  obtain ⟨hl, h0 | ⟨g', cap', cur, hv, hb, hh, h1, h2, h3, h4⟩⟩ := h
  · omega
  · simp at hv
    obtain ⟨rfl, rfl⟩ := hv
    refine ⟨g', rfl, hb, cur, hh, by omega, fun j hj => ?_⟩
    have : (cur.toList.take (n * 3))[j]? = (cellsOf f (n * 3))[j]? := by rw [h4]
    rw [List.getElem?_take_of_lt hj, cellsOf, List.getElem?_map, List.getElem?_range hj] at this
    simpa using this
theorem OwnA.cap0 {w : World} {base n cap : Nat} {f : Nat → Int} (h : OwnA w base none n cap f) : n = 0 := by
  obtain ⟨hl, h0 | ⟨g', cap', cur, hv, _⟩⟩ := h
  · exact h0.2
  · simp at hv
theorem cells_next (f : Nat → Int) (n : Nat) : cellsOf f (n * 3) ++ [.int .i64 (f (n * 3)), .int .i64 (f (n * 3 + 1)), .int .i64 (f (n * 3 + 2))] = cellsOf f ((n + 1) * 3) := by
  have e : (n + 1) * 3 = n * 3 + 1 + 1 + 1 := by omega
  rw [e]
  simp [cellsOf, List.range_succ]
theorem news3_arc {w : World} {B : Nat} {x y z : Int} {t : TypeId} (hb : w.heap[B]? = some (.cells #[.int .i64 x, .int .i64 y, .int .i64 z] t (0, 0))) : ∀ j u, [Value.int .i64 x, .int .i64 y, .int .i64 z][j]? = some u → w.cell? ((⟨B, 0, none⟩ : Addr).add j) = some u :=
  World.news_of_block hb
theorem ones_arc (x y z : Int) : ∀ u ∈ [Value.int .i64 x, .int .i64 y, .int .i64 z], u.oneCell' = true := fun u hu => by
  simp at hu
  rcases hu with rfl | rfl | rfl <;> rfl
theorem wp_append_known {o : Oper} {a : Act} {w : World} {K : Act → World → Prop} {Q : Exit → Act → World → Prop} (s x : Operand)
    (ho : o.op = .call { callee := .builtin .append, args := #[s, x], argTypes := #[38, 38] }) (base k gc : Nat) (go : Option Addr) (f : Nat → Int) (hs : a.eval s = .slice go k gc) (hown : OwnA w base go k gc f) (B : Nat) (hx : a.eval x = .slice (some ⟨B, 0, none⟩) 1 1)
    (hB : w.heap[B]? = some (.cells #[.int .i64 (f (k * 3)), .int .i64 (f (k * 3 + 1)), .int .i64 (f (k * 3 + 2))] 82 (0, 0))) (hk : k ≤ 10000000) (hbase : base ≤ w.heap.size)
    (h : ∀ g' gc' w', OwnA w' base (some ⟨g', 0, none⟩) (k + 1) gc' f → w.grownBy w' (Value.slice go k gc).ownBlock → ((Value.slice go k gc).ownBlock = some g' ∨ g' = w.heap.size) → K (a.put o.dst (.slice (some ⟨g', 0, none⟩) (k + 1) gc')) w') : o.wp Tryd.prog a w K Q := by
  obtain ⟨i0, hi0, hz0, hz1, hz2⟩ := info_parts Tryd.infoArc
  refine wp_append_lies w s x 38 ho base 82 i0 _ 3 24 Tryd.underlying38 hi0 hz0 hz1 hz2 rfl (by omega) _ k (cellsOf f (k * 3)) hs hown ⟨B, 0, none⟩ 1 1 [.int .i64 (f (k * 3)), .int .i64 (f (k * 3 + 1)), .int .i64 (f (k * 3 + 2))] hx rfl (news3_arc hB) (ones_arc _ _ _) (by omega) (by unfold maxLen; omega) (by omega) hbase w.heap.size rfl ?_
  intro g' gc' w' hown' hgrow hat _
  rw [cells_next] at hown'
  exact h g' gc' w' hown' hgrow hat
theorem step_append_known {ops : Array Oper} {o : Oper} {a : Act} {w : World} {K : Act → World → Prop} {Q : Exit → Act → World → Prop} {E : Prop} (hgd : o.guard = none) (s x : Operand)
    (ho : o.op = .call { callee := .builtin .append, args := #[s, x], argTypes := #[38, 38] }) (base k gc : Nat) (go : Option Addr) (f : Nat → Int) (hs : a.eval s = .slice go k gc) (hown : OwnA w base go k gc f) (B : Nat) (hx : a.eval x = .slice (some ⟨B, 0, none⟩) 1 1)
    (hB : w.heap[B]? = some (.cells #[.int .i64 (f (k * 3)), .int .i64 (f (k * 3 + 1)), .int .i64 (f (k * 3 + 2))] 82 (0, 0))) (hk : k ≤ 10000000) (hbase : base ≤ w.heap.size)
    (h : ∀ g' gc' w', OwnA w' base (some ⟨g', 0, none⟩) (k + 1) gc' f → w.grownBy w' (Value.slice go k gc).ownBlock → ((Value.slice go k gc).ownBlock = some g' ∨ g' = w.heap.size) → K (a.put o.dst (.slice (some ⟨g', 0, none⟩) (k + 1) gc')) w') :
    if Region.wanted o (yielded ops a.tmps) = true then Oper.wp Tryd.prog o a w K Q else E := by
  have hw : Region.wanted o (yielded ops a.tmps) = true := by simp [Region.wanted, hgd]
  rw [if_pos hw]
  exact wp_append_known s x ho base k gc go f hs hown B hx hB hk hbase h

/-- What is read, field by field. -/
def kOf (r : Option (Int × List Int)) : Int := match r with | some (K, _) => K | none => 0
def lOf (r : Option (Int × List Int)) : List Int := match r with | some (K, ns) => if K = 2 then ns else [] | none => []
def aOf (r : Option (Int × List Int)) (j : Nat) : Int := match r with | some (K, ns) => if K = 3 then ns.getD j 0 else 0 | none => 0
def tri (ns : List Int) : Nat → Int := ar (at3 ns 0) (at3 ns 1) (at3 ns 2)
/-- A command that is answered, and whether it is one. -/
def CAns (w w' : World) (e : Ending) (r : Option (Int × List Int)) : Prop :=
  ∃ ao cap, e = .returned (.tuple #[.agg #[.int .i64 (kOf r), .slice ao ((lOf r).length / 3) cap, .int .i64 (aOf r 0), .int .i64 (aOf r 1)], .bool r.isSome]) ∧ OwnS w' w.heap.size ao ((lOf r).length / 3) (tri (lOf r)) ∧ Below w.heap.size w w'
/-- Four cells in a box. -/
def c4 (v0 v1 v2 v3 : Value) (j : Nat) : Value := if j = 0 then v0 else if j = 1 then v1 else if j = 2 then v2 else v3
theorem c4_new (w : World) (v0 v1 v2 v3 : Value) (t : TypeId) : VHas (w.alloc (.cells #[v0, v1, v2, v3] t)) w.heap.size t 4 (c4 v0 v1 v2 v3) :=
  ⟨_, Go.Deep.blk_alloc_new _ _, by simp, fun j hj => by
    have : j = 0 ∨ j = 1 ∨ j = 2 ∨ j = 3 := by omega
    rcases this with rfl | rfl | rfl | rfl <;> rfl⟩
theorem c4_two (w : World) (v0 v1 v2 v3 u0 u1 u2 u3 : Value) (t : TypeId) :
    VHas ((w.alloc (.cells #[v0, v1, v2, v3] t)).alloc (.cells #[u0, u1, u2, u3] t)) w.heap.size t 4 (c4 v0 v1 v2 v3) ∧ VHas ((w.alloc (.cells #[v0, v1, v2, v3] t)).alloc (.cells #[u0, u1, u2, u3] t)) (w.heap.size + 1) t 4 (c4 u0 u1 u2 u3) ∧
    Below w.heap.size w ((w.alloc (.cells #[v0, v1, v2, v3] t)).alloc (.cells #[u0, u1, u2, u3] t)) ∧ ((w.alloc (.cells #[v0, v1, v2, v3] t)).alloc (.cells #[u0, u1, u2, u3] t)).heap.size = w.heap.size + 2 :=
  ⟨(c4_new w v0 v1 v2 v3 t).alloc _, by simpa only [World.size_alloc] using c4_new (w.alloc (.cells #[v0, v1, v2, v3] t)) u0 u1 u2 u3 t, ((Below.refl _ _).alloc (Nat.le_refl _) _).alloc (by simp) _, by simp⟩
/-- The four cells of a command's box, once it is filled. -/
theorem st4 {W : World} {b : Nat} {t : TypeId} {f : Nat → Value} (h : VHas W b t 4 f) (v0 v1 v2 v3 : Value) :
    ((((W.setCell ⟨b, 0, none⟩ v0).setCell ⟨b, 1, none⟩ v1).setCell ⟨b, 2, none⟩ v2).setCell ⟨b, 3, none⟩ v3).cell? ⟨b, 0, none⟩ = some v0 ∧ ((((W.setCell ⟨b, 0, none⟩ v0).setCell ⟨b, 1, none⟩ v1).setCell ⟨b, 2, none⟩ v2).setCell ⟨b, 3, none⟩ v3).cell? ⟨b, 1, none⟩ = some v1 ∧
    ((((W.setCell ⟨b, 0, none⟩ v0).setCell ⟨b, 1, none⟩ v1).setCell ⟨b, 2, none⟩ v2).setCell ⟨b, 3, none⟩ v3).cell? ⟨b, 2, none⟩ = some v2 ∧ ((((W.setCell ⟨b, 0, none⟩ v0).setCell ⟨b, 1, none⟩ v1).setCell ⟨b, 2, none⟩ v2).setCell ⟨b, 3, none⟩ v3).cell? ⟨b, 3, none⟩ = some v3 := by
  have u := (((h.set 0 v0).set 1 v1).set 2 v2).set 3 v3
  exact ⟨u.cell (j := 0) (by omega), u.cell (j := 1) (by omega), u.cell (j := 2) (by omega), u.cell (j := 3) (by omega)⟩
theorem st4_below {w W : World} {b : Nat} (h : Below w.heap.size w W) (hb : w.heap.size ≤ b) (v0 v1 v2 v3 : Value) : Below w.heap.size w ((((W.setCell ⟨b, 0, none⟩ v0).setCell ⟨b, 1, none⟩ v1).setCell ⟨b, 2, none⟩ v2).setCell ⟨b, 3, none⟩ v3) :=
  (((h.setCell (p := ⟨b, 0, none⟩) hb v0).setCell (p := ⟨b, 1, none⟩) hb v1).setCell (p := ⟨b, 2, none⟩) hb v2).setCell (p := ⟨b, 3, none⟩) hb v3
theorem st4_block (W : World) {b x : Nat} (h : x ≠ b) (v0 v1 v2 v3 : Value) : ((((W.setCell ⟨b, 0, none⟩ v0).setCell ⟨b, 1, none⟩ v1).setCell ⟨b, 2, none⟩ v2).setCell ⟨b, 3, none⟩ v3).heap[x]? = W.heap[x]? := by
  rw [Below.heap_setCell _ _ _ _ (by simpa using h), Below.heap_setCell _ _ _ _ (by simpa using h), Below.heap_setCell _ _ _ _ (by simpa using h), Below.heap_setCell _ _ _ _ (by simpa using h)]
theorem OwnS.of_st4 {W : World} {B b n : Nat} {ao : Option Addr} {f : Nat → Int} (h : OwnS W B ao n f) (hb : 0 < n → ∀ a, ao = some a → a.block ≠ b) (v0 v1 v2 v3 : Value) : OwnS ((((W.setCell ⟨b, 0, none⟩ v0).setCell ⟨b, 1, none⟩ v1).setCell ⟨b, 2, none⟩ v2).setCell ⟨b, 3, none⟩ v3) B ao n f := fun k hk => by
  obtain ⟨g, e, hB, hh⟩ := h k hk
  exact ⟨g, e, hB, hh.of_block (st4_block W (hb (by omega) _ e) v0 v1 v2 v3)⟩
theorem OwnS.nxt {W W' : World} {B n : Nat} {ao : Option Addr} {f : Nat → Int} (h : OwnS W B ao n f) (hb : Below W.heap.size W W') : OwnS W' B ao n f := fun k hk => by
  obtain ⟨g, e, hB, hh⟩ := h k hk
  exact ⟨g, e, hB, hh.below hb hh.lt⟩
theorem OwnS.from {W : World} {B B' n : Nat} {ao : Option Addr} {f : Nat → Int} (h : OwnS W B ao n f) (hb : B' ≤ B) : OwnS W B' ao n f := fun k hk => by
  obtain ⟨g, e, hB, hh⟩ := h k hk
  exact ⟨g, e, by omega, hh⟩
theorem owns_none (W : World) (B : Nat) (ao : Option Addr) (f : Nat → Int) : OwnS W B ao 0 f := fun k hk => by omega
theorem cans_ask {w w' : World} {x y : Int} (hB : Below w.heap.size w w') : CAns w w' (.returned (.tuple #[.agg #[.int .i64 3, .slice none 0 0, .int .i64 x, .int .i64 y], .bool true])) (some (3, [x, y])) :=
  ⟨none, 0, by simp [kOf, lOf, aOf], by simp [lOf]; exact owns_none _ _ _ _, hB⟩
theorem cans_weigh {w w' : World} {ns : List Int} {ao : Option Addr} {n cap : Nat} (hn : ns.length / 3 = n) (hO : OwnS w' w.heap.size ao n (tri ns)) (hB : Below w.heap.size w w') : CAns w w' (.returned (.tuple #[.agg #[.int .i64 2, .slice ao n cap, .int .i64 0, .int .i64 0], .bool true])) (some (2, ns)) :=
  ⟨ao, cap, by simp [kOf, lOf, aOf, hn], by simp [lOf, hn]; exact hO, hB⟩
theorem tri0 (ns : List Int) (k : Nat) : tri ns (k * 3) = ns.getD (3 * k) 0 := by unfold tri; rw [ar0]; rfl
theorem tri1 (ns : List Int) (k : Nat) : tri ns (k * 3 + 1) = ns.getD (3 * k + 1) 0 := by unfold tri; rw [ar1]; rfl
theorem tri2 (ns : List Int) (k : Nat) : tri ns (k * 3 + 2) = ns.getD (3 * k + 2) 0 := by unfold tri; rw [ar2]; rfl

end Go.Proofs.YticckgmkhgnmfaaDoor

/-
  Lists of numbers of the call's own that grow by one: the law for the walk.
-/
set_option linter.unusedVariables false
set_option linter.unusedSimpArgs false
namespace Go.Proofs.YticckgmkhgnmfaaDoor
open Go.RowKit

def icells (f : Nat → Int) (n : Nat) : List Value := (List.range n).map fun j => .int .i64 (f j)
theorem icells_at {f : Nat → Int} {n j : Nat} (hj : j < n) : (icells f n)[j]? = some (.int .i64 (f j)) := by
  rw [icells, List.getElem?_map, List.getElem?_range hj]; rfl
theorem icells_len (f : Nat → Int) (n : Nat) : (icells f n).length = n := by simp [icells]
theorem icells_congr {f g : Nat → Int} {n : Nat} (h : ∀ j, j < n → f j = g j) : icells f n = icells g n := by
  apply List.ext_getElem?
  intro j
  by_cases hj : j < n
  · rw [icells_at hj, icells_at hj, h j hj]
  · rw [List.getElem?_eq_none (by rw [icells_len]; omega), List.getElem?_eq_none (by rw [icells_len]; omega)]
theorem icells_put {f g : Nat → Int} {n : Nat} (v : Int) (h1 : ∀ j, j < n → f j = g j) (h2 : g n = v) : icells f n ++ [.int .i64 v] = icells g (n + 1) := by
  rw [icells_congr h1]
  simp [icells, List.range_succ, h2]

/-- n numbers in a block of the call's own, from block base on, with room for cap of them. -/
def IOwn (w : World) (base g cap n : Nat) (f : Nat → Int) : Prop := w.ownsRow base 2 1 (.slice (some ⟨g, 0, none⟩) n cap) n (icells f n)
theorem IOwn.has {w : World} {base g cap n : Nat} {f : Nat → Int} (h : IOwn w base g cap n f) : IHas w g n f := by
  obtain ⟨hl, h0 | ⟨g', cap', cur, hv, hb, hh, h1, h2, h3, h4⟩⟩ := h
  · simp at h0
  · simp at hv
    obtain ⟨rfl, rfl⟩ := hv
    refine ⟨cur, hh, by omega, fun j hj => ?_⟩
    have : (cur.toList.take (n * 1))[j]? = (icells f n)[j]? := by rw [h4]
    rw [List.getElem?_take_of_lt (by omega), icells_at hj] at this
    simpa using this
theorem IOwn.base {w : World} {base g cap n : Nat} {f : Nat → Int} (h : IOwn w base g cap n f) : base ≤ g := (World.ownsRow.lt h g rfl).1
theorem IOwn.congr {w : World} {base g cap n : Nat} {f f' : Nat → Int} (h : IOwn w base g cap n f) (e : ∀ j, j < n → f j = f' j) : IOwn w base g cap n f' := by
  unfold IOwn at h ⊢
  rw [← icells_congr e]; exact h
theorem IOwn.below {w w' : World} {base g cap n B : Nat} {f : Nat → Int} (h : IOwn w base g cap n f) (hb : Below B w w') (hB : g < B) : IOwn w' base g cap n f := by
  refine ⟨h.1, ?_⟩
  rcases h.2 with hn | ⟨g', cap', cur, hv, hb', hgg, rest⟩
  · exact .inl hn
  · simp at hv
    obtain ⟨rfl, rfl⟩ := hv
    exact .inr ⟨g, cap, cur, rfl, hb', (hb.block g hB).trans hgg, rest⟩
theorem IOwn.lt {w : World} {base g cap n : Nat} {f : Nat → Int} (h : IOwn w base g cap n f) : g < w.heap.size := (World.ownsRow.lt h g rfl).2
theorem IOwn.grown {w w' : World} {base g cap n : Nat} {f : Nat → Int} {b : Nat} (h : IOwn w base g cap n f) (hg : w.grownBy w' (some b)) (hne : g ≠ b) : IOwn w' base g cap n f := by
  refine ⟨h.1, ?_⟩
  rcases h.2 with hn | ⟨g', cap', cur, hv, hb', hgg, rest⟩
  · exact .inl hn
  · simp at hv
    obtain ⟨rfl, rfl⟩ := hv
    exact .inr ⟨g, cap, cur, rfl, hb', (hg.block g h.lt (by simp; exact hne)).trans hgg, rest⟩

theorem IOwn.room {w : World} {base g cap n : Nat} {f : Nat → Int} (h : IOwn w base g cap n f) : n ≤ cap := by
  obtain ⟨hl, h0 | ⟨g', cap', cur, hv, hb, hh, h1, h2, h3, h4⟩⟩ := h
  · simp at h0
  · simp at hv
    omega
/-- A new empty list. -/
theorem IOwn.empty (w : World) {base : Nat} (hb : base ≤ w.heap.size) (f : Nat → Int) : IOwn (w.alloc (.cells #[] 2)) base w.heap.size 0 0 f := by
  have := World.ownsRow_lit (base := base) (e := 2) (size := 1) w #[] 0 hb (by simp) (by simp)
  simpa [IOwn, icells] using this

theorem wpList_append_int {w : World} {ops : Array Oper} {rest : List Oper} {o : Oper} {a : Act} {Q : Exit → Act → World → Prop} (hgd : o.guard = none) (s x : Operand)
    (ho : o.op = .call { callee := .builtin .append, args := #[s, x], argTypes := #[49, 49] }) (base g cap n : Nat) (f : Nat → Int) (hs : a.eval s = .slice (some ⟨g, 0, none⟩) n cap)
    (hown : IOwn w base g cap n f) (ad : Addr) (c : Nat) (v : Int) (hx : a.eval x = .slice (some ad) 1 c) (h0 : w.cell? (ad.add 0) = some (.int .i64 v)) (hn : n ≤ 1000000000) (hbase : base ≤ w.heap.size)
    (h : ∀ g' cap' w', (∀ f', (∀ j, j < n → f' j = f j) → f' n = v → IOwn w' base g' cap' (n + 1) f') → w.grownBy w' (some g) → (g' = g ∨ g' = w.heap.size) → wpList Tryd.prog ops Q rest (a.put o.dst (.slice (some ⟨g', 0, none⟩) (n + 1) cap')) w') : wpList Tryd.prog ops Q (o :: rest) a w := by
  obtain ⟨i, hi, hz0, hz1, hz2⟩ := info_parts Tryd.infoInt
  refine wpList_append_lies w hgd s x 49 ho base 2 i _ 1 8 Tryd.underlying49 hi hz0 hz1 hz2 rfl (by omega) _ n (icells f n) hs hown ad 1 c [.int .i64 v] hx rfl ?_ ?_ (by omega) (by unfold maxLen; omega) (by omega) hbase w.heap.size rfl ?_
  · intro j u hu
    match j, hu with
    | 0, hu => simp at hu; subst hu; exact h0
    | j + 1, hu => simp at hu
  · intro u hu
    simp at hu
    subst hu; rfl
  · intro g' cap' w' hown' hgrow hat hlt
    refine h g' cap' w' (fun f' e1 e2 => ?_) hgrow ?_
    · rw [icells_put v (fun j hj => (e1 j hj).symm) e2] at hown'
      exact hown'
    · rcases hat with e | e
      · simp [Value.ownBlock] at e; exact Or.inl e.symm
      · exact Or.inr e

end Go.Proofs.YticckgmkhgnmfaaDoor
