/-
  Numbers in a text, plainly: how the document reads them, how the program does, and that both read the same of numbers that are not below nought.
-/
import Derived.Test.YtcmeppjfjledfakDoorRows
set_option linter.unusedVariables false
set_option linter.unusedSimpArgs false
namespace Go.Proofs.YtcmeppjfjledfakDoor

def isD (c : UInt8) : Bool := decide (48 ≤ c.toNat) && decide (c.toNat ≤ 57)
def dg (c : UInt8) : Int := (c.toNat : Int) - 48
def val (l : List UInt8) : Int := l.foldl (fun n c => n * 10 + dg c) 0
/-- A number's digits, behind a sign or none. -/
def numD (neg : Bool) (d : List UInt8) : Option Int :=
  if d.length = 0 ∨ 9 < d.length then none else if d.all isD = false then none else if d.head? = some 48 ∧ (neg = true ∨ 1 < d.length) then none else some (if neg = true then - val d else val d)
def num1 (s : List UInt8) : Option Int := if s.head? = some 45 then numD true s.tail else numD false s
/-- The document's numbers: what is there, what is being read. -/
def snums : List UInt8 → List Int → List UInt8 → Option (List Int)
  | [], out, cur => (num1 cur).map fun n => out ++ [n]
  | c :: t, out, cur => if c = 32 then (match num1 cur with | some n => snums t (out ++ [n]) [] | none => none) else snums t out (cur ++ [c])
/-- Where the program stands: ahead of a number, in one, behind one. -/
inductive Sta where
  | ahead (out : List Int)
  | within (n : Int) (out : List Int)
  | behind (out : List Int)
def inums : List UInt8 → Sta → Option (List Int)
  | [], .ahead _ => none
  | [], .within n out => some (out ++ [n])
  | [], .behind out => some out
  | c :: t, .ahead out => if out.length = 30 then none else if c = 48 then inums t (.behind (out ++ [0])) else if isD c = true then inums t (.within (dg c) out) else none
  | c :: t, .within n out => if isD c = true then (if 999999999 < 10 * n + dg c then none else inums t (.within (10 * n + dg c) out)) else if c = 32 then inums t (.ahead (out ++ [n])) else none
  | c :: t, .behind out => if c = 32 then inums t (.ahead out) else none

theorem dg_bd {c : UInt8} (h : isD c = true) : 0 ≤ dg c ∧ dg c ≤ 9 := by
  simp [isD] at h
  unfold dg
  omega
theorem isD_ne {c : UInt8} (h : isD c = true) : c ≠ 32 ∧ c ≠ 45 := by
  constructor <;> (rintro rfl; simp [isD] at h)
theorem val_snoc (l : List UInt8) (c : UInt8) : val (l ++ [c]) = val l * 10 + dg c := by simp [val, List.foldl_append]
theorem fold_bd : ∀ (l : List UInt8) (n : Int), l.all isD = true → 0 ≤ n → n ≤ l.foldl (fun n c => n * 10 + dg c) n
  | [], n, _, _ => Int.le_refl _
  | c :: t, n, h, h0 => by
    simp at h
    have hd := dg_bd h.1
    have := fold_bd t (n * 10 + dg c) (by simpa using h.2) (by omega)
    simp only [List.foldl_cons]
    omega
theorem val_nonneg {l : List UInt8} (h : l.all isD = true) : 0 ≤ val l := by
  have := fold_bd l 0 h (Int.le_refl _)
  exact this
theorem all_snoc {l : List UInt8} {c : UInt8} : (l ++ [c]).all isD = true ↔ l.all isD = true ∧ isD c = true := by simp
theorem fold_pow : ∀ (l : List UInt8) (n : Int), l.all isD = true → 1 ≤ n → n * (10 : Int) ^ l.length ≤ l.foldl (fun n c => n * 10 + dg c) n ∧ l.foldl (fun n c => n * 10 + dg c) n < (n + 1) * (10 : Int) ^ l.length
  | [], n, _, _ => by simp; omega
  | c :: t, n, h, h0 => by
    simp at h
    have hd := dg_bd h.1
    obtain ⟨h1, h2⟩ := fold_pow t (n * 10 + dg c) (by simpa using h.2) (by omega)
    simp only [List.foldl_cons, List.length_cons]
    have hp : (0 : Int) ≤ (10 : Int) ^ t.length := Int.pow_nonneg (by decide)
    have e1 : n * (10 : Int) ^ (t.length + 1) = (n * 10) * (10 : Int) ^ t.length := by rw [Int.pow_succ, Int.mul_comm ((10 : Int) ^ t.length) 10, ← Int.mul_assoc]
    have e2 : (n + 1) * (10 : Int) ^ (t.length + 1) = ((n + 1) * 10) * (10 : Int) ^ t.length := by rw [Int.pow_succ, Int.mul_comm ((10 : Int) ^ t.length) 10, ← Int.mul_assoc]
    have m1 : (n * 10) * (10 : Int) ^ t.length ≤ (n * 10 + dg c) * (10 : Int) ^ t.length := Int.mul_le_mul_of_nonneg_right (by omega) hp
    have m2 : (n * 10 + dg c + 1) * (10 : Int) ^ t.length ≤ ((n + 1) * 10) * (10 : Int) ^ t.length := Int.mul_le_mul_of_nonneg_right (by omega) hp
    rw [e1, e2]
    omega
/-- Nine digits at most, if no nought is ahead: just the numbers up to 999999999. -/
theorem val_nine {l : List UInt8} (h : l.all isD = true) (hl : l ≠ []) (h0 : l.head? ≠ some 48) : (val l ≤ 999999999 ↔ l.length ≤ 9) ∧ 1 ≤ val l := by
  cases l with
  | nil => exact absurd rfl hl
  | cons c t =>
    simp at h h0
    have hd := dg_bd h.1
    have h1 : 1 ≤ dg c := by
      have : dg c ≠ 0 := fun e => h0 (by unfold dg at e; exact UInt8.toNat_inj.1 (by simp; omega))
      omega
    obtain ⟨a, b⟩ := fold_pow t (dg c) (by simpa using h.2) h1
    have e : val (c :: t) = t.foldl (fun n c => n * 10 + dg c) (dg c) := by simp [val]
    rw [e]
    have hp1 : (1 : Int) ≤ (10 : Int) ^ t.length := by
      have := Int.pow_pos (n := 10) (m := t.length) (by decide)
      omega
    have hf := fold_bd t (dg c) (by simpa using h.2) (by omega)
    refine ⟨⟨fun hv => ?_, fun hv => ?_⟩, by omega⟩
    · by_cases hlen : t.length ≤ 8
      · simp; omega
      · exfalso
        have hp : (10 : Int) ^ 9 ≤ (10 : Int) ^ t.length := by
          obtain ⟨k, hk⟩ : ∃ k, t.length = 9 + k := ⟨t.length - 9, by omega⟩
          rw [hk, Int.pow_add]
          have : (1 : Int) ≤ (10 : Int) ^ k := by
            have := Int.pow_pos (n := 10) (m := k) (by decide)
            omega
          have h9 : (0 : Int) ≤ (10 : Int) ^ 9 := by decide
          have := Int.mul_le_mul_of_nonneg_left this h9
          omega
        have : 1 * (10 : Int) ^ t.length ≤ dg c * (10 : Int) ^ t.length := Int.mul_le_mul_of_nonneg_right h1 (by omega)
        have e9 : (10 : Int) ^ 9 = 1000000000 := by decide
        omega
    · simp at hv
      have hp : (10 : Int) ^ t.length ≤ (10 : Int) ^ 8 := by
        obtain ⟨k, hk⟩ : ∃ k, 8 = t.length + k := ⟨8 - t.length, by omega⟩
        rw [hk, Int.pow_add]
        have : (1 : Int) ≤ (10 : Int) ^ k := by
          have := Int.pow_pos (n := 10) (m := k) (by decide)
          omega
        have := Int.mul_le_mul_of_nonneg_left this (by omega : (0 : Int) ≤ (10 : Int) ^ t.length)
        omega
      have : (dg c + 1) * (10 : Int) ^ t.length ≤ 10 * (10 : Int) ^ t.length := Int.mul_le_mul_of_nonneg_right (by omega) (by omega)
      have e8 : (10 : Int) ^ 8 = 100000000 := by decide
      omega

/-- A word that no sign behind it mends. -/
theorem snums_dead : ∀ (l : List UInt8) (out : List Int) (cur : List UInt8), (∀ x, num1 (cur ++ x) = none) → snums l out cur = none
  | [], out, cur, h => by
    have := h []
    simp at this
    simp [snums, this]
  | c :: t, out, cur, h => by
    unfold snums
    by_cases hc : c = 32
    · have := h []
      simp at this
      rw [if_pos hc, this]
    · rw [if_neg hc]
      exact snums_dead t out (cur ++ [c]) (fun x => by rw [List.append_assoc]; exact h _)
theorem snums_pre : ∀ (l : List UInt8) (out : List Int) (cur : List UInt8) (ns : List Int), snums l out cur = some ns → out <+: ns
  | [], out, cur, ns, h => by
    simp [snums] at h
    obtain ⟨n, _, rfl⟩ := h
    exact ⟨[n], rfl⟩
  | c :: t, out, cur, ns, h => by
    unfold snums at h
    by_cases hc : c = 32
    · rw [if_pos hc] at h
      cases hn : num1 cur with
      | none => rw [hn] at h; cases h
      | some n =>
        rw [hn] at h
        have := snums_pre t (out ++ [n]) [] ns h
        exact (List.prefix_append out [n]).trans this
    · rw [if_neg hc] at h
      exact snums_pre t out (cur ++ [c]) ns h
/-- A number behind a sign is below nought. -/
theorem numD_neg {d : List UInt8} {n : Int} (h : numD true d = some n) : n < 0 := by
  unfold numD at h
  split at h
  · cases h
  rename_i h1
  split at h
  · cases h
  rename_i h2
  split at h
  · cases h
  rename_i h3
  simp at h
  have hall : d.all isD = true := by
    cases hh : d.all isD with
    | true => rfl
    | false => exact absurd hh h2
  have := (val_nine hall (by rintro rfl; simp at h1) (fun e => h3 ⟨e, Or.inl rfl⟩)).2
  omega
theorem snums_neg : ∀ (l : List UInt8) (out : List Int) (d : List UInt8) (ns : List Int), snums l out (45 :: d) = some ns → ∃ x, x ∈ ns.drop out.length ∧ x < 0
  | [], out, d, ns, h => by
    simp [snums, num1] at h
    obtain ⟨n, hn, rfl⟩ := h
    exact ⟨n, by simp, numD_neg hn⟩
  | c :: t, out, d, ns, h => by
    unfold snums at h
    by_cases hc : c = 32
    · rw [if_pos hc] at h
      cases hn : num1 (45 :: d) with
      | none => rw [hn] at h; cases h
      | some n =>
        rw [hn] at h
        obtain ⟨y, rfl⟩ := snums_pre t (out ++ [n]) [] ns h
        simp [num1] at hn
        exact ⟨n, by simp, numD_neg hn⟩
    · rw [if_neg hc] at h
      exact snums_neg t out (d ++ [c]) ns (by simpa using h)
/-- What the program wants of the numbers that are new: not below nought, and thirty at most in all. -/
def Fine (k : Nat) (ns : List Int) : Prop := (∀ x ∈ ns.drop k, 0 ≤ x) ∧ ns.length ≤ 30
theorem fine_snoc {out : List Int} {n : Int} {ns : List Int} (hp : (out ++ [n]) <+: ns) (h0 : 0 ≤ n) : Fine out.length ns ↔ Fine (out ++ [n]).length ns := by
  obtain ⟨y, rfl⟩ := hp
  unfold Fine
  simp
  intro _ _
  exact h0
theorem digit_word {cur : List UInt8} (hne : cur ≠ []) (hall : cur.all isD = true) : cur.head? ≠ some 45 := by
  cases cur with
  | nil => exact absurd rfl hne
  | cons c t =>
    simp at hall ⊢
    exact (isD_ne hall.1).2
theorem num1_word {cur : List UInt8} {n : Int} (hne : cur ≠ []) (hall : cur.all isD = true) (h0 : cur.head? ≠ some 48) (hv : val cur = n) (hm : n ≤ 999999999) : num1 cur = some n := by
  have hl := (val_nine hall hne h0).1.1 (by omega)
  have hpos : cur.length ≠ 0 := by simpa using hne
  unfold num1
  rw [if_neg (digit_word hne hall)]
  unfold numD
  rw [if_neg (by omega), if_neg (by simp [hall]), if_neg (fun e => h0 e.1)]
  simp [hv]
theorem dead_long {cur : List UInt8} (hne : cur ≠ []) (h45 : cur.head? ≠ some 45) (hl : 9 < cur.length) (x : List UInt8) : num1 (cur ++ x) = none := by
  unfold num1
  rw [if_neg (by cases cur with | nil => exact absurd rfl hne | cons c t => simpa using h45)]
  unfold numD
  rw [if_pos (Or.inr (by simp; omega))]
theorem dead_sign {cur : List UInt8} {c : UInt8} (hc : isD c = false) (h45 : (cur ++ [c]).head? ≠ some 45) (x : List UInt8) : num1 ((cur ++ [c]) ++ x) = none := by
  unfold num1
  rw [if_neg (by cases cur <;> simpa using h45)]
  unfold numD
  split
  · rfl
  rw [if_pos (by simp [hc])]
theorem dead_nought {d : List UInt8} (hd : d ≠ []) (x : List UInt8) : num1 ((48 :: d) ++ x) = none := by
  unfold num1
  rw [if_neg (by simp)]
  unfold numD
  split
  · rfl
  split
  · rfl
  rw [if_pos ⟨by simp, Or.inr (by cases d with | nil => exact absurd rfl hd | cons c t => simp)⟩]
theorem num1_nought : num1 [48] = some 0 := by decide
theorem num1_nil : num1 [] = none := by decide

theorem nums_same : ∀ (l : List UInt8),
    (∀ out ns, out.length ≤ 30 → (inums l (.ahead out) = some ns ↔ snums l out [] = some ns ∧ Fine out.length ns)) ∧
    (∀ out n cur ns, out.length < 30 → cur ≠ [] → cur.all isD = true → cur.head? ≠ some 48 → val cur = n → n ≤ 999999999 → (inums l (.within n out) = some ns ↔ snums l out cur = some ns ∧ Fine out.length ns)) ∧
    (∀ out ns, out.length < 30 → (inums l (.behind (out ++ [0])) = some ns ↔ snums l out [48] = some ns ∧ Fine out.length ns))
  | [] => by
    refine ⟨fun out ns _ => ?_, fun out n cur ns ho hne hall h0 hv hm => ?_, fun out ns ho => ?_⟩
    · simp [inums, snums, num1_nil]
    · simp only [inums, snums, num1_word hne hall h0 hv hm, Option.map_some, Option.some.injEq]
      have := val_nonneg hall
      exact ⟨fun e => ⟨e, by subst e; exact ⟨by simp; omega, by simp; omega⟩⟩, fun e => e.1⟩
    · simp only [inums, snums, num1_nought, Option.map_some, Option.some.injEq]
      exact ⟨fun e => ⟨e, by subst e; exact ⟨by simp, by simp; omega⟩⟩, fun e => e.1⟩
  | c :: t => by
    obtain ⟨iA, iW, iB⟩ := nums_same t
    refine ⟨fun out ns ho => ?_, fun out n cur ns ho hne hall h0 hv hm => ?_, fun out ns ho => ?_⟩
    · have hs : ∀ h32 : c ≠ 32, snums (c :: t) out [] = snums t out [c] := fun h32 => by simp [snums, h32]
      by_cases h30 : out.length = 30
      · have hL : inums (c :: t) (.ahead out) = none := by simp [inums, h30]
        rw [hL]
        refine ⟨fun h => (by cases h), fun ⟨h1, h2⟩ => ?_⟩
        exfalso
        have hlong : ∀ (l : List UInt8) (cur : List UInt8), snums l out cur = some ns → out.length < ns.length := by
          intro l
          induction l with
          | nil =>
            intro cur h
            simp [snums] at h
            obtain ⟨n, _, rfl⟩ := h
            simp
          | cons d u ih =>
            intro cur h
            unfold snums at h
            split at h
            · cases hn : num1 cur with
              | none => rw [hn] at h; cases h
              | some n =>
                rw [hn] at h
                have := (snums_pre u (out ++ [n]) [] ns h).length_le
                simp at this
                omega
            · exact ih _ h
        have := hlong _ _ h1
        have := h2.2
        omega
      by_cases h48 : c = 48
      · subst h48
        rw [hs (by decide)]
        have hL : inums (48 :: t) (.ahead out) = inums t (.behind (out ++ [0])) := by simp [inums, h30]
        rw [hL]
        exact iB out ns (by omega)
      cases hd : isD c with
      | true =>
        have hb := dg_bd hd
        rw [hs (isD_ne hd).1]
        have hL : inums (c :: t) (.ahead out) = inums t (.within (dg c) out) := by simp [inums, h30, h48, hd]
        rw [hL]
        exact iW out (dg c) [c] ns (by omega) (by simp) (by simp [hd]) (by simpa using h48) (by simp [val]) (by omega)
      | false =>
        have hL : inums (c :: t) (.ahead out) = none := by simp [inums, h30, h48, hd]
        rw [hL]
        refine ⟨fun h => (by cases h), fun ⟨h1, h2⟩ => ?_⟩
        exfalso
        by_cases h32 : c = 32
        · subst h32
          simp [snums, num1_nil] at h1
        rw [hs h32] at h1
        by_cases h45 : c = 45
        · subst h45
          obtain ⟨x, hx, hx0⟩ := snums_neg t out [] ns h1
          have := h2.1 x hx
          omega
        · rw [snums_dead t out [c] (fun x => dead_sign (cur := []) hd (by simpa using h45) x)] at h1
          cases h1
    · cases hd : isD c with
      | true =>
        have hb := dg_bd hd
        have hall' : (cur ++ [c]).all isD = true := all_snoc.2 ⟨hall, hd⟩
        have hne' : cur ++ [c] ≠ [] := by simp
        have h0' : (cur ++ [c]).head? ≠ some 48 := by cases cur with | nil => exact absurd rfl hne | cons d u => simpa using h0
        have hv' : val (cur ++ [c]) = 10 * n + dg c := by rw [val_snoc, hv]; omega
        have hsn : snums (c :: t) out cur = snums t out (cur ++ [c]) := by simp [snums, (isD_ne hd).1]
        rw [hsn]
        by_cases hbig : 999999999 < 10 * n + dg c
        · have hL : inums (c :: t) (.within n out) = none := by simp [inums, hd, hbig]
          rw [hL]
          refine ⟨fun h => (by cases h), fun ⟨h1, _⟩ => ?_⟩
          have hlen : 9 < (cur ++ [c]).length := by
            have := (val_nine hall' hne' h0').1
            rw [hv'] at this
            omega
          rw [snums_dead t out _ (dead_long hne' (digit_word hne' hall') hlen)] at h1
          cases h1
        · have hL : inums (c :: t) (.within n out) = inums t (.within (10 * n + dg c) out) := by simp [inums, hd, hbig]
          rw [hL]
          exact iW out (10 * n + dg c) (cur ++ [c]) ns ho hne' hall' h0' hv' (by omega)
      | false =>
        by_cases h32 : c = 32
        · subst h32
          have hL : inums (32 :: t) (.within n out) = inums t (.ahead (out ++ [n])) := by simp [inums, hd]
          have hsn : snums (32 :: t) out cur = snums t (out ++ [n]) [] := by simp [snums, num1_word hne hall h0 hv hm]
          rw [hL, hsn, iA (out ++ [n]) ns (by simp; omega)]
          have hn0 : 0 ≤ n := by rw [← hv]; exact val_nonneg hall
          exact ⟨fun ⟨a, b⟩ => ⟨a, (fine_snoc (snums_pre _ _ _ _ a) hn0).2 b⟩, fun ⟨a, b⟩ => ⟨a, (fine_snoc (snums_pre _ _ _ _ a) hn0).1 b⟩⟩
        · have hL : inums (c :: t) (.within n out) = none := by simp [inums, hd, h32]
          have hsn : snums (c :: t) out cur = snums t out (cur ++ [c]) := by simp [snums, h32]
          rw [hL, hsn, snums_dead t out _ (dead_sign hd (by cases cur with | nil => exact absurd rfl hne | cons d u => simpa using digit_word hne hall))]
          simp
    · by_cases h32 : c = 32
      · subst h32
        have hL : inums (32 :: t) (.behind (out ++ [0])) = inums t (.ahead (out ++ [0])) := by simp [inums]
        have hsn : snums (32 :: t) out [48] = snums t (out ++ [0]) [] := by simp [snums, num1_nought]
        rw [hL, hsn, iA (out ++ [0]) ns (by simp; omega)]
        exact ⟨fun ⟨a, b⟩ => ⟨a, (fine_snoc (snums_pre _ _ _ _ a) (Int.le_refl _)).2 b⟩, fun ⟨a, b⟩ => ⟨a, (fine_snoc (snums_pre _ _ _ _ a) (Int.le_refl _)).1 b⟩⟩
      · have hL : inums (c :: t) (.behind (out ++ [0])) = none := by simp [inums, h32]
        have hsn : snums (c :: t) out [48] = snums t out [48, c] := by simp [snums, h32]
        rw [hL, hsn, snums_dead t out [48, c] (fun x => dead_nought (d := [c]) (by simp) x)]
        simp

end Go.Proofs.YtcmeppjfjledfakDoor
