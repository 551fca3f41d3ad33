/-
  Where the reading of a name stands, and what comes of the sign behind it.
-/
import Derived.Test.YtcmeppjfjledfakDoorRdP
import Derived.Test.YtcmeppjfjledfakDoorCutR
set_option linter.unusedVariables false
set_option linter.unusedSimpArgs false
namespace Go.Proofs.YtcmeppjfjledfakDoor

/-- So far there were letters alone. -/
def NameAt (l rest : List UInt8) : Prop := ∃ pre, l = pre ++ rest ∧ pre.all isL = true
theorem drop_pre {pre rest : List UInt8} (h : pre.all isL = true) (hr : ∀ c t, rest = c :: t → isL c = false) : (pre ++ rest).dropWhile isL = rest ∧ (pre ++ rest).takeWhile isL = pre := by
  induction pre with
  | nil =>
    cases rest with
    | nil => exact ⟨rfl, rfl⟩
    | cons c t => simp [hr c t rfl]
  | cons d u ih =>
    simp at h
    obtain ⟨h1, h2⟩ := ih (by simpa using h.2)
    simp [h.1, h1, h2]
theorem isL_iff {c : UInt8} : isL c = true ↔ 97 ≤ (c.toNat : Int) ∧ (c.toNat : Int) ≤ 122 := by simp [isL]; omega
theorem name_letter {l rest rest' : List UInt8} {r : Int} (h : NameAt l rest) (hc : Cut rest r rest') (h1 : 97 ≤ r) (h2 : r ≤ 122) : NameAt l rest' := by
  obtain ⟨pre, e, hp⟩ := h
  cases rest with
  | nil => simp [Cut] at hc; omega
  | cons c t =>
    rcases hc.2 with ⟨g1, g2, g3⟩ | ⟨g1, g2, _⟩
    · subst g3
      exact ⟨pre ++ [c], by rw [e]; simp, by rw [List.all_append, hp]; simp; exact isL_iff.2 (by omega)⟩
    · omega
theorem name_end {l rest rest' : List UInt8} (h : NameAt l rest) (hc : Cut rest (-1) rest') : wds l = some (l, []) := by
  obtain ⟨pre, e, hp⟩ := h
  cases rest with
  | nil =>
    have := drop_pre (rest := []) hp (fun c t h => by cases h)
    rw [← e] at this
    unfold wds
    rw [this.1]
  | cons c t =>
    rcases hc.2 with ⟨g1, g2, g3⟩ | ⟨g1, g2, _⟩
    · omega
    · omega
theorem name_blank {l rest rest' : List UInt8} (h : NameAt l rest) (hc : Cut rest 32 rest') : wds l = (inums rest' (.ahead [])).map (fun ns => (l.take (l.length - rest'.length - 1), ns)) ∧ rest'.length + 1 ≤ l.length := by
  obtain ⟨pre, e, hp⟩ := h
  cases rest with
  | nil => simp [Cut] at hc
  | cons c t =>
    rcases hc.2 with ⟨g1, g2, g3⟩ | ⟨g1, g2, _⟩
    · subst g3
      have h32 : c = 32 := UInt8.toNat_inj.1 (by simp; omega)
      subst h32
      have := drop_pre (rest := 32 :: rest') hp (fun c t h => by cases h; decide)
      rw [← e] at this
      have hl : l.take (l.length - rest'.length - 1) = pre := by
        rw [e]
        have : (pre ++ 32 :: rest').length - rest'.length - 1 = pre.length := by simp; omega
        rw [this]
        simp
      refine ⟨?_, by rw [e]; simp⟩
      rw [hl]
      unfold wds
      rw [this.1, this.2]
      simp
    · omega
theorem name_other {l rest rest' : List UInt8} {r : Int} (h : NameAt l rest) (hc : Cut rest r rest') (h1 : ¬ (97 ≤ r ∧ r ≤ 122)) (h2 : r ≠ 32) (h3 : r ≠ -1) : wds l = none := by
  obtain ⟨pre, e, hp⟩ := h
  cases rest with
  | nil => simp [Cut] at hc; omega
  | cons c t =>
    have hl : isL c = false := by
      cases hl : isL c with
      | false => rfl
      | true =>
        have := isL_iff.1 hl
        rcases hc.2 with ⟨g1, g2, g3⟩ | ⟨g1, g2, _⟩
        · omega
        · omega
    have h32 : c ≠ 32 := by
      rintro rfl
      rcases hc.2 with ⟨g1, g2, g3⟩ | ⟨g1, g2, _⟩
      · simp at g2; omega
      · simp at g1
    have := drop_pre (rest := c :: t) hp (fun d u h => by cases h; exact hl)
    rw [← e] at this
    unfold wds
    rw [this.1]
    simp [h32]
/-- Ahead of a number. -/
theorem ahead_cut {rest rest' : List UInt8} {r : Int} {out : List Int} (hc : Cut rest r rest') (ho : out.length ≠ 30) :
    (r = 48 → inums rest (.ahead out) = inums rest' (.behind (out ++ [0]))) ∧ (49 ≤ r ∧ r ≤ 57 → inums rest (.ahead out) = inums rest' (.within (r - 48) out)) ∧ (¬ (48 ≤ r ∧ r ≤ 57) → inums rest (.ahead out) = none) := by
  cases rest with
  | nil =>
    simp [Cut] at hc
    exact ⟨fun h => by omega, fun h => by omega, fun _ => rfl⟩
  | cons c t =>
    have hi : inums (c :: t) (.ahead out) = if c = 48 then inums t (.behind (out ++ [0])) else if isD c = true then inums t (.within (dg c) out) else none := by simp [inums, ho]
    rw [hi]
    rcases hc.2 with ⟨g1, g2, g3⟩ | ⟨g1, g2, _⟩
    · subst g3
      refine ⟨fun h => ?_, fun h => ?_, fun h => ?_⟩
      · have : c = 48 := UInt8.toNat_inj.1 (by simp; omega)
        simp [this]
      · have h48 : c ≠ 48 := fun e => by rw [e] at g2; simp at g2; omega
        have hd : isD c = true := by simp [isD]; omega
        have hg : dg c = r - 48 := by unfold dg; omega
        simp [h48, hd, hg]
      · have h48 : c ≠ 48 := fun e => by rw [e] at g2; simp at g2; omega
        have hd : isD c = false := by simp [isD]; omega
        simp [h48, hd]
    · have h48 : c ≠ 48 := fun e => by rw [e] at g1; simp at g1
      have hd : isD c = false := by simp [isD]; omega
      exact ⟨fun h => by omega, fun h => by omega, fun h => by simp [h48, hd]⟩
/-- Behind a number. -/
def bhd (r : Int) (rest : List UInt8) (out : List Int) : Option (List Int) := if r = 32 then inums rest (.ahead out) else if r = -1 then some out else none
theorem behind_cut {rest rest' : List UInt8} {r : Int} {out : List Int} (hc : Cut rest r rest') : inums rest (.behind out) = bhd r rest' out := by
  unfold bhd
  cases rest with
  | nil =>
    simp [Cut] at hc
    simp [hc, inums]
  | cons c t =>
    rcases hc.2 with ⟨g1, g2, g3⟩ | ⟨g1, g2, _⟩
    · subst g3
      by_cases h : c = 32
      · subst h
        have : r = 32 := by simpa using g2
        simp [inums, this]
      · have h32 : r ≠ 32 := fun e => h (UInt8.toNat_inj.1 (by simp; omega))
        have h1 : r ≠ -1 := by omega
        simp [inums, h, h32, h1]
    · have h : c ≠ 32 := fun e => by rw [e] at g1; simp at g1
      have h32 : r ≠ 32 := by omega
      have h1 : r ≠ -1 := by omega
      simp [inums, h, h32, h1]
theorem within_cut {rest rest' : List UInt8} {r n : Int} {out : List Int} (hc : Cut rest r rest') :
    (48 ≤ r ∧ r ≤ 57 → inums rest (.within n out) = if 999999999 < 10 * n + (r - 48) then none else inums rest' (.within (10 * n + (r - 48)) out)) ∧ (¬ (48 ≤ r ∧ r ≤ 57) → inums rest (.within n out) = bhd r rest' (out ++ [n])) := by
  unfold bhd
  cases rest with
  | nil =>
    simp [Cut] at hc
    exact ⟨fun h => by omega, fun h => by simp [hc, inums]⟩
  | cons c t =>
    rcases hc.2 with ⟨g1, g2, g3⟩ | ⟨g1, g2, _⟩
    · subst g3
      refine ⟨fun h => ?_, fun h => ?_⟩
      · have hd : isD c = true := by simp [isD]; omega
        have hg : dg c = r - 48 := by unfold dg; omega
        simp [inums, hd, hg]
      · have hd : isD c = false := by simp [isD]; omega
        by_cases h3 : c = 32
        · subst h3
          have : r = 32 := by simpa using g2
          simp [inums, hd, this]
        · have h32 : r ≠ 32 := fun e => h3 (UInt8.toNat_inj.1 (by simp; omega))
          have h1 : r ≠ -1 := by omega
          simp [inums, hd, h3, h32, h1]
    · have hd : isD c = false := by simp [isD]; omega
      have h3 : c ≠ 32 := fun e => by rw [e] at g1; simp at g1
      have h32 : r ≠ 32 := by omega
      have h1 : r ≠ -1 := by omega
      exact ⟨fun h => by omega, fun h => by simp [inums, hd, h3, h32, h1]⟩

end Go.Proofs.YtcmeppjfjledfakDoor
