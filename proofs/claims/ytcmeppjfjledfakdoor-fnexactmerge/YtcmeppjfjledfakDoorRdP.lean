/-
  A command out of its text, plainly: the document's reading and the program's are one.
-/
import Derived.Test.YtcmeppjfjledfakDoorTxtP
import Derived.Test.YtcmeppjfjledfakDoorCmdP
set_option linter.unusedVariables false
set_option linter.unusedSimpArgs false
namespace Go.Proofs.YtcmeppjfjledfakDoor

def isL (c : UInt8) : Bool := decide (97 ≤ c.toNat) && decide (c.toNat ≤ 122)
def at3 (ns : List Int) (j k : Nat) : Int := ns.getD (3 * k + j) 0
def txNone : List UInt8 := [110, 111, 110, 101]
def txAsk : List UInt8 := [97, 115, 107]
def txWeigh : List UInt8 := [119, 101, 105, 103, 104]
/-- Is a command of this kind with these numbers right? -/
def okC (K : Int) (ns : List Int) : Bool :=
  if K = 1 then true else if K = 2 then cmdB 2 (ns.length / 3) (at3 ns 0) (at3 ns 1) (at3 ns 2) 0 0 else cmdB 3 0 (at3 ns 0) (at3 ns 0) (at3 ns 0) (ns.getD 0 0) (ns.getD 1 0)
/-- The document's reading, ahead of the question whether it is right. -/
def rdS (l : List UInt8) : Option (Int × List Int) :=
  if l = txNone then some (1, []) else
  if 4 < l.length ∧ l.take 4 = txAsk ++ [32] then (match snums (l.drop 4) [] [] with | some ns => if ns.length = 2 then some (3, ns) else none | none => none) else
  if 6 < l.length ∧ l.take 6 = txWeigh ++ [32] then (match snums (l.drop 6) [] [] with | some ns => if ns.length % 3 = 0 then some (2, ns) else none | none => none) else none
/-- The program's name and numbers. -/
def wds (l : List UInt8) : Option (List UInt8 × List Int) :=
  match l.dropWhile isL with
  | [] => some (l, [])
  | c :: t => if c = 32 then (inums t (.ahead [])).map (fun ns => (l.takeWhile isL, ns)) else none
def cmdOf (nm : List UInt8) (ns : List Int) : Option (Int × List Int) :=
  if nm = txNone then (if ns.length = 0 then some (1, []) else none) else
  if nm = txWeigh then (if ns.length % 3 = 0 then some (2, ns) else none) else
  if nm = txAsk then (if ns.length = 2 then some (3, ns) else none) else none
def rdI (l : List UInt8) : Option (Int × List Int) := match wds l with | some (nm, ns) => cmdOf nm ns | none => none
def onlyOk (r : Option (Int × List Int)) : Option (Int × List Int) := match r with | some (K, ns) => if okC K ns = true then some (K, ns) else none | none => none

theorem inB_iff {x lo hi : Int} : inB x lo hi = true ↔ lo ≤ x ∧ x ≤ hi := by simp [inB]
theorem arcB_iff {f t g p : Int} : arcB f t g p = true ↔ (0 ≤ f ∧ f ≤ p - 1) ∧ (0 ≤ t ∧ t ≤ p - 1) ∧ f ≠ t ∧ 1 ≤ g ∧ g ≤ 1000000 := by simp [arcB, inB]
theorem batB_at {F T G : Nat → Int} : ∀ {n k : Nat}, batB F T G n = true → k < n → arcB (F k) (T k) (G k) 24 = true
  | 0, k, _, h => by omega
  | n + 1, k, hb, h => by
    unfold batB at hb
    rw [Bool.and_eq_true] at hb
    by_cases e : k = n
    · subst e; exact hb.2
    · exact batB_at hb.1 (by omega)
theorem fine3 {ns : List Int} (hl : ns.length = 2) (h : okC 3 ns = true) : Fine 0 ns := by
  match ns, hl with
  | [a, b], _ =>
    simp [okC, cmdB, inB_iff] at h
    exact ⟨by simp; omega, by simp⟩
theorem fine2 {ns : List Int} (hl : ns.length % 3 = 0) (h : okC 2 ns = true) : Fine 0 ns := by
  simp [okC, cmdB, batchB] at h
  obtain ⟨h1, h2, h3⟩ := h
  refine ⟨fun x hx => ?_, by omega⟩
  simp at hx
  obtain ⟨i, hi, rfl⟩ := List.getElem_of_mem hx
  have hb := arcB_iff.1 (batB_at (k := i / 3) h3 (by omega))
  have hg : ∀ j, 3 * (i / 3) + j = i → at3 ns j (i / 3) = ns[i] := fun j e => by
    unfold at3
    rw [e]
    simp [List.getD, hi]
  have hm : i % 3 = 0 ∨ i % 3 = 1 ∨ i % 3 = 2 := by omega
  rcases hm with hm | hm | hm
  · rw [← hg 0 (by omega)]; omega
  · rw [← hg 1 (by omega)]; omega
  · rw [← hg 2 (by omega)]; omega
theorem drop_split (l : List UInt8) : l = l.takeWhile isL ++ l.dropWhile isL := (List.takeWhile_append_dropWhile).symm
theorem take_ask {l : List UInt8} (h : l.take 4 = txAsk ++ [32]) : l.takeWhile isL = txAsk ∧ l.dropWhile isL = 32 :: l.drop 4 := by
  match l, h with
  | a :: b :: c :: d :: t, h =>
    simp [txAsk] at h
    obtain ⟨rfl, rfl, rfl, rfl⟩ := h
    exact ⟨rfl, rfl⟩
  | [a, b, c], h => simp [txAsk] at h
  | [a, b], h => simp [txAsk] at h
  | [a], h => simp [txAsk] at h
  | [], h => simp [txAsk] at h
theorem take_weigh {l : List UInt8} (h : l.take 6 = txWeigh ++ [32]) : l.takeWhile isL = txWeigh ∧ l.dropWhile isL = 32 :: l.drop 6 := by
  match l, h with
  | a :: b :: c :: d :: e :: f :: t, h =>
    simp [txWeigh] at h
    obtain ⟨rfl, rfl, rfl, rfl, rfl, rfl⟩ := h
    exact ⟨rfl, rfl⟩
  | [a, b, c, d, e], h => simp [txWeigh] at h
  | [a, b, c, d], h => simp [txWeigh] at h
  | [a, b, c], h => simp [txWeigh] at h
  | [a, b], h => simp [txWeigh] at h
  | [a], h => simp [txWeigh] at h
  | [], h => simp [txWeigh] at h
theorem none_drop : txNone.dropWhile isL = [] ∧ txNone.takeWhile isL = txNone := by decide
theorem nums_zero {t : List UInt8} {ns : List Int} : inums t (.ahead []) = some ns ↔ snums t [] [] = some ns ∧ Fine 0 ns := (nums_same t).1 [] ns (by simp)
theorem snums_nil : snums [] [] [] = none := by simp [snums, num1_nil]
/-- One kind's numbers, read either way. -/
theorem only_kind {t : List UInt8} {K : Int} {C : List Int → Prop} [DecidablePred C] (hf : ∀ ns, C ns → okC K ns = true → Fine 0 ns) :
    onlyOk (match inums t (.ahead []) with | some ns => if C ns then some (K, ns) else none | none => none) = onlyOk (match snums t [] [] with | some ns => if C ns then some (K, ns) else none | none => none) := by
  cases hs : snums t [] [] with
  | none =>
    have hi : inums t (.ahead []) = none := by
      cases hi : inums t (.ahead []) with
      | none => rfl
      | some ns => have := (nums_zero.1 hi).1; rw [hs] at this; cases this
    rw [hi]
  | some ns =>
    by_cases hF : Fine 0 ns
    · rw [nums_zero.2 ⟨hs, hF⟩]
    · have hi : inums t (.ahead []) = none := by
        cases hi : inums t (.ahead []) with
        | none => rfl
        | some ns' =>
          have := nums_zero.1 hi
          rw [hs] at this
          obtain ⟨e, hF'⟩ := this
          cases e
          exact absurd hF' hF
      rw [hi]
      by_cases hC : C ns
      · have hk : okC K ns = false := by
          cases hk : okC K ns with
          | false => rfl
          | true => exact absurd (hf ns hC hk) hF
        simp [onlyOk, hC, hk]
      · simp [onlyOk, hC]
theorem read_same (l : List UInt8) : onlyOk (rdI l) = onlyOk (rdS l) := by
  by_cases h1 : l = txNone
  · subst h1
    have e1 : rdI txNone = some (1, []) := by decide
    have e2 : rdS txNone = some (1, []) := by simp [rdS]
    rw [e1, e2]
  by_cases h2 : l.take 4 = txAsk ++ [32]
  · obtain ⟨hn, hd⟩ := take_ask h2
    have e1 : rdI l = match inums (l.drop 4) (.ahead []) with | some ns => if ns.length = 2 then some (3, ns) else none | none => none := by
      unfold rdI wds
      rw [hd, hn]
      simp only [if_pos]
      cases inums (l.drop 4) (.ahead []) with
      | none => rfl
      | some ns => simp [cmdOf, txAsk, txNone, txWeigh]
    rw [e1, only_kind (fun ns hC hk => fine3 hC hk)]
    by_cases h4 : 4 < l.length
    · unfold rdS
      rw [if_neg h1, if_pos ⟨h4, h2⟩]
    · have hdr : l.drop 4 = [] := List.drop_eq_nil_of_le (by omega)
      have h6 : ¬ 6 < l.length := by omega
      unfold rdS
      rw [if_neg h1, if_neg (fun e => h4 e.1), if_neg (fun e => h6 e.1), hdr, snums_nil]
  by_cases h3 : l.take 6 = txWeigh ++ [32]
  · obtain ⟨hn, hd⟩ := take_weigh h3
    have e1 : rdI l = match inums (l.drop 6) (.ahead []) with | some ns => if ns.length % 3 = 0 then some (2, ns) else none | none => none := by
      unfold rdI wds
      rw [hd, hn]
      simp only [if_pos]
      cases inums (l.drop 6) (.ahead []) with
      | none => rfl
      | some ns => simp [cmdOf, txAsk, txNone, txWeigh]
    rw [e1, only_kind (fun ns hC hk => fine2 hC hk)]
    by_cases h6 : 6 < l.length
    · unfold rdS
      rw [if_neg h1, if_neg (fun e => h2 e.2), if_pos ⟨h6, h3⟩]
    · have hdr : l.drop 6 = [] := List.drop_eq_nil_of_le (by omega)
      unfold rdS
      rw [if_neg h1, if_neg (fun e => h2 e.2), if_neg (fun e => h6 e.1), hdr, snums_nil]
  have e2 : rdS l = none := by
    unfold rdS
    rw [if_neg h1, if_neg (fun e => h2 e.2), if_neg (fun e => h3 e.2)]
  rw [e2]
  have hsp := drop_split l
  unfold rdI wds
  cases hd : l.dropWhile isL with
  | nil =>
    simp only []
    unfold cmdOf
    rw [if_neg h1]
    by_cases hw : l = txWeigh
    · subst hw
      simp [onlyOk, okC, cmdB, batchB]
    · rw [if_neg hw]
      by_cases ha : l = txAsk
      · rw [if_pos ha]; simp [onlyOk]
      · rw [if_neg ha]
  | cons c t =>
    simp only []
    by_cases hc : c = 32
    · rw [if_pos hc]
      subst hc
      rw [hd] at hsp
      cases hi : inums t (.ahead []) with
      | none => rfl
      | some ns =>
        simp only [Option.map_some]
        unfold cmdOf
        by_cases ha : l.takeWhile isL = txAsk
        · exact absurd (by rw [hsp, ha]; simp [txAsk]) h2
        by_cases hw : l.takeWhile isL = txWeigh
        · exact absurd (by rw [hsp, hw]; simp [txWeigh]) h3
        rw [if_neg hw, if_neg ha]
        by_cases hno : l.takeWhile isL = txNone
        · rw [if_pos hno]
          by_cases h0 : ns.length = 0
          · have : ns = [] := List.length_eq_zero_iff.1 h0
            subst this
            have hs := (nums_zero.1 hi).1
            exfalso
            have hlong : ∀ (l cur : List UInt8), snums l [] cur ≠ some [] := by
              intro l
              induction l with
              | nil => intro cur; simp [snums]
              | cons d u ih =>
                intro cur
                unfold snums
                split
                · cases hn : num1 cur with
                  | none => simp
                  | some n =>
                    simp only []
                    intro h
                    have := (snums_pre u ([] ++ [n]) [] [] h).length_le
                    simp at this
                · exact ih _
            exact hlong _ _ hs
          · rw [if_neg h0]
        · rw [if_neg hno]
    · rw [if_neg hc]

end Go.Proofs.YtcmeppjfjledfakDoor
