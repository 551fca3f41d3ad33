/-
  A map's text, plainly: the program's number of a word is the document's.
-/
import Derived.Test.YtmnohgcjdhokdaeDoorTxtP
import Derived.Lib.ParseIntB
import Derived.Lib.ItoaMem
import Derived.Lib.Split
set_option linter.unusedVariables false
set_option linter.unusedSimpArgs false
namespace Go.Proofs.YtmnohgcjdhokdaeDoor
open Go.Lib (decDigits itoa parseIntB parseUintB parseUintM)

theorem dec_ten {u : Nat} (h : 10 ≤ u) : decDigits u = decDigits (u / 10) ++ [UInt8.ofNat (48 + u % 10)] := by
  rw [decDigits, dif_neg (by omega)]
theorem dec_one {u : Nat} (h : u < 10) : decDigits u = [UInt8.ofNat (48 + u)] := by
  rw [decDigits, dif_pos h]
theorem head_app {l t : List UInt8} (h : l ≠ []) : (l ++ t).head? = l.head? := by
  cases l with
  | nil => exact absurd rfl h
  | cons c r => rfl
theorem ofD {d : Nat} (h : d < 10) : (UInt8.ofNat (48 + d)).toNat = 48 + d := by simp; omega
theorem isD_of {d : Nat} (h : d < 10) : isD (UInt8.ofNat (48 + d)) = true := by unfold isD; rw [ofD h]; simp; omega
theorem dg_of {d : Nat} (h : d < 10) : dg (UInt8.ofNat (48 + d)) = d := by unfold dg; rw [ofD h]; omega
theorem dec_all (u : Nat) : (decDigits u).all isD = true ∧ decDigits u ≠ [] ∧ val (decDigits u) = u ∧ ((decDigits u).head? = some 48 ↔ u = 0) := by
  induction u using Nat.strongRecOn with
  | _ u ih =>
    by_cases h : u < 10
    · rw [dec_one h]
      refine ⟨by rw [List.all_cons, isD_of h]; rfl, by simp, ?_, ?_⟩
      · show (0 : Int) * 10 + dg (UInt8.ofNat (48 + u)) = u
        rw [dg_of h]; omega
      simp only [List.head?_cons, Option.some.injEq]
      constructor
      · intro e
        have e1 := congrArg UInt8.toNat e
        rw [ofD h] at e1
        have : (48 : UInt8).toNat = 48 := rfl
        omega
      · rintro rfl; rfl
    · have h10 : 10 ≤ u := by omega
      obtain ⟨i1, i2, i3, i4⟩ := ih (u / 10) (by omega)
      have hm : u % 10 < 10 := Nat.mod_lt _ (by omega)
      rw [dec_ten h10]
      refine ⟨all_snoc.2 ⟨i1, isD_of hm⟩, by simp, ?_, ?_⟩
      · rw [val_snoc, i3, dg_of hm]
        omega
      · rw [head_app i2, i4]
        omega
theorem dec_val : ∀ (k : Nat) (d : List UInt8), d.length = k → d.all isD = true → d ≠ [] → (d.head? = some 48 → d.length = 1) → decDigits (val d).toNat = d := by
  intro k
  induction k with
  | zero => intro d h _ hne _; exact absurd (List.length_eq_zero_iff.1 h) hne
  | succ k ih =>
    intro d hk hall hne h0
    obtain ⟨t, c, rfl⟩ : ∃ t c, d = t ++ [c] := ⟨d.dropLast, d.getLast hne, (List.dropLast_concat_getLast hne).symm⟩
    rw [all_snoc] at hall
    have hb := dg_bd hall.2
    have hc : UInt8.ofNat (48 + (dg c).toNat) = c := by
      have h1 : (dg c).toNat = c.toNat - 48 := by unfold dg; omega
      have h2 := hall.2
      unfold isD at h2
      simp at h2
      rw [h1, show 48 + (c.toNat - 48) = c.toNat by omega]
      exact UInt8.ofNat_toNat
    have hv := val_snoc t c
    by_cases ht : t = []
    · subst ht
      have e : val ([] ++ [c]) = dg c := by simp [val]
      rw [e, dec_one (by omega), hc]
      rfl
    · have hh : t.head? ≠ some 48 := by
        intro e
        have : (t ++ [c]).head? = some 48 := by rw [head_app ht]; exact e
        have := h0 this
        simp at this
        exact ht this
      have hn := val_nine hall.1 ht hh
      have hz := ih t (by simp at hk; omega) hall.1 ht (fun e => absurd e hh)
      have e1 : (val (t ++ [c])).toNat / 10 = (val t).toNat := by rw [hv]; omega
      have e2 : (val (t ++ [c])).toNat % 10 = (dg c).toNat := by rw [hv]; omega
      rw [dec_ten (by rw [hv]; omega), e1, e2, hz, hc]
theorem isD45 {d : List UInt8} (h : d.all isD = true) : d.head? ≠ some 45 := by
  cases d with
  | nil => simp
  | cons c t =>
    simp only [List.head?_cons, ne_eq, Option.some.injEq]
    rintro rfl
    simp [isD] at h
theorem dec_len {u : Nat} (h : u ≤ 999999999) : (decDigits u).length ≤ 9 := by
  obtain ⟨i1, i2, i3, i4⟩ := dec_all u
  by_cases h0 : u = 0
  · subst h0; rw [dec_one (by omega)]; simp
  · exact ((val_nine i1 i2 (fun e => h0 (i4.1 e))).1).1 (by rw [i3]; omega)
theorem num1_itoa {v : Int} (h0 : -999999999 ≤ v) (h1 : v ≤ 999999999) : num1 (itoa v) = some v := by
  by_cases hv : v < 0
  · obtain ⟨u, rfl⟩ : ∃ u : Nat, v = -(u : Int) := ⟨v.natAbs, by omega⟩
    obtain ⟨i1, i2, i3, i4⟩ := dec_all u
    rw [Lib.itoa_neg u (by omega)]
    have hl := dec_len (u := u) (by omega)
    have hp : 0 < (decDigits u).length := List.length_pos_iff.2 i2
    unfold num1
    rw [if_pos (by simp)]
    simp only [List.tail_cons]
    unfold numD
    rw [if_neg (by omega), if_neg (by rw [i1]; simp), if_neg (by intro e; have := i4.1 e.1; omega), i3]
    rfl
  · obtain ⟨u, rfl⟩ : ∃ u : Nat, v = (u : Int) := ⟨v.toNat, by omega⟩
    obtain ⟨i1, i2, i3, i4⟩ := dec_all u
    rw [Lib.itoa_nonneg]
    have hl := dec_len (u := u) (by omega)
    have hp : 0 < (decDigits u).length := List.length_pos_iff.2 i2
    unfold num1
    rw [if_neg (isD45 i1)]
    unfold numD
    rw [if_neg (by omega), if_neg (by rw [i1]; simp), if_neg (by
      intro e
      have hu := i4.1 e.1
      subst hu
      rw [dec_one (by omega)] at e
      simp at e), i3]
    rfl
theorem itoa_num1 {l : List UInt8} {v : Int} (h : num1 l = some v) : itoa v = l ∧ -999999999 ≤ v ∧ v ≤ 999999999 := by
  have key : ∀ (neg : Bool) (d : List UInt8) (v : Int), numD neg d = some v → d.all isD = true ∧ d ≠ [] ∧ (d.head? = some 48 → d.length = 1 ∧ neg = false) ∧ v = (if neg = true then - val d else val d) ∧ d.length ≤ 9 := by
    intro neg d v h
    unfold numD at h
    split at h
    · cases h
    · next hl =>
      split at h
      · cases h
      · next ha =>
        split at h
        · cases h
        · next hz =>
          injection h with h
          have hne : d ≠ [] := by rintro rfl; exact hl (.inl rfl)
          refine ⟨by simpa using ha, hne, fun e => ?_, h.symm, by omega⟩
          have hp := List.length_pos_iff.2 hne
          constructor
          · by_cases c : 1 < d.length
            · exact absurd ⟨e, .inr c⟩ hz
            · omega
          · cases neg with
            | false => rfl
            | true => exact absurd ⟨e, .inl rfl⟩ hz
  have top : ∀ d : List UInt8, d.all isD = true → d ≠ [] → (d.head? = some 48 → d.length = 1) → d.length ≤ 9 → 0 ≤ val d ∧ val d ≤ 999999999 := by
    intro d h1 h2 h3 h4
    refine ⟨val_nonneg h1, ?_⟩
    by_cases h0 : d.head? = some 48
    · have := h3 h0
      obtain ⟨c, rfl⟩ := List.length_eq_one_iff.1 this
      simp at h1
      have := dg_bd h1
      simp [val]
      omega
    · exact ((val_nine h1 h2 h0).1).2 h4
  unfold num1 at h
  split at h
  · next h45 =>
    obtain ⟨k1, k2, k3, k4, k5⟩ := key _ _ _ h
    obtain ⟨t1, t2⟩ := top _ k1 k2 (fun e => (k3 e).1) k5
    have hd := dec_val _ _ rfl k1 k2 (fun e => (k3 e).1)
    have hpos : 1 ≤ val l.tail := by
      by_cases h0 : l.tail.head? = some 48
      · have := (k3 h0).2; cases this
      · exact (val_nine k1 k2 h0).2
    simp only [if_pos] at k4
    obtain ⟨u, hu⟩ : ∃ u : Nat, val l.tail = (u : Int) := ⟨(val l.tail).toNat, by omega⟩
    rw [hu] at k4 hpos t1 t2 hd
    subst k4
    refine ⟨?_, by omega, by omega⟩
    rw [Lib.itoa_neg u (by omega)]
    simp only [Int.toNat_natCast] at hd
    rw [hd]
    cases l with
    | nil => simp at h45
    | cons c t => simp at h45; subst h45; rfl
  · next h45 =>
    obtain ⟨k1, k2, k3, k4, k5⟩ := key _ _ _ h
    obtain ⟨t1, t2⟩ := top _ k1 k2 (fun e => (k3 e).1) k5
    have hd := dec_val _ _ rfl k1 k2 (fun e => (k3 e).1)
    simp only [Bool.false_eq_true, if_false] at k4
    obtain ⟨u, hu⟩ : ∃ u : Nat, val l = (u : Int) := ⟨(val l).toNat, by omega⟩
    rw [hu] at k4 t1 t2 hd
    subst k4
    refine ⟨?_, by omega, by omega⟩
    rw [Lib.itoa_nonneg]
    simpa using hd
theorem parseU : ∀ (d : List UInt8) (acc : Nat) (M : Nat), d.all isD = true → d.foldl (fun n c => n * 10 + dg c) (acc : Int) ≤ 999999999 → 999999999 ≤ M → parseUintM M acc d = .ok (d.foldl (fun n c => n * 10 + dg c) (acc : Int)).toNat
  | [], acc, M, _, _, _ => by simp [parseUintM]
  | c :: t, acc, M, ha, hv, hM => by
    simp only [List.all_cons, Bool.and_eq_true] at ha
    have hb := dg_bd ha.1
    have h2 := ha.1
    unfold isD at h2
    simp at h2
    have e : (acc : Int) * 10 + dg c = ((acc * 10 + (c.toNat - 48) : Nat) : Int) := by unfold dg; omega
    simp only [List.foldl_cons] at hv ⊢
    have hge := fold_bd t ((acc : Int) * 10 + dg c) ha.2 (by omega)
    rw [e] at hv hge ⊢
    rw [parseUintM, if_pos ⟨h2.1, h2.2⟩, if_neg (by omega), if_neg (by omega)]
    exact parseU t _ M ha.2 hv hM
theorem parse_itoa {v : Int} (h0 : -999999999 ≤ v) (h1 : v ≤ 999999999) : parseIntB 64 (itoa v) = .ok v := by
  have hU : ∀ u : Nat, u ≤ 999999999 → parseUintB 64 (decDigits u) = .ok u := by
    intro u hu
    obtain ⟨i1, i2, i3, i4⟩ := dec_all u
    unfold parseUintB
    rw [if_neg i2]
    have hv : (decDigits u).foldl (fun n c => n * 10 + dg c) ((0 : Nat) : Int) = u := i3
    rw [parseU _ 0 _ i1 (by rw [hv]; omega) (by decide), hv]
    simp
  by_cases hv : v < 0
  · obtain ⟨u, rfl⟩ : ∃ u : Nat, v = -(u : Int) := ⟨v.natAbs, by omega⟩
    rw [Lib.itoa_neg u (by omega)]
    unfold parseIntB
    simp only [show (45 : UInt8).toNat = 45 from rfl, or_true, if_true, hU u (by omega)]
    simp
    omega
  · obtain ⟨u, rfl⟩ : ∃ u : Nat, v = (u : Int) := ⟨v.toNat, by omega⟩
    rw [Lib.itoa_nonneg]
    obtain ⟨i1, i2, i3, i4⟩ := dec_all u
    have hu := hU u (by omega)
    cases hd : decDigits u with
    | nil => exact absurd hd i2
    | cons c t =>
      rw [hd] at i1 hu
      simp only [List.all_cons, Bool.and_eq_true] at i1
      have h2 := i1.1
      unfold isD at h2
      simp at h2
      unfold parseIntB
      simp only [show ¬ (c.toNat = 43 ∨ c.toNat = 45) by omega, if_false, hu]
      simp [show ¬ c.toNat = 45 by omega]
      omega
/-- The program's number of a word: what ParseInt takes, small enough, and written as it would be shown. -/
def rdNum (l : List UInt8) : Option Int := match parseIntB 64 l with | .ok v => if v < -999999999 ∨ 999999999 < v ∨ itoa v ≠ l then none else some v | _ => none
theorem rdNum_is (l : List UInt8) : rdNum l = num1 l := by
  cases h : num1 l with
  | some v =>
    obtain ⟨e, b0, b1⟩ := itoa_num1 h
    have hp := parse_itoa b0 b1
    rw [e] at hp
    unfold rdNum
    rw [hp]
    simp only
    rw [if_neg]
    rintro (c | c | c)
    · omega
    · omega
    · exact c e
  | none =>
    unfold rdNum
    split
    · next v hv =>
      by_cases c : v < -999999999 ∨ 999999999 < v ∨ itoa v ≠ l
      · rw [if_pos c]
      · exfalso
        have h1 : itoa v = l := by
          by_cases e : itoa v = l
          · exact e
          · exact absurd (.inr (.inr e)) c
        have := num1_itoa (v := v) (by omega) (by omega)
        rw [h1, h] at this
        cases this
    · rfl

/-- A sign ahead of the first word. -/
def onHead (c : UInt8) : List (List UInt8) → List (List UInt8)
  | [] => []
  | h :: r => (c :: h) :: r
def onFirst (cur : List UInt8) : List (List UInt8) → List (List UInt8)
  | [] => []
  | h :: r => (cur ++ h) :: r
/-- A text's words, between its blanks. -/
def gws : List UInt8 → List (List UInt8)
  | [] => [[]]
  | c :: t => if c = 32 then [] :: gws t else onHead c (gws t)
theorem gws_ne : ∀ l, gws l ≠ []
  | [] => by simp [gws]
  | c :: t => by
    unfold gws
    split
    · simp
    · have := gws_ne t
      cases h : gws t with
      | nil => exact absurd h this
      | cons a r => simp [onHead]
theorem onFirst_onHead (cur : List UInt8) (c : UInt8) (L : List (List UInt8)) : onFirst cur (onHead c L) = onFirst (cur ++ [c]) L := by cases L <;> simp [onHead, onFirst]
theorem onFirst_nil (L : List (List UInt8)) : onFirst [] L = L := by cases L <;> simp [onFirst]
theorem snums_words : ∀ (l : List UInt8) (out : List Int) (cur : List UInt8), snums l out cur = ((onFirst cur (gws l)).mapM num1).map (out ++ ·)
  | [], out, cur => by
    simp only [snums, gws, onFirst, List.append_nil, List.mapM_cons, List.mapM_nil]
    cases h : num1 cur <;> simp
  | c :: t, out, cur => by
    unfold snums gws
    split
    · simp only [onFirst, List.append_nil, List.mapM_cons]
      cases num1 cur with
      | none => simp
      | some n =>
        simp only
        rw [snums_words t (out ++ [n]) [], onFirst_nil]
        cases (gws t).mapM num1 <;> simp
    · rw [snums_words t out (cur ++ [c]), onFirst_onHead]
theorem onHead_len (c : UInt8) (L : List (List UInt8)) : (onHead c L).length = L.length := by cases L <;> simp [onHead]
theorem split_blank (k : Nat) (t : List UInt8) : Lib.splitK [32] 0 (k + 1) (32 :: t) = [] :: Lib.splitK [32] 0 k t := by
  have h : Lib.index (32 :: t) [32] = 0 := by rw [Lib.index]; simp [List.isPrefixOf]
  rw [Lib.splitK, h]
  simp
theorem split_other (k : Nat) {c : UInt8} (hc : c ≠ 32) (t : List UInt8) : Lib.splitK [32] 0 k (c :: t) = onHead c (Lib.splitK [32] 0 k t) := by
  cases k with
  | zero => rfl
  | succ k =>
    have hp : ([32] : List UInt8).isPrefixOf (c :: t) = false := by simp [List.isPrefixOf, Ne.symm hc]
    have hix : Lib.index (c :: t) [32] = if Lib.index t [32] == -1 then -1 else Lib.index t [32] + 1 := by rw [Lib.index, hp]; simp
    have hge := Lib.index_ge t [32]
    by_cases hm : Lib.index t [32] = -1
    · rw [Lib.splitK, Lib.splitK, hix, hm]
      simp [onHead]
    · obtain ⟨j, hj⟩ : ∃ j : Nat, Lib.index t [32] = j := ⟨(Lib.index t [32]).toNat, by omega⟩
      rw [hj] at hix
      have h1 : (((j : Nat) : Int) == -1) = false := beq_eq_false_iff_ne.2 (by omega)
      rw [h1] at hix
      have h2 : (((j : Int) + 1) == -1) = false := beq_eq_false_iff_ne.2 (by omega)
      have h3 : ((j : Int) + 1).toNat = j + 1 := by omega
      rw [Lib.splitK, Lib.splitK, hix, hj]
      simp [h1, h2, h3, onHead]
theorem split_words : ∀ (l : List UInt8) (k : Nat), ((gws l).length ≤ k + 1 → Lib.splitK [32] 0 k l = gws l) ∧ (k + 1 < (gws l).length → (Lib.splitK [32] 0 k l).length = k + 1)
  | [], k => by
    have : Lib.splitK [32] 0 k [] = [[]] := by cases k <;> simp [Lib.splitK, Lib.index]
    simp [gws, this]
  | c :: t, k => by
    by_cases hc : c = 32
    · subst hc
      have hw : gws (32 :: t) = [] :: gws t := by rw [gws, if_pos rfl]
      have hl := List.length_pos_iff.2 (gws_ne t)
      rw [hw]
      cases k with
      | zero =>
        refine ⟨fun h => ?_, fun _ => by simp [Lib.splitK]⟩
        simp only [List.length_cons] at h
        omega
      | succ k =>
        obtain ⟨i1, i2⟩ := split_words t k
        rw [split_blank]
        refine ⟨fun h => ?_, fun h => ?_⟩
        · rw [i1 (by simpa using h)]
        · simp [i2 (by simpa using h)]
    · have hw : gws (c :: t) = onHead c (gws t) := by rw [gws, if_neg hc]
      obtain ⟨i1, i2⟩ := split_words t k
      rw [hw, split_other k hc, onHead_len, onHead_len]
      exact ⟨fun h => by rw [i1 h], fun h => i2 h⟩
theorem gws_len : ∀ l : List UInt8, (gws l).length ≤ l.length + 1
  | [] => by simp [gws]
  | c :: t => by
    have := gws_len t
    unfold gws
    split
    · simpa using this
    · rw [onHead_len]; simp; omega
theorem mapM_len {f : List UInt8 → Option Int} : ∀ {L : List (List UInt8)} {ns : List Int}, L.mapM f = some ns → ns.length = L.length
  | [], ns, h => by simp at h; subst h; rfl
  | a :: r, ns, h => by
    simp only [List.mapM_cons] at h
    cases ha : f a with
    | none => rw [ha] at h; cases h
    | some n =>
      cases hr : r.mapM f with
      | none => rw [ha, hr] at h; cases h
      | some m =>
        rw [ha, hr] at h
        simp at h
        subst h
        simp [mapM_len hr]
/-- What the program reads: 301 words at most, one and threes. -/
def iRead (l : List UInt8) : Option (List Int) :=
  let W := Lib.splitK [32] 0 (min 302 (l.length + 1) - 1) l
  if 301 < W.length ∨ W.length % 3 ≠ 1 then none else W.mapM rdNum
/-- What the document reads. -/
def sRead (l : List UInt8) : Option (List Int) := match snums l [] [] with | some ns => if ns.length % 3 ≠ 1 then none else some ns | none => none
/-- Both read the same, but for more than 301 numbers. -/
theorem gread_same (l : List UInt8) : iRead l = (match sRead l with | some ns => if 301 < ns.length then none else some ns | none => none) := by
  have hf : rdNum = num1 := funext rdNum_is
  have hs : snums l [] [] = (gws l).mapM num1 := by rw [snums_words, onFirst_nil]; cases (gws l).mapM num1 <;> simp
  have hl := gws_len l
  have hp := List.length_pos_iff.2 (gws_ne l)
  obtain ⟨i1, i2⟩ := split_words l (min 302 (l.length + 1) - 1)
  unfold iRead sRead
  rw [hs, hf]
  simp only
  by_cases h : (gws l).length ≤ min 302 (l.length + 1) - 1 + 1
  · rw [i1 h]
    cases hm : (gws l).mapM num1 with
    | none => simp
    | some ns =>
      have hn := mapM_len hm
      rw [← hn]
      simp only
      by_cases h3 : ns.length % 3 = 1
      · by_cases h4 : 301 < ns.length
        · rw [if_pos (.inl h4), if_neg (by omega)]; simp [h4]
        · rw [if_neg (by omega), if_neg (by omega)]; simp [h4]
      · rw [if_pos (.inr h3), if_pos h3]
  · have hw := i2 (by omega)
    have h302 : min 302 (l.length + 1) - 1 + 1 = 302 := by omega
    rw [hw, h302, if_pos (.inl (by omega))]
    cases hm : (gws l).mapM num1 with
    | none => rfl
    | some ns =>
      have hn := mapM_len hm
      simp only
      by_cases h3 : ns.length % 3 = 1
      · rw [if_neg (by omega)]; simp; omega
      · rw [if_pos h3]

end Go.Proofs.YtmnohgcjdhokdaeDoor
