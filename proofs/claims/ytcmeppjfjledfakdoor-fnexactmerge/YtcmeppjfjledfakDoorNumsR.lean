/-
  The document's numbers of a text, all of them: a list of the call's own.
-/
import Derived.Test.YtcmeppjfjledfakDoorNumR
set_option linter.unusedVariables false
set_option linter.unusedSimpArgs false
namespace Go.Proofs.YtcmeppjfjledfakDoor
open Go.RowKit
attribute [local go_sem ↓] Go.wp_at_zero Go.wp_at_succ

def gd (ns : List Int) (j : Nat) : Int := ns.getD j 0
theorem gd_snoc_lt {ns : List Int} {n : Int} {j : Nat} (h : j < ns.length) : gd (ns ++ [n]) j = gd ns j := by
  simp [gd, List.getElem?_append_left h]
theorem gd_snoc_at (ns : List Int) (n : Int) : gd (ns ++ [n]) ns.length = n := by simp [gd]
theorem extract_list (s : ByteArray) (a b : Nat) : (s.extract a b).data.toList = (s.data.toList.drop a).take (b - a) := by
  simp [ByteArray.data_extract, List.extract]
theorem drop_cons (s : ByteArray) (i : Nat) (h : i < s.size) : s.data.toList.drop i = s[i] :: s.data.toList.drop (i + 1) := by
  rw [List.drop_eq_getElem_cons (by simpa using h)]
  rfl
theorem cur_next (s : ByteArray) {fr i : Nat} (h : fr ≤ i) (hi : i < s.size) : (s.data.toList.drop fr).take (i + 1 - fr) = (s.data.toList.drop fr).take (i - fr) ++ [s[i]] := by
  obtain ⟨j, rfl⟩ : ∃ j, i = fr + j := ⟨i - fr, by omega⟩
  rw [show fr + j + 1 - fr = j + 1 by omega, show fr + j - fr = j by omega]
  exact take_next s fr j hi
/-- Where the reading stands at byte i: the word from fr on, the numbers ahead of it. -/
def Stand (s : ByteArray) (T : Option (List Int)) (i fr : Nat) (ns : List Int) : Prop :=
  (i ≤ s.size ∧ fr ≤ i ∧ snums (s.data.toList.drop i) ns ((s.data.toList.drop fr).take (i - fr)) = T) ∨ (i = s.size + 1 ∧ T = some ns)
theorem Stand.on {s : ByteArray} {T : Option (List Int)} {i fr : Nat} {ns : List Int} (h : Stand s T i fr ns) (hi : i < s.size) (hc : s[i] ≠ 32) : Stand s T (i + 1) fr ns := by
  rcases h with ⟨h1, h2, h3⟩ | ⟨h1, _⟩
  · refine .inl ⟨by omega, by omega, ?_⟩
    rw [cur_next s h2 hi, ← h3, drop_cons s i hi]
    simp [snums, hc]
  · omega
theorem Stand.word {s : ByteArray} {T : Option (List Int)} {i fr : Nat} {ns : List Int} (h : Stand s T i fr ns) (hi : i ≤ s.size) (hc : (hi : i < s.size) → s[i] = 32) :
    (∀ n, num1 ((s.data.toList.drop fr).take (i - fr)) = some n → Stand s T (i + 1) (i + 1) (ns ++ [n])) ∧ (num1 ((s.data.toList.drop fr).take (i - fr)) = none → T = none) := by
  rcases h with ⟨h1, h2, h3⟩ | ⟨h1, _⟩
  · by_cases hlt : i < s.size
    · rw [drop_cons s i hlt, hc hlt] at h3
      constructor
      · intro n hn
        refine .inl ⟨by omega, Nat.le_refl _, ?_⟩
        rw [← h3]
        simp [snums, hn]
      · intro hn
        rw [← h3]
        simp [snums, hn]
    · have he : i = s.size := by omega
      have hd : s.data.toList.drop i = [] := List.drop_eq_nil_of_le (by simp; omega)
      rw [hd] at h3
      constructor
      · intro n hn
        refine .inr ⟨by omega, ?_⟩
        rw [← h3]
        simp [snums, hn]
      · intro hn
        rw [← h3]
        simp [snums, hn]
  · omega

/-- A list of numbers that is answered, and whether it is one. -/
def NAns (w w' : World) (e : Ending) (T : Option (List Int)) : Prop :=
  ∃ (ns : List Int) (ok : Bool) (g cap : Nat), e = .returned (.tuple #[.slice (some ⟨g, 0, none⟩) ns.length cap, .bool ok]) ∧ ((ok = true ∧ T = some ns) ∨ (ok = false ∧ T = none)) ∧ ns.length ≤ 1048577 ∧ IOwn w' w.heap.size g cap ns.length (gd ns) ∧ Below w.heap.size w w'

set_option maxHeartbeats 2000000 in
set_option maxRecDepth 20000 in
theorem l1Numbers_any (s : ByteArray) (hs : s.size ≤ 1048576) (w : World) :
    Calls Tryd.prog 38 #[.string s] w fun e w' => NAns w w' e (snums s.data.toList [] []) := by
  have HS0 : Hid (Stand s (snums s.data.toList [] []) 0 0 []) := .inl ⟨by omega, Nat.le_refl _, by simp⟩
  generalize snums s.data.toList [] [] = T at HS0 ⊢
  have hO0 : IOwn (w.alloc (.cells #[] 2)) w.heap.size w.heap.size 0 0 (gd []) := IOwn.empty w (Nat.le_refl _) _
  go_enter Tryd.func38, Tryd.ntmps38
  go_wp2
  go_loopw [4, 5, 6] (fun o f x wr => ∃ (i fr g c : Nat) (ns : List Int), i ≤ s.size + 1 ∧ fr ≤ i ∧ ns.length ≤ i ∧ x = .int .i64 i ∧ f = .int .i64 fr ∧ o = .slice (some ⟨g, 0, none⟩) ns.length c ∧ Hid (Stand s T i fr ns) ∧ IOwn wr w.heap.size g c ns.length (gd ns) ∧ Below w.heap.size w wr) (fun _ _ x _ => s.size + 1 - (intOf x).toNat)
  case atStart => exact ⟨0, 0, w.heap.size, 0, [], by omega, Nat.le_refl _, Nat.le_refl _, rfl, rfl, rfl, HS0, hO0, (Below.refl _ _).alloc (Nat.le_refl _) _⟩
  case round =>
    clear hO0 HS0
    obtain ⟨i, fr, g, c, ns, hi, hfr, hln, rfl, rfl, rfl, HS, hown, hbel⟩ := hrel
    have hgl := hown.lt
    have hgb := hown.base
    by_cases hle : i ≤ s.size
    rotate_left
    · have hle' : ¬ (i : Int) ≤ (s.size : Int) := by omega
      have HT : Hid (T = some ns) := by
        rcases HS.out with h | h
        · omega
        · exact h.2
      go_wp2
      go_ret2
      exact ⟨ns, true, g, c, rfl, .inl ⟨rfl, HT.out⟩, by omega, hown, hbel⟩
    have hle' : (i : Int) ≤ (s.size : Int) := by omega
    by_cases hc : ∃ h : i < s.size, s[i] ≠ 32
    · obtain ⟨hlt, hc⟩ := hc
      have hlt' : (i : Int) < (s.size : Int) := by omega
      have hi0 : (0 : Int) ≤ (i : Int) := by omega
      have hz : ¬ (s[i].toNat : Int) = 32 := fun e => hc (UInt8.toNat_inj.1 (by simp; omega))
      have hzb : ((s[i].toNat : Int) != 32) = true := by simpa using hz
      have HS1 : Hid (Stand s T (i + 1) fr ns) := HS.out.on hlt hc
      clear hc hz
      go_wp2
      go_roundw
      case rel => exact ⟨i + 1, fr, g, c, ns, by omega, by omega, by omega, by go_num, rfl, rfl, HS1, hown, hbel⟩
      case measure => simp [intOf]; omega
    have hc' : (h : i < s.size) → s[i] = 32 := fun h => Classical.byContradiction fun e => hc ⟨h, e⟩
    obtain ⟨w1, w2⟩ := HS.out.word hle hc'
    have HW1 : Hid (∀ n, num1 ((s.data.toList.drop fr).take (i - fr)) = some n → Stand s T (i + 1) (i + 1) (ns ++ [n])) := w1
    have HW2 : Hid (num1 ((s.data.toList.drop fr).take (i - fr)) = none → T = none) := w2
    have HX : Hid (∀ W, Calls Tryd.prog 45 #[.string (s.extract fr i)] W fun e w' => e = .returned (ret2 (num1 ((s.data.toList.drop fr).take (i - fr)))) ∧ w' = W) := fun W => by
      have := l1Number_any (s.extract fr i) (by simp; omega) W
      rwa [extract_list] at this
    clear w1 w2
    have hi0 : (0 : Int) ≤ (i : Int) := by omega
    have hf0 : (0 : Int) ≤ (fr : Int) := by omega
    have hfi : (fr : Int) ≤ (i : Int) := by omega
    have hcond : (i < s.size ∧ (∃ h : i < s.size, ((s[i].toNat : Int) != 32) = false)) ∨ ¬ i < s.size := by
      by_cases hlt : i < s.size
      · exact .inl ⟨hlt, hlt, by rw [hc' hlt]; rfl⟩
      · exact .inr hlt
    have hstep : ∀ n : Int, num1 ((s.data.toList.drop fr).take (i - fr)) = some n → Hid (Stand s T (i + 1) (i + 1) (ns ++ [n])) := fun n h => HW1.out n h
    have HST : Hid (∀ n : Int, num1 ((s.data.toList.drop fr).take (i - fr)) = some n → Hid (Stand s T (i + 1) (i + 1) (ns ++ [n]))) := hstep
    clear hstep hc hc' HW1 HS
    cases hn : num1 ((s.data.toList.drop fr).take (i - fr)) with
    | none =>
      rw [hn] at HX
      have HX0 : Hid (∀ W, Calls Tryd.prog 45 #[.string (s.extract fr i)] W fun e w' => e = .returned (.tuple #[.int .i64 0, .bool false]) ∧ w' = W) := HX
      clear HX
      have HX := HX0
      clear HX0
      have HT : Hid (T = none) := HW2.out hn
      clear HW2 HST hn
      rcases hcond with ⟨hlt, hlt2, hzb⟩ | hlt
      · have hlt' : (i : Int) < (s.size : Int) := by omega
        go_wp2_with (go_at_call 45; refine (HX.out _).mono ?_; rintro e w1 ⟨rfl, hq⟩; have hq' := hq.symm; subst hq'; clear hq)
        go_ret2
        exact ⟨ns, false, g, c, rfl, .inr ⟨rfl, HT.out⟩, by omega, hown, hbel⟩
      · have hlt' : ¬ (i : Int) < (s.size : Int) := by omega
        go_wp2_with (go_at_call 45; refine (HX.out _).mono ?_; rintro e w1 ⟨rfl, hq⟩; have hq' := hq.symm; subst hq'; clear hq)
        go_ret2
        exact ⟨ns, false, g, c, rfl, .inr ⟨rfl, HT.out⟩, by omega, hown, hbel⟩
    | some n =>
      rw [hn] at HX
      have HX0 : Hid (∀ W, Calls Tryd.prog 45 #[.string (s.extract fr i)] W fun e w' => e = .returned (.tuple #[.int .i64 n, .bool true]) ∧ w' = W) := HX
      clear HX
      have HX := HX0
      clear HX0
      have HSn := HST.out n hn
      clear HW2 HST hn
      rcases hcond with ⟨hlt, hlt2, hzb⟩ | hlt
      · have hlt' : (i : Int) < (s.size : Int) := by omega
        go_wp2_with (first | (go_at_call 45; refine (HX.out _).mono ?_; rintro e w1 ⟨rfl, hq⟩; have hq' := hq.symm; subst hq'; clear hq) | (at_builtin; refine wpList_append_int rfl _ _ rfl w.heap.size g c ns.length (gd ns) rfl (by exact hown.below ((Below.refl _ _).alloc (Nat.le_refl _) _) (by omega)) ⟨wr.heap.size, 0, none⟩ 1 n rfl (by simp [go_sem]) (by omega) (by simp; omega) ?_; intro g' c' w3 hown3 hgrow3 hat3))
        have hown4 := hown3 (gd (ns ++ [n])) (fun j hj => gd_snoc_lt hj) (gd_snoc_at ns n)
        have hB3 := (hbel.alloc (o := .cells #[.int .i64 n] 2) (by omega)).grown hgrow3 (by simp; omega) (fun j hj => by cases hj; omega)
        have hl1 : (ns ++ [n]).length = ns.length + 1 := by simp
        go_roundw
        case rel => exact ⟨i + 1, i + 1, g', c', ns ++ [n], by omega, Nat.le_refl _, by rw [hl1]; omega, by go_num, by go_num, by rw [hl1], HSn, by rw [hl1]; exact hown4, hB3⟩
        case measure => simp [intOf]; omega
      · have hlt' : ¬ (i : Int) < (s.size : Int) := by omega
        go_wp2_with (first | (go_at_call 45; refine (HX.out _).mono ?_; rintro e w1 ⟨rfl, hq⟩; have hq' := hq.symm; subst hq'; clear hq) | (at_builtin; refine wpList_append_int rfl _ _ rfl w.heap.size g c ns.length (gd ns) rfl (by exact hown.below ((Below.refl _ _).alloc (Nat.le_refl _) _) (by omega)) ⟨wr.heap.size, 0, none⟩ 1 n rfl (by simp [go_sem]) (by omega) (by simp; omega) ?_; intro g' c' w3 hown3 hgrow3 hat3))
        have hown4 := hown3 (gd (ns ++ [n])) (fun j hj => gd_snoc_lt hj) (gd_snoc_at ns n)
        have hB3 := (hbel.alloc (o := .cells #[.int .i64 n] 2) (by omega)).grown hgrow3 (by simp; omega) (fun j hj => by cases hj; omega)
        have hl1 : (ns ++ [n]).length = ns.length + 1 := by simp
        go_roundw
        case rel => exact ⟨i + 1, i + 1, g', c', ns ++ [n], by omega, Nat.le_refl _, by rw [hl1]; omega, by go_num, by go_num, by rw [hl1], HSn, by rw [hl1]; exact hown4, hB3⟩
        case measure => simp [intOf]; omega

end Go.Proofs.YtcmeppjfjledfakDoor
